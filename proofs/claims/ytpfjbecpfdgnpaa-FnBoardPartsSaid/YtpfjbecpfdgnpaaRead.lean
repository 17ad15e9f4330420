/- Letters read back: all cells in a row, the model's search among them, the program's. -/
import Derived.Test.YtpfjbecpfdgnpaaGrow
import Derived.Test.YtpfjbecpfdgnpaaLetter
namespace Go.Proofs.Ytpfjbecpfdgnpaa
open Go.ChangeShapes Go.WideShapes Go.ChangeAt Go.RowKit Go.Joins Go.Deep
set_option linter.unusedSimpArgs false
set_option linter.unusedVariables false
set_option maxRecDepth 100000
set_option maxHeartbeats 400000
def allOf (k : Nat) : List (Int × Int) := if k = 3 ∨ k = 6 then [((k : Int), 0), ((k : Int), 1)] else [((k : Int), 0)]
def allTo (k : Nat) : List (Int × Int) := (List.range k).flatMap allOf
theorem allTo_succ (k : Nat) : allTo (k + 1) = allTo k ++ allOf k := by simp [allTo, List.range_succ]
theorem allTo_le (k : Nat) : (allTo k).length ≤ 2 * k := by
  induction k with
  | zero => simp [allTo]
  | succ k ih =>
    rw [allTo_succ, List.length_append]
    have : (allOf k).length ≤ 2 := by unfold allOf; split <;> simp
    omega
theorem spec_paAll (w : World) :
    Calls Try.prog 124 #[] w fun e w' => ∃ A cap, e = .returned (.slice A (allTo 8).length cap) ∧ Own w' A 27 (flat (allTo 8)) ∧ New w A ∧ Below w.heap.size w w' := by
  obtain ⟨i0, hi, hz0, hz1, hz2⟩ := info_parts cellInfo
  go_enter Try.func124, Try.ntmps124
  go_wp2
  go_loopw [1, 2] (fun v i wr => ∃ k : Nat, k ≤ 8 ∧ i = .int .i64 k ∧ wr.ownsRow w.heap.size 27 2 v (allTo k).length (flat (allTo k)) ∧ Below w.heap.size w wr) (fun _ i _ => 8 - (intOf i).toNat)
  case atStart => exact ⟨0, Nat.zero_le _, rfl, World.ownsRow_nil _ _ _ _, Below.refl _ _⟩
  case round =>
    obtain ⟨k, hk, rfl, hown, hb⟩ := hrel
    by_cases hlt : k < 8
    · have hle := allTo_le k
      have hs := hb.size
      go_wp2_with (first | (at_builtin; refine wpList_append_own _ rfl (.tmp 8) (.tmp 11) 23 rfl w.heap.size 27 i0 _ 2 16 Try.underlying23 hi hz0 hz1 hz2 rfl (by omega) _ (allTo k).length (flat (allTo k)) rfl (hown.alloc _) ⟨wr.heap.size, 0, none⟩ 1 1 [.int .i64 (k : Int), .int .i64 0] rfl rfl two_cells two_one (by unfold maxLen; omega) (by omega) (by simp; omega) ?_; intro v1 w1 hown1 hg1 _) | fail)
      have hb1 : Below w.heap.size w w1 := row_below (hown.alloc _) (hb.alloc hs _) (by simp; omega) hg1
      have hs1 := hb1.size
      clear hg1 hown hb
      rcases Bool.eq_false_or_eq_true (turning (k : Int)) with ht | ht
      · have hall : allOf k = [((k : Int), 0), ((k : Int), 1)] := by unfold turning at ht; simp at ht; unfold allOf; rw [if_pos (by omega)]
        have HA := Lib.hid hall
        refine (spec_paTurning _ _ _).mono ?_; rintro e w2 ⟨rfl, b2⟩
        rw [ht]
        clear ht hall
        obtain ⟨c2, f2⟩ := bcell b2
        have z2 : w1.heap.size < w2.heap.size := by have := b2.size; simp at this; omega
        have hown2 := row_keep (hown1.alloc _) b2
        have hb2 : Below w.heap.size w w2 := (hb1.alloc hs1 _).trans (b2.mono (by simp; omega))
        clear b2 hown1 hb1
        go_wp2_with (first | (at_builtin; refine wpList_append_own _ rfl (.tmp 17) (.tmp 19) 23 rfl w.heap.size 27 i0 _ 2 16 Try.underlying23 hi hz0 hz1 hz2 rfl (by omega) v1 ((allTo k).length + 1) _ rfl (hown2.alloc _) ⟨w2.heap.size, 0, none⟩ 1 1 [.int .i64 (k : Int), .int .i64 1] rfl rfl two_cells two_one (by unfold maxLen; omega) (by omega) (by simp; omega) ?_; intro v3 w3 hown3 hg3 _) | fail)
        have hb3 : Below w.heap.size w w3 := row_below (hown2.alloc _) (hb2.alloc (by omega) _) (by simp; omega) hg3
        clear hown2 hb2 hg3 c2 f2
        go_roundw
        case rel =>
          refine ⟨k + 1, by omega, by go_num, ?_, hb3⟩
          rw [allTo_succ, HA.out, flat_append, List.length_append]
          rw [List.append_assoc] at hown3
          exact hown3
        case measure => simp [intOf]; omega
      · have hall : allOf k = [((k : Int), 0)] := by unfold turning at ht; simp at ht; unfold allOf; rw [if_neg (by omega)]
        have HA := Lib.hid hall
        refine (spec_paTurning _ _ _).mono ?_; rintro e w2 ⟨rfl, b2⟩
        rw [ht]
        clear ht hall
        have hown2 := row_keep (hown1.alloc _) b2
        have hb2 : Below w.heap.size w w2 := (hb1.alloc hs1 _).trans (b2.mono (by simp; omega))
        clear b2 hown1 hb1
        go_wp2
        go_roundw
        case rel =>
          refine ⟨k + 1, by omega, by go_num, ?_, hb2⟩
          rw [allTo_succ, HA.out, flat_append, List.length_append]
          exact hown2
        case measure => simp [intOf]; omega
    · obtain rfl : k = 8 := by omega
      have hv : ∃ A cap, u1 = .slice A (allTo 8).length cap := by
        rcases hown.2 with ⟨rfl, h0⟩ | ⟨g, cap, _, rfl, _⟩
        · exact ⟨none, 0, by rw [h0]⟩
        · exact ⟨_, _, rfl⟩
      obtain ⟨A, cap, rfl⟩ := hv
      have ho := own_of_row hown
      go_wp2
      go_returns
      exact ⟨A, cap, rfl, ho.1, ho.2, hb⟩
/-- Every cell of the row is valid. -/
theorem allTo_good : ∀ c ∈ allTo 8, good c.1 c.2 = true := by decide +kernel
/-- Whether a cell has this text as its letter. -/
def isLet (s : ByteArray) (c : Int × Int) : Bool := [letB c.1 c.2] == s.toList
def rdC (s : ByteArray) : Option (Int × Int) := (allTo 8).find? (isLet s)
def rdK (s : ByteArray) : Int := ((rdC s).getD (0, 0)).1
def rdS (s : ByteArray) : Int := ((rdC s).getD (0, 0)).2
theorem find_step {l : List (Int × Int)} {p : Int × Int → Bool} {k : Nat} (h : k < l.length) (hk : ∀ c ∈ l.take k, p c = false) (hp : p l[k] = false) : ∀ c ∈ l.take (k + 1), p c = false := by
  rw [List.take_succ_eq_append_getElem h]
  intro c hc
  rcases List.mem_append.1 hc with h1 | h1
  · exact hk c h1
  · rw [List.mem_singleton] at h1
    rw [h1]
    exact hp
theorem find_hit {l : List (Int × Int)} {p : Int × Int → Bool} {k : Nat} (h : k < l.length) (hk : ∀ c ∈ l.take k, p c = false) (hp : p l[k] = true) : l.find? p = some l[k] := by
  rw [List.find?_eq_some_iff_getElem]
  refine ⟨hp, k, h, rfl, fun j hj => ?_⟩
  have := hk l[j] (List.mem_take_iff_getElem.2 ⟨j, by omega, rfl⟩)
  simp [this]
theorem find_miss {l : List (Int × Int)} {p : Int × Int → Bool} (hk : ∀ c ∈ l.take l.length, p c = false) : l.find? p = none := by
  rw [List.take_length] at hk
  rw [List.find?_eq_none]
  intro c hc
  simp [hk c hc]
theorem frozen_new (w : World) (cs : Array Value) (t : TypeId) (o : Nat) : (w.alloc (.cells cs t)).frozen? ⟨w.heap.size, o, none⟩ = false := by
  have h : (w.alloc (.cells cs t)).heap[w.heap.size]? = some (.cells cs t (0, 0)) := heap_alloc_new w _
  simp only [World.frozen?, h]
  rfl
end Go.Proofs.Ytpfjbecpfdgnpaa
