/- Letters read back: all cells in a row, the model's search among them, the program's. -/
import Derived.Test.YtdcaohmcidmigaaGrow
import Derived.Test.YtdcaohmcidmigaaLetter
namespace Go.Proofs.Ytdcaohmcidmigaa
open Go.ChangeShapes Go.WideShapes Go.ChangeAt Go.RowKit Go.Joins Go.Deep
set_option linter.unusedSimpArgs false
set_option linter.unusedVariables false
set_option maxRecDepth 100000
set_option maxHeartbeats 400000
def allOf (k : Nat) : List (Int × Int) := if k = 3 ∨ k = 6 then [((k : Int), 0), ((k : Int), 1)] else [((k : Int), 0)]
def allTo (k : Nat) : List (Int × Int) := (List.range k).flatMap allOf
theorem allTo_succ (k : Nat) : allTo (k + 1) = allTo k ++ allOf k := by simp [allTo, List.range_succ]
theorem allTo_le (k : Nat) : (allTo k).length ≤ 2 * k := by
  induction k with
  | zero => simp [allTo]
  | succ k ih =>
    rw [allTo_succ, List.length_append]
    have : (allOf k).length ≤ 2 := by unfold allOf; split <;> simp
    omega
theorem spec_paAll (w : World) :
    Calls Try.prog 74 #[] w fun e w' => ∃ A cap, e = .returned (.slice A (allTo 8).length cap) ∧ Own w' A 45 (flat (allTo 8)) ∧ New w A ∧ Below w.heap.size w w' := by
  obtain ⟨i0, hi, hz0, hz1, hz2⟩ := info_parts cellInfo
  go_enter Try.func74, Try.ntmps74
  go_wp2
  go_loopw [1, 2] (fun v i wr => ∃ k : Nat, k ≤ 8 ∧ i = .int .i64 k ∧ wr.ownsRow w.heap.size 45 2 v (allTo k).length (flat (allTo k)) ∧ Below w.heap.size w wr) (fun _ i _ => 8 - (intOf i).toNat)
  case atStart => exact ⟨0, Nat.zero_le _, rfl, World.ownsRow_nil _ _ _ _, Below.refl _ _⟩
  case round =>
    obtain ⟨k, hk, rfl, hown, hb⟩ := hrel
    by_cases hlt : k < 8
    · have hle := allTo_le k
      have hs := hb.size
      go_wp2_with (first | (at_builtin; refine wpList_append_own _ rfl (.tmp 8) (.tmp 11) 28 rfl w.heap.size 45 i0 _ 2 16 Try.underlying28 hi hz0 hz1 hz2 rfl (by omega) _ (allTo k).length (flat (allTo k)) rfl (hown.alloc _) ⟨wr.heap.size, 0, none⟩ 1 1 [.int .i64 (k : Int), .int .i64 0] rfl rfl two_cells two_one (by unfold maxLen; omega) (by omega) (by simp; omega) ?_; intro v1 w1 hown1 hg1 _) | fail)
      have hb1 : Below w.heap.size w w1 := row_below (hown.alloc _) (hb.alloc hs _) (by simp; omega) hg1
      have hs1 := hb1.size
      clear hg1 hown hb
      rcases Bool.eq_false_or_eq_true (turning (k : Int)) with ht | ht
      · have hall : allOf k = [((k : Int), 0), ((k : Int), 1)] := by unfold turning at ht; simp at ht; unfold allOf; rw [if_pos (by omega)]
        have HA := Lib.hid hall
        refine (spec_paTurning _ _ _).mono ?_; rintro e w2 ⟨rfl, b2⟩
        rw [ht]
        clear ht hall
        obtain ⟨c2, f2⟩ := bcell b2
        have z2 : w1.heap.size < w2.heap.size := by have := b2.size; simp at this; omega
        have hown2 := row_keep (hown1.alloc _) b2
        have hb2 : Below w.heap.size w w2 := (hb1.alloc hs1 _).trans (b2.mono (by simp; omega))
        clear b2 hown1 hb1
        go_wp2_with (first | (at_builtin; refine wpList_append_own _ rfl (.tmp 17) (.tmp 19) 28 rfl w.heap.size 45 i0 _ 2 16 Try.underlying28 hi hz0 hz1 hz2 rfl (by omega) v1 ((allTo k).length + 1) _ rfl (hown2.alloc _) ⟨w2.heap.size, 0, none⟩ 1 1 [.int .i64 (k : Int), .int .i64 1] rfl rfl two_cells two_one (by unfold maxLen; omega) (by omega) (by simp; omega) ?_; intro v3 w3 hown3 hg3 _) | fail)
        have hb3 : Below w.heap.size w w3 := row_below (hown2.alloc _) (hb2.alloc (by omega) _) (by simp; omega) hg3
        clear hown2 hb2 hg3 c2 f2
        go_roundw
        case rel =>
          refine ⟨k + 1, by omega, by go_num, ?_, hb3⟩
          rw [allTo_succ, HA.out, flat_append, List.length_append]
          rw [List.append_assoc] at hown3
          exact hown3
        case measure => simp [intOf]; omega
      · have hall : allOf k = [((k : Int), 0)] := by unfold turning at ht; simp at ht; unfold allOf; rw [if_neg (by omega)]
        have HA := Lib.hid hall
        refine (spec_paTurning _ _ _).mono ?_; rintro e w2 ⟨rfl, b2⟩
        rw [ht]
        clear ht hall
        have hown2 := row_keep (hown1.alloc _) b2
        have hb2 : Below w.heap.size w w2 := (hb1.alloc hs1 _).trans (b2.mono (by simp; omega))
        clear b2 hown1 hb1
        go_wp2
        go_roundw
        case rel =>
          refine ⟨k + 1, by omega, by go_num, ?_, hb2⟩
          rw [allTo_succ, HA.out, flat_append, List.length_append]
          exact hown2
        case measure => simp [intOf]; omega
    · obtain rfl : k = 8 := by omega
      have hv : ∃ A cap, u1 = .slice A (allTo 8).length cap := by
        rcases hown.2 with ⟨rfl, h0⟩ | ⟨g, cap, _, rfl, _⟩
        · exact ⟨none, 0, by rw [h0]⟩
        · exact ⟨_, _, rfl⟩
      obtain ⟨A, cap, rfl⟩ := hv
      have ho := own_of_row hown
      go_wp2
      go_returns
      exact ⟨A, cap, rfl, ho.1, ho.2, hb⟩
/-- Every cell of the row is valid. -/
theorem allTo_good : ∀ c ∈ allTo 8, good c.1 c.2 = true := by decide +kernel
/-- Whether a cell has this text as its letter. -/
def isLet (s : ByteArray) (c : Int × Int) : Bool := [letB c.1 c.2] == s.toList
def rdC (s : ByteArray) : Option (Int × Int) := (allTo 8).find? (isLet s)
def rdK (s : ByteArray) : Int := ((rdC s).getD (0, 0)).1
def rdS (s : ByteArray) : Int := ((rdC s).getD (0, 0)).2
theorem find_step {l : List (Int × Int)} {p : Int × Int → Bool} {k : Nat} (h : k < l.length) (hk : ∀ c ∈ l.take k, p c = false) (hp : p l[k] = false) : ∀ c ∈ l.take (k + 1), p c = false := by
  rw [List.take_succ_eq_append_getElem h]
  intro c hc
  rcases List.mem_append.1 hc with h1 | h1
  · exact hk c h1
  · rw [List.mem_singleton] at h1
    rw [h1]
    exact hp
theorem find_hit {l : List (Int × Int)} {p : Int × Int → Bool} {k : Nat} (h : k < l.length) (hk : ∀ c ∈ l.take k, p c = false) (hp : p l[k] = true) : l.find? p = some l[k] := by
  rw [List.find?_eq_some_iff_getElem]
  refine ⟨hp, k, h, rfl, fun j hj => ?_⟩
  have := hk l[j] (List.mem_take_iff_getElem.2 ⟨j, by omega, rfl⟩)
  simp [this]
theorem find_miss {l : List (Int × Int)} {p : Int × Int → Bool} (hk : ∀ c ∈ l.take l.length, p c = false) : l.find? p = none := by
  rw [List.take_length] at hk
  rw [List.find?_eq_none]
  intro c hc
  simp [hk c hc]
theorem frozen_new (w : World) (cs : Array Value) (t : TypeId) (o : Nat) : (w.alloc (.cells cs t)).frozen? ⟨w.heap.size, o, none⟩ = false := by
  have h : (w.alloc (.cells cs t)).heap[w.heap.size]? = some (.cells cs t (0, 0)) := heap_alloc_new w _
  simp only [World.frozen?, h]
  rfl
theorem spec_paRead (s : ByteArray) (w : World) :
    Calls Try.prog 69 #[.string s] w fun e w' => e = .returned (.tuple #[.agg #[.int .i64 (rdK s), .int .i64 (rdS s)], .bool (rdC s).isSome]) ∧ Below w.heap.size w w' := by
  have h16 := allTo_le 8
  go_enter Try.func69, Try.ntmps69
  go_wp2_with fail
  refine (spec_paAll _).mono ?_; rintro e w1 ⟨A, cap, rfl, o1, n1, b1⟩
  have hr := o1.rd
  have z1 : w.heap.size < w1.heap.size := by have := b1.size; simp at this; omega
  obtain ⟨cc, ff⟩ := bcell b1
  have hz0 : w1.cell? ⟨w.heap.size, 0, none⟩ = some (.int .i64 0) := by rw [cc _ _ (by simp)]; exact (cell_of_row _ _ 0 _ _ _ (heap_alloc_new w _)).trans rfl
  have hz1 : w1.cell? ⟨w.heap.size, 1, none⟩ = some (.int .i64 0) := by rw [cc _ _ (by simp)]; exact (cell_of_row _ _ 1 _ _ _ (heap_alloc_new w _)).trans rfl
  have hf0 : ∀ o, w1.frozen? ⟨w.heap.size, o, none⟩ = false := fun o => by rw [ff _ _ (by simp)]; exact frozen_new _ _ _ o
  have hb1 : Below w.heap.size w w1 := ((Below.refl _ _).alloc (Nat.le_refl _) _).trans (b1.mono (by simp))
  clear b1 cc ff o1 n1
  go_wp2
  go_loopw [8] (fun i wr => ∃ k : Nat, k ≤ (allTo 8).length ∧ i = .int .i64 k ∧ (∀ c ∈ (allTo 8).take k, isLet s c = false) ∧ Below w1.heap.size w1 wr) (fun i _ => (allTo 8).length - (intOf i).toNat)
  case atStart => exact ⟨0, Nat.zero_le _, rfl, by simp, Below.refl _ _⟩
  case round =>
    obtain ⟨k, hk, rfl, hno, hb⟩ := hrel
    by_cases hlt : k < (allTo 8).length
    · obtain ⟨b, o, rfl, hbl, hc⟩ := hr (by rw [flat_length]; omega)
      have hc0 : wr.cell? ⟨b, o + k * 2, none⟩ = some (.int .i64 (allTo 8)[k].1) := (hb.cell (p := ⟨b, _, none⟩) hbl).trans (hc _ _ (flat_at _ k hlt).1)
      have hc1 : wr.cell? ⟨b, o + k * 2 + 1, none⟩ = some (.int .i64 (allTo 8)[k].2) := (hb.cell (p := ⟨b, _, none⟩) hbl).trans (hc _ _ (flat_at _ k hlt).2)
      have hgood := allTo_good _ (List.getElem_mem hlt)
      have hs := hb.size
      obtain ⟨cr, fr⟩ := bcell hb
      have hy0 := (cr _ 0 z1).trans hz0
      have hy1 := (cr _ 1 z1).trans hz1
      have fy := fun o => (fr _ o z1).trans (hf0 o)
      clear hc hr hz0 hz1 hf0 cr fr
      obtain ⟨x, y, hxy⟩ : ∃ x y, (allTo 8)[k] = (x, y) := ⟨_, _, rfl⟩
      rw [hxy] at hc0 hc1 hgood
      simp only at hc0 hc1 hgood
      rcases Bool.eq_false_or_eq_true (isLet s (x, y)) with hl | hl
      · have HF := Lib.hid (find_hit hlt hno (by rw [hxy]; exact hl))
        rw [hxy] at HF
        have hl2 : ([letB x y] == s.toList) = true := hl
        clear hno hl hxy
        go_wp2_with fail
        refine (spec_paLetter _ _ hgood _).mono ?_; rintro e w2 ⟨rfl, b2⟩
        obtain ⟨c2, f2⟩ := bcell b2
        have z2 : wr.heap.size < w2.heap.size := by have := b2.size; simp at this; omega
        have z3 : w.heap.size < w2.heap.size := by omega
        have z0 : w.heap.size < wr.heap.size := by omega
        have v0 : w2.cell? ⟨w.heap.size, 0, none⟩ = some (.int .i64 0) := by rw [c2 _ _ (by simp; omega), World.cell?_alloc_lt _ _ _ z0]; exact hy0
        have v1 : w2.cell? ⟨w.heap.size, 1, none⟩ = some (.int .i64 0) := by rw [c2 _ _ (by simp; omega), World.cell?_alloc_lt _ _ _ z0]; exact hy1
        have x0 : w2.cell? ⟨wr.heap.size, 0, none⟩ = some (.int .i64 x) := by rw [c2 _ _ (by simp)]; exact (cell_of_row _ _ 0 _ _ _ (heap_alloc_new wr _)).trans rfl
        have x1 : w2.cell? ⟨wr.heap.size, 1, none⟩ = some (.int .i64 y) := by rw [c2 _ _ (by simp)]; exact (cell_of_row _ _ 1 _ _ _ (heap_alloc_new wr _)).trans rfl
        have g2 : ∀ o, w2.frozen? ⟨w.heap.size, o, none⟩ = false := fun o => by rw [f2 _ _ (by simp; omega), World.frozen?_alloc_old _ _ _ (by simp; omega)]; exact fy o
        clear c2 f2 hy0 hy1 fy
        clear hc0 hc1
        have hb2 : Below w.heap.size w w2 := (hb1.trans (hb.mono (by omega))).trans ((Below.refl _ _).alloc (by omega) _ |>.trans (b2.mono (by simp; omega)))
        clear b2 hb hb1
        go_wp2
        refine bodyPost_ret (v := .tuple #[.agg #[.int .i64 x, .int .i64 y], .bool true]) ?_ rfl ?_; (focus (simp [results, Try.results69, go_sem, *]; done))
        refine ⟨ret_eq ?_, by (repeat' (first | (with_reducible exact Below.refl _ _) | (with_reducible assumption) | (with_reducible refine Below.alloc ?_ ?_ _) | (with_reducible refine Below.setCell ?_ ?_ _) | (with_reducible refine Below.drew ?_) | (with_reducible refine below_drewN ?_ _) | (with_reducible refine Below.trans ?_ (Below.mono (by assumption) ?_)) | (with_reducible exact Nat.le_refl _) | (simp; done) | omega | (simp at *; omega)))⟩
        have : rdC s = some (x, y) := HF.out
        simp [rdK, rdS, this]
      · have HF := Lib.hid (find_step hlt hno (by rw [hxy]; exact hl))
        have hl2 : ([letB x y] == s.toList) = false := hl
        clear hno hl hxy
        go_wp2_with fail
        refine (spec_paLetter _ _ hgood _).mono ?_; rintro e w2 ⟨rfl, b2⟩
        clear hc0 hc1
        go_wp2
        go_roundw
        case rel => exact ⟨k + 1, by omega, by go_num, HF.out, (hb.trans ((Below.refl _ _).alloc hs _)).trans (b2.mono (by simp; omega))⟩
        case measure => simp [intOf]; omega
    · obtain rfl : k = (allTo 8).length := by omega
      have HF := Lib.hid (find_miss hno)
      obtain ⟨cr, fr⟩ := bcell hb
      have hy0 := (cr _ 0 z1).trans hz0
      have hy1 := (cr _ 1 z1).trans hz1
      have fy := fun o => (fr _ o z1).trans (hf0 o)
      clear hno cr fr hz0 hz1 hf0 hr
      go_wp2
      refine bodyPost_ret (v := .tuple #[.agg #[.int .i64 0, .int .i64 0], .bool false]) ?_ rfl ?_; (focus (simp [results, Try.results69, go_sem, *]; done))
      refine ⟨ret_eq ?_, ?_⟩
      · have : rdC s = none := HF.out
        simp [rdK, rdS, this]
      · have hb2 := hb1.trans (hb.mono (Nat.le_of_lt z1))
        (repeat' (first | (with_reducible exact Below.refl _ _) | (with_reducible assumption) | (with_reducible refine Below.alloc ?_ ?_ _) | (with_reducible refine Below.setCell ?_ ?_ _) | (with_reducible refine Below.drew ?_) | (with_reducible refine below_drewN ?_ _) | (with_reducible refine Below.trans ?_ (Below.mono (by assumption) ?_)) | (with_reducible exact Nat.le_refl _) | (simp; done) | omega | (simp at *; omega)))
end Go.Proofs.Ytdcaohmcidmigaa
