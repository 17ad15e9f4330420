/-
  LISTS IN MEMORY: marking a list and looking at the marks.
-/
import Derived.Test.YtlambflmabecfaaList2
namespace Go.Proofs.Ytlambflmabecfaa
open Go.ChangeShapes Go.WideShapes Go.ChangeAt Go.RowKit Go.Joins Go.Deep
set_option linter.unusedSimpArgs false
set_option linter.unusedVariables false
set_option maxRecDepth 100000
set_option maxHeartbeats 400000
/-- The numbers k, k + 1, .. as words. -/
def marks (k : Int) : Nat → List Value
  | 0 => []
  | n + 1 => .int .i64 k :: marks (k + 1) n
theorem marks_length (k : Int) (n : Nat) : (marks k n).length = n := by
  induction n generalizing k with
  | zero => rfl
  | succ n ih => simp [marks, ih]
theorem marks_at (k : Int) (n i : Nat) (h : i < n) : (marks k n)[i]? = some (.int .i64 (k + i)) := by
  induction n generalizing k i with
  | zero => omega
  | succ n ih =>
    cases i with
    | zero => simp [marks]
    | succ i => simp only [marks, List.getElem?_cons_succ]; rw [ih (k + 1) i (by omega)]; congr 2; omega
theorem marks_snoc (k : Int) (n : Nat) : marks k (n + 1) = marks k n ++ [.int .i64 (k + n)] := by
  induction n generalizing k with
  | zero => simp [marks]
  | succ n ih =>
    have := ih (k + 1)
    rw [marks, this]
    simp only [marks, List.cons_append, List.cons.injEq, true_and]
    congr 3; omega
/-- A slice of the call's own: nil, or at the head of a block that begins with these words. -/
def Own (w : World) (A : Option Addr) (t : TypeId) (xs : List Value) : Prop :=
  0 < xs.length → ∃ g rest, A = some ⟨g, 0, none⟩ ∧ Whole w g t (xs ++ rest)
/-- Only the block of A, and what is new, has turned. -/
def Only (w w' : World) (A : Option Addr) : Prop := w.grownBy w' (A.map (·.block))
theorem marked_step (k : Int) (xs rest : List Value) (i : Nat) (h : i < xs.length) : ((marks k i ++ xs.drop i) ++ rest).set i (.int .i64 (k + i)) = (marks k (i + 1) ++ xs.drop (i + 1)) ++ rest := by
  rw [marks_snoc, List.append_assoc, List.set_append_right _ _ (by rw [marks_length]; omega), marks_length, Nat.sub_self]
  rw [List.drop_eq_getElem_cons h, List.cons_append, List.set_cons_zero]
  simp only [List.append_assoc, List.singleton_append, List.cons_append, List.nil_append]
theorem marked_at (k : Int) (xs rest : List Value) (i : Nat) (h : i < xs.length) : ∃ u, ((marks k i ++ xs.drop i) ++ rest)[i]? = some u := by
  refine ⟨xs[i], ?_⟩
  rw [List.append_assoc, List.getElem?_append_right (by rw [marks_length]; omega), marks_length, Nat.sub_self, List.getElem?_append_left (by simp; omega)]
  simp
theorem only_setCell {w wr : World} {g : Nat} (h : w.grownBy wr (some g)) (j : Nat) (u : Value) : w.grownBy (wr.setCell ⟨g, j, none⟩ u) (some g) :=
  ⟨h.os, h.tape, h.output, by simpa [World.setCell] using h.size, fun i hi hne => (Below.heap_setCell wr ⟨g, j, none⟩ u i (fun e => hne (by rw [e]))).trans (h.block i hi hne)⟩
theorem markIntS_any (A : Option Addr) (cap n : Nat) (xs : List Value) (k : Int) (w : World) (hx : xs.length = n) (hn : n ≤ 1048576) (h0 : 0 ≤ k) (h1 : k ≤ 16777216) (ho : Own w A 3 xs) :
    Calls Try.prog 26 #[.slice A n cap, .int .i64 k] w fun e w' => e = .returned (.int .i64 (k + n)) ∧ Own w' A 3 (marks k n) ∧ Only w w' A := by
  subst hx
  rcases Nat.eq_zero_or_pos xs.length with hz | hp
  · rw [hz]
    go_enter Try.func26, Try.ntmps26
    go_wp2
    go_rounds 1
    go_returns
    refine ⟨ret_int (by simp), fun h => absurd h (by rw [marks_length]; omega), World.grownBy.refl w _⟩
  · obtain ⟨g, rest, rfl, hw⟩ := ho hp
    go_enter Try.func26, Try.ntmps26
    go_wp2
    go_loopw [1, 5] (fun q i wr => ∃ j : Nat, j ≤ xs.length ∧ i = .int .i64 j ∧ q = .int .i64 (k + j) ∧ Whole wr g 3 ((marks k j ++ xs.drop j) ++ rest) ∧ w.grownBy wr (some g)) (fun _ i _ => xs.length - (intOf i).toNat)
    case atStart => exact ⟨0, Nat.zero_le _, rfl, by go_num, by simpa [marks] using hw, World.grownBy.refl w _⟩
    case round =>
      obtain ⟨j, hj, rfl, rfl, hwr, hg⟩ := hrel
      by_cases hlt : j < xs.length
      · obtain ⟨u, hu⟩ := marked_at k xs rest j hlt
        have hc := (hwr.cell j).trans hu
        have hf := hwr.frozen j
        have HS := Lib.hid (marked_step k xs rest j hlt)
        clear hu
        go_wp2
        go_roundw
        case rel => exact ⟨j + 1, by omega, by go_num, by go_num, by rw [← HS.out]; exact hwr.set _ _, only_setCell hg _ _⟩
        case measure => simp [intOf]; omega
      · obtain rfl : j = xs.length := by omega
        go_wp2
        go_returns
        refine ⟨rfl, fun _ => ⟨g, rest, rfl, by simpa using hwr⟩, hg⟩
theorem heldIntS_any (A : Option Addr) (cap n : Nat) (k : Int) (w : World) (hn : n ≤ 1048576) (h0 : 0 ≤ k) (h1 : k ≤ 16777216) (ho : Own w A 3 (marks k n)) :
    Calls Try.prog 27 #[.slice A n cap, .int .i64 k] w fun e w' => e = .returned (.int .i64 (k + n)) ∧ w = w' := by
  rcases Nat.eq_zero_or_pos n with hz | hp
  · rw [hz]
    clear ho
    go_enter Try.func27, Try.ntmps27
    go_wp2
    go_rounds 1
    go_returns
    refine ⟨ret_int (by simp), rfl⟩
  · obtain ⟨g, rest, rfl, hw⟩ := ho (by rw [marks_length]; exact hp)
    go_enter Try.func27, Try.ntmps27
    go_wp2
    go_loop [1, 5] (fun q i => ∃ j : Nat, j ≤ n ∧ i = .int .i64 j ∧ q = .int .i64 (k + j)) (fun _ i => n - (intOf i).toNat)
    case atStart => exact ⟨0, Nat.zero_le _, rfl, by go_num⟩
    case round =>
      obtain ⟨j, hj, rfl, rfl⟩ := hrel
      by_cases hlt : j < n
      · have hc : w.cell? ⟨g, j, none⟩ = some (.int .i64 (k + j)) := by
          rw [hw.cell, List.getElem?_append_left (by rw [marks_length]; exact hlt)]
          exact marks_at k n j hlt
        go_wp2
        go_round
        case rel => exact ⟨j + 1, by omega, by go_num, by go_num⟩
        case measure => simp [intOf]; omega
      · obtain rfl : j = n := by omega
        go_wp2
        go_returns
        exact ⟨rfl, rfl⟩
theorem marks_two (k : Int) (n : Nat) : marks k (2 * (n + 1)) = .int .i64 k :: .int .i64 (k + 1) :: marks (k + 2) (2 * n) := by
  rw [show 2 * (n + 1) = 2 * n + 1 + 1 by omega]
  simp only [marks]
  rw [show k + 1 + 1 = k + 2 by omega]
theorem markCellS_any (A : Option Addr) (cap n : Nat) (xs : List Value) (k : Int) (w : World) (hx : xs.length = 2 * n) (hn : n ≤ 1048576) (h0 : 0 ≤ k) (h1 : k ≤ 16777216) (ho : Own w A 104 xs) :
    Calls Try.prog 61 #[.slice A n cap, .int .i64 k] w fun e w' => e = .returned (.int .i64 (k + 2 * n)) ∧ Own w' A 104 (marks k (2 * n)) ∧ Only w w' A := by
  rcases Nat.eq_zero_or_pos n with hz | hp
  · subst hz
    clear ho
    go_enter Try.func61, Try.ntmps61
    go_wp2
    go_rounds 1
    go_returns
    refine ⟨ret_int (by simp), fun h => absurd h (by rw [marks_length]; omega), World.grownBy.refl w _⟩
  · obtain ⟨g, rest, rfl, hw⟩ := ho (by omega)
    have HX := Lib.hid hx
    clear hx
    go_enter Try.func61, Try.ntmps61
    go_wp2
    go_loopw [1, 5] (fun q i wr => ∃ j : Nat, j ≤ n ∧ i = .int .i64 j ∧ q = .int .i64 (k + 2 * j) ∧ Whole wr g 104 ((marks k (2 * j) ++ xs.drop (2 * j)) ++ rest) ∧ w.grownBy wr (some g)) (fun _ i _ => n - (intOf i).toNat)
    case atStart => exact ⟨0, Nat.zero_le _, rfl, by go_num, by simpa [marks] using hw, World.grownBy.refl w _⟩
    case round =>
      obtain ⟨j, hj, rfl, rfl, hwr, hg⟩ := hrel
      by_cases hlt : j < n
      · have hx2 : 2 * j + 1 < xs.length := by have := HX.out; omega
        obtain ⟨u, hu⟩ := marked_at k xs rest (2 * j) (by omega)
        obtain ⟨u', hu'⟩ := marked_at k xs rest (2 * j + 1) hx2
        have s1 := marked_step k xs rest (2 * j) (by omega)
        have s2 := marked_step k xs rest (2 * j + 1) hx2
        have hc : wr.cell? ⟨g, j * 2, none⟩ = some u := by rw [hwr.cell, show j * 2 = 2 * j by omega]; exact hu
        have hw2 := hwr.set (2 * j) (.int .i64 (k + (2 * j : Nat)))
        rw [s1] at hw2
        have HW := Lib.hid hw2
        have hc' : (wr.setCell ⟨g, j * 2, none⟩ (.int .i64 (k + 2 * j))).cell? ⟨g, j * 2 + 1, none⟩ = some u' := by
          have e : (k + 2 * (j : Int)) = k + ((2 * j : Nat) : Int) := by omega
          rw [e, show j * 2 = 2 * j by omega, hw2.cell]; exact hu'
        have hf := hwr.frozen (j * 2)
        have hf' := hwr.frozen (j * 2 + 1)
        have HS := Lib.hid s2
        clear hu hu' s1 s2 hw2
        go_wp2
        go_roundw
        case rel =>
          refine ⟨j + 1, by omega, by go_num, by go_num, ?_, only_setCell (only_setCell hg _ _) _ _⟩
          have h := HW.out.set (2 * j + 1) (.int .i64 (k + (2 * j + 1 : Nat)))
          rw [HS.out] at h
          have e1 : (k + 2 * (j : Int)) = k + ((2 * j : Nat) : Int) := by omega
          have e2 : k + ((2 * j : Nat) : Int) + 1 = k + ((2 * j + 1 : Nat) : Int) := by omega
          rw [e1, e2, show j * 2 = 2 * j by omega, show 2 * (j + 1) = 2 * j + 1 + 1 by omega]
          exact h
        case measure => simp [intOf]; omega
      · obtain rfl : j = n := by omega
        have HY := HX.out
        have hd : xs.drop (2 * j) = [] := List.drop_eq_nil_of_le (by omega)
        rw [hd] at hwr
        clear HY hd
        go_wp2
        go_returns
        refine ⟨rfl, fun _ => ⟨g, rest, rfl, by simpa using hwr⟩, hg⟩
/-- A list of numbers, as memory holds it. -/
def ints (l : List Int) : List Value := l.map (.int .i64)
theorem ints_length (l : List Int) : (ints l).length = l.length := by simp [ints]
theorem ints_at (l : List Int) (k : Nat) (h : k < l.length) : (ints l)[k]? = some (.int .i64 l[k]) := by simp [ints, h]
theorem take_step1 {l m : List Int} {k : Nat} (h1 : k < l.length) (h2 : k < m.length) (h : l.take k = m.take k) : l[k] = m[k] → l.take (k + 1) = m.take (k + 1) := fun a => by
  rw [List.take_succ_eq_append_getElem h1, List.take_succ_eq_append_getElem h2, h, a]
theorem eqIntS_any (A A' : Option Addr) (cap cap' : Nat) (l m : List Int) (w : World) (hn : l.length ≤ 1048576) (hm : m.length ≤ 1048576) (hr : Rd w w.heap.size A (ints l)) (hr' : Rd w w.heap.size A' (ints m)) :
    Calls Try.prog 25 #[.slice A l.length cap, .slice A' m.length cap'] w fun e w' => e = .returned (.bool (decide (l = m))) ∧ Below w.heap.size w w' := by
  by_cases hlm : l.length = m.length
  · have hlb : ((l.length : Int) != (m.length : Int)) = false := by simp [hlm]
    rw [← hlm] at hlb ⊢
    have HL := Lib.hid hlm
    clear hlm
    go_enter Try.func25, Try.ntmps25
    go_wp2
    go_loopw [5] (fun i wr => ∃ k : Nat, k ≤ l.length ∧ i = .int .i64 k ∧ l.take k = m.take k ∧ Below w.heap.size w wr) (fun i _ => l.length - (intOf i).toNat)
    case atStart => exact ⟨0, Nat.zero_le _, rfl, rfl, by (repeat' (first | (with_reducible exact Below.refl _ _) | (with_reducible assumption) | (with_reducible refine Below.alloc ?_ ?_ _) | (with_reducible refine Below.setCell ?_ ?_ _) | (with_reducible refine Below.drew ?_) | (with_reducible refine below_drewN ?_ _) | (with_reducible refine Below.trans ?_ (Below.mono (by assumption) ?_)) | (with_reducible exact Nat.le_refl _) | (simp; done) | omega | (simp at *; omega)))⟩
    case round =>
      obtain ⟨k, hk, rfl, heq, hb⟩ := hrel
      by_cases hlt : k < l.length
      · obtain ⟨b, o, rfl, hbl, hc⟩ := hr (by rw [ints_length]; omega)
        obtain ⟨b', o', rfl, hbl', hc'⟩ := hr' (by have := HL.out; rw [ints_length]; omega)
        have hltm : k < m.length := by have := HL.out; omega
        have hc0 : wr.cell? ⟨b, o + k, none⟩ = some (.int .i64 l[k]) := (hb.cell (p := ⟨b, _, none⟩) hbl).trans (hc _ _ (ints_at l k hlt))
        have hd0 : wr.cell? ⟨b', o' + k, none⟩ = some (.int .i64 m[k]) := (hb.cell (p := ⟨b', _, none⟩) hbl').trans (hc' _ _ (ints_at m k hltm))
        clear hr hr' hc hc'
        have HT := Lib.hid (take_step1 hlt hltm heq)
        have HN := Lib.hid (fun (h : l = m) => (show l[k] = m[k] by subst h; rfl))
        clear heq
        generalize l[k] = x at *
        generalize m[k] = x' at *
        by_cases hxy : x = x'
        · subst hxy
          go_wp2
          go_quiet (fail)
          go_wp2
          go_roundw
          case rel => exact ⟨k + 1, by omega, by go_num, HT.out trivial, by (repeat' (first | (with_reducible exact Below.refl _ _) | (with_reducible assumption) | (with_reducible refine Below.alloc ?_ ?_ _) | (with_reducible refine Below.setCell ?_ ?_ _) | (with_reducible refine Below.drew ?_) | (with_reducible refine below_drewN ?_ _) | (with_reducible refine Below.trans ?_ (Below.mono (by assumption) ?_)) | (with_reducible exact Nat.le_refl _) | (simp; done) | omega | (simp at *; omega)))⟩
          case measure => simp [intOf]; omega
        · have hxb : (x != x') = true := by simpa using hxy
          have HX := Lib.hid hxy
          clear hxy
          go_wp2
          go_quiet (fail)
          go_wp2
          go_returns
          exact ⟨ret_bool (decide_eq_false (fun h => HX.out (HN.out h))).symm, by (repeat' (first | (with_reducible exact Below.refl _ _) | (with_reducible assumption) | (with_reducible refine Below.alloc ?_ ?_ _) | (with_reducible refine Below.setCell ?_ ?_ _) | (with_reducible refine Below.drew ?_) | (with_reducible refine below_drewN ?_ _) | (with_reducible refine Below.trans ?_ (Below.mono (by assumption) ?_)) | (with_reducible exact Nat.le_refl _) | (simp; done) | omega | (simp at *; omega)))⟩
      · obtain rfl : k = l.length := by omega
        rw [List.take_length, HL.out, List.take_length] at heq
        have HQ := Lib.hid heq
        clear heq
        go_wp2
        go_returns
        exact ⟨ret_bool (decide_eq_true HQ.out).symm, hb⟩
  · have hlb : ((l.length : Int) != (m.length : Int)) = true := by simp; omega
    go_enter Try.func25, Try.ntmps25
    go_wp2
    go_returns
    exact ⟨ret_bool (by simp; intro h; exact hlm (by rw [h])), by (repeat' (first | (with_reducible exact Below.refl _ _) | (with_reducible assumption) | (with_reducible refine Below.alloc ?_ ?_ _) | (with_reducible refine Below.setCell ?_ ?_ _) | (with_reducible refine Below.drew ?_) | (with_reducible refine below_drewN ?_ _) | (with_reducible refine Below.trans ?_ (Below.mono (by assumption) ?_)) | (with_reducible exact Nat.le_refl _) | (simp; done) | omega | (simp at *; omega)))⟩
end Go.Proofs.Ytlambflmabecfaa
