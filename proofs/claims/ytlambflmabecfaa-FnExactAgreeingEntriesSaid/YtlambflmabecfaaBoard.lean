/- Boards: the laws' own helpers over them. -/
import Derived.Test.YtlambflmabecfaaList4
namespace Go.Proofs.Ytlambflmabecfaa
open Go.ChangeShapes Go.WideShapes Go.ChangeAt Go.RowKit Go.Joins Go.Deep
set_option linter.unusedSimpArgs false
set_option linter.unusedVariables false
set_option maxRecDepth 100000
set_option maxHeartbeats 400000
/-- A board by value. -/
def bv (R C : Int) (A : Option Addr) (n cap : Nat) : Value := .agg #[.int .i64 R, .int .i64 C, .slice A n cap]
theorem szBoard_any (R C : Int) (A : Option Addr) (n cap : Nat) (left : Int) (w : World) (hn : n ≤ maxLen) (h0 : 0 ≤ left) (h1 : left ≤ 1048576) :
    Calls Try.prog 40 #[.agg #[.int .i64 R, .int .i64 C, .slice A n cap], .int .i64 left] w fun e w' => e = .returned (.int .i64 (if left < n then -1 else left - n)) ∧ Below w.heap.size w w' := by
  by_cases hl : left < n
  · go_enter Try.func40, Try.ntmps40
    go_wp2_with fail
    refine (szCellS_any _ _ _ _ _ hn h0 h1).mono ?_; rintro e w1 ⟨rfl, rfl⟩
    rw [if_pos hl]
    have HL := Lib.hid hl
    clear hl
    go_wp2
    go_returns
    exact ⟨ret_int (by first | rfl | exact (if_pos HL.out).symm), by (repeat' (first | (with_reducible exact Below.refl _ _) | (with_reducible assumption) | (with_reducible refine Below.alloc ?_ ?_ _) | (with_reducible refine Below.setCell ?_ ?_ _) | (with_reducible refine Below.drew ?_) | (with_reducible refine below_drewN ?_ _) | (with_reducible refine Below.trans ?_ (Below.mono (by assumption) ?_)) | (with_reducible exact Nat.le_refl _) | (simp; done) | omega | (simp at *; omega)))⟩
  · go_enter Try.func40, Try.ntmps40
    go_wp2_with fail
    refine (szCellS_any _ _ _ _ _ hn h0 h1).mono ?_; rintro e w1 ⟨rfl, rfl⟩
    rw [if_neg (by omega)]
    go_wp2
    go_returns
    exact ⟨ret_int (by first | rfl | exact (if_neg (by omega)).symm), by (repeat' (first | (with_reducible exact Below.refl _ _) | (with_reducible assumption) | (with_reducible refine Below.alloc ?_ ?_ _) | (with_reducible refine Below.setCell ?_ ?_ _) | (with_reducible refine Below.drew ?_) | (with_reducible refine below_drewN ?_ _) | (with_reducible refine Below.trans ?_ (Below.mono (by assumption) ?_)) | (with_reducible exact Nat.le_refl _) | (simp; done) | omega | (simp at *; omega)))⟩
theorem Whole.set_far {w : World} {g : Nat} {t : TypeId} {xs : List Value} (h : Whole w g t xs) (p : Addr) (u : Value) (hne : p.block ≠ g) : Whole (w.setCell p u) g t xs := (Below.heap_setCell w p u g (fun e => hne e.symm)).trans h
theorem only_alloc {w w' : World} {o : Obj} {A : Option Addr} (h : Only (w.alloc o) w' A) : Only w w' A := by
  have hs := h.size
  rw [World.size_alloc] at hs
  refine ⟨h.os.trans rfl, h.tape.trans rfl, h.output.trans rfl, by omega, fun i hi hne => (h.block i (by rw [World.size_alloc]; omega) hne).trans (Below.heap_alloc _ _ _ hi)⟩
theorem toBoard_any (R C : Int) (A : Option Addr) (cap : Nat) (l : List (Int × Int)) (w : World) (hn : l.length ≤ 1048576) (hr : Rd w w.heap.size A (flat l)) :
    Calls Try.prog 43 #[.agg #[.int .i64 R, .int .i64 C, .slice A l.length cap]] w fun e w' => ∃ g, e = .returned (.agg #[.int .i64 R, .int .i64 C, .slice (some ⟨g, 0, none⟩) l.length l.length]) ∧ Whole w' g 104 (flat l) ∧ w.heap.size ≤ g ∧ Below w.heap.size w w' := by
  go_enter Try.func43, Try.ntmps43
  go_wp2_with fail
  refine (toCellS_any _ _ l _ hn ((hr.below (by (repeat' (first | (with_reducible exact Below.refl _ _) | (with_reducible assumption) | (with_reducible refine Below.alloc ?_ ?_ _) | (with_reducible refine Below.setCell ?_ ?_ _) | (with_reducible refine Below.drew ?_) | (with_reducible refine below_drewN ?_ _) | (with_reducible refine Below.trans ?_ (Below.mono (by assumption) ?_)) | (with_reducible exact Nat.le_refl _) | (simp; done) | omega | (simp at *; omega))) : Below w.heap.size w _)).mono (by go_size))).mono ?_; rintro e w1 ⟨rfl, t1, b1⟩
  obtain ⟨c1, f1⟩ := bcell b1
  have z1 : w.heap.size + 1 + 1 < w1.heap.size := by have := b1.size; simp at this; omega
  go_wp2
  refine bodyPost_ret (v := .agg #[.int .i64 R, .int .i64 C, .slice (some ⟨w.heap.size + 1 + 1 + 1, 0, none⟩) l.length l.length]) ?_ rfl ?_; (focus (simp [results, Try.results43, go_sem, *]; done))
  have t2 : Whole w1 (w.heap.size + 1 + 1 + 1) 104 (flat l) := by simpa using t1
  exact ⟨w.heap.size + 1 + 1 + 1, rfl, (((t2.set_far _ _ (by simp)).set_far _ _ (by simp)).set_far _ _ (by simp)).set_far _ _ (by simp), by omega, by (repeat' (first | (with_reducible exact Below.refl _ _) | (with_reducible assumption) | (with_reducible refine Below.alloc ?_ ?_ _) | (with_reducible refine Below.setCell ?_ ?_ _) | (with_reducible refine Below.drew ?_) | (with_reducible refine below_drewN ?_ _) | (with_reducible refine Below.trans ?_ (Below.mono (by assumption) ?_)) | (with_reducible exact Nat.le_refl _) | (simp; done) | omega | (simp at *; omega)))⟩
def eqB (R C R' C' : Int) (l m : List (Int × Int)) : Bool := decide (R = R' ∧ C = C' ∧ l = m)
theorem eqBoard_any (R C R' C' : Int) (A A' : Option Addr) (cap cap' : Nat) (l m : List (Int × Int)) (w : World) (hn : l.length ≤ 1048576) (hm : m.length ≤ 1048576) (hr : Rd w w.heap.size A (flat l)) (hr' : Rd w w.heap.size A' (flat m)) :
    Calls Try.prog 45 #[.agg #[.int .i64 R, .int .i64 C, .slice A l.length cap], .agg #[.int .i64 R', .int .i64 C', .slice A' m.length cap']] w fun e w' => e = .returned (.bool (eqB R C R' C' l m)) ∧ Below w.heap.size w w' := by
  by_cases h1 : R = R'
  · subst h1
    by_cases h2 : C = C'
    · subst h2
      go_enter Try.func45, Try.ntmps45
      go_wp2_with fail
      refine (eqCellS_any _ _ _ _ l m _ hn hm ((hr.below (by (repeat' (first | (with_reducible exact Below.refl _ _) | (with_reducible assumption) | (with_reducible refine Below.alloc ?_ ?_ _) | (with_reducible refine Below.setCell ?_ ?_ _) | (with_reducible refine Below.drew ?_) | (with_reducible refine below_drewN ?_ _) | (with_reducible refine Below.trans ?_ (Below.mono (by assumption) ?_)) | (with_reducible exact Nat.le_refl _) | (simp; done) | omega | (simp at *; omega))) : Below w.heap.size w _)).mono (by go_size)) ((hr'.below (by (repeat' (first | (with_reducible exact Below.refl _ _) | (with_reducible assumption) | (with_reducible refine Below.alloc ?_ ?_ _) | (with_reducible refine Below.setCell ?_ ?_ _) | (with_reducible refine Below.drew ?_) | (with_reducible refine below_drewN ?_ _) | (with_reducible refine Below.trans ?_ (Below.mono (by assumption) ?_)) | (with_reducible exact Nat.le_refl _) | (simp; done) | omega | (simp at *; omega))) : Below w.heap.size w _)).mono (by go_size))).mono ?_; rintro e w1 ⟨rfl, b1⟩
      by_cases h3 : l = m
      · rw [decide_eq_true h3]
        have HL := Lib.hid h3
        clear h3
        go_wp2
        go_returns
        exact ⟨ret_bool (decide_eq_true ⟨rfl, rfl, HL.out⟩).symm, by (repeat' (first | (with_reducible exact Below.refl _ _) | (with_reducible assumption) | (with_reducible refine Below.alloc ?_ ?_ _) | (with_reducible refine Below.setCell ?_ ?_ _) | (with_reducible refine Below.drew ?_) | (with_reducible refine below_drewN ?_ _) | (with_reducible refine Below.trans ?_ (Below.mono (by assumption) ?_)) | (with_reducible exact Nat.le_refl _) | (simp; done) | omega | (simp at *; omega)))⟩
      · rw [decide_eq_false h3]
        have HL := Lib.hid h3
        clear h3
        go_wp2
        go_returns
        exact ⟨ret_bool (decide_eq_false (fun h => HL.out h.2.2)).symm, by (repeat' (first | (with_reducible exact Below.refl _ _) | (with_reducible assumption) | (with_reducible refine Below.alloc ?_ ?_ _) | (with_reducible refine Below.setCell ?_ ?_ _) | (with_reducible refine Below.drew ?_) | (with_reducible refine below_drewN ?_ _) | (with_reducible refine Below.trans ?_ (Below.mono (by assumption) ?_)) | (with_reducible exact Nat.le_refl _) | (simp; done) | omega | (simp at *; omega)))⟩
    · have hb : (C != C') = true := by simpa using h2
      have HL := Lib.hid h2
      clear h2
      go_enter Try.func45, Try.ntmps45
      go_wp2
      go_returns
      exact ⟨ret_bool (decide_eq_false (fun h => HL.out h.2.1)).symm, by (repeat' (first | (with_reducible exact Below.refl _ _) | (with_reducible assumption) | (with_reducible refine Below.alloc ?_ ?_ _) | (with_reducible refine Below.setCell ?_ ?_ _) | (with_reducible refine Below.drew ?_) | (with_reducible refine below_drewN ?_ _) | (with_reducible refine Below.trans ?_ (Below.mono (by assumption) ?_)) | (with_reducible exact Nat.le_refl _) | (simp; done) | omega | (simp at *; omega)))⟩
  · have hb : (R != R') = true := by simpa using h1
    have HL := Lib.hid h1
    clear h1
    go_enter Try.func45, Try.ntmps45
    go_wp2
    go_returns
    exact ⟨ret_bool (decide_eq_false (fun h => HL.out h.1)).symm, by (repeat' (first | (with_reducible exact Below.refl _ _) | (with_reducible assumption) | (with_reducible refine Below.alloc ?_ ?_ _) | (with_reducible refine Below.setCell ?_ ?_ _) | (with_reducible refine Below.drew ?_) | (with_reducible refine below_drewN ?_ _) | (with_reducible refine Below.trans ?_ (Below.mono (by assumption) ?_)) | (with_reducible exact Nat.le_refl _) | (simp; done) | omega | (simp at *; omega)))⟩
theorem markBoard_any (R C : Int) (A : Option Addr) (cap n : Nat) (xs : List Value) (k : Int) (w : World) (hx : xs.length = 2 * n) (hn : n ≤ 1048576) (h0 : 0 ≤ k) (h1 : k ≤ 16777216) (ho : Own w A 104 xs) :
    Calls Try.prog 46 #[.agg #[.int .i64 R, .int .i64 C, .slice A n cap], .int .i64 k] w fun e w' => e = .returned (.int .i64 (k + 2 * n)) ∧ Own w' A 104 (marks k (2 * n)) ∧ Only w w' A := by
  go_enter Try.func46, Try.ntmps46
  go_wp2_with fail
  refine (markCellS_any _ _ n xs _ _ hx hn h0 h1 (ho.keep (by (repeat' (first | (with_reducible exact Below.refl _ _) | (with_reducible assumption) | (with_reducible refine Below.alloc ?_ ?_ _) | (with_reducible refine Below.setCell ?_ ?_ _) | (with_reducible refine Below.drew ?_) | (with_reducible refine below_drewN ?_ _) | (with_reducible refine Below.trans ?_ (Below.mono (by assumption) ?_)) | (with_reducible exact Nat.le_refl _) | (simp; done) | omega | (simp at *; omega)))))).mono ?_; rintro e w1 ⟨rfl, o1, s1⟩
  have S1 := Lib.hid (only_alloc s1)
  clear s1
  go_wp2
  go_returns
  exact ⟨rfl, o1, S1.out⟩
end Go.Proofs.Ytlambflmabecfaa
