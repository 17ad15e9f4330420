/- Valid boards, program and model; the cell in a row and a column. -/
import Derived.IntWalk
import Derived.Test.YtlambflmabecfaaBoard
namespace Go.Proofs.Ytlambflmabecfaa
open Go.ChangeShapes Go.WideShapes Go.ChangeAt Go.RowKit Go.Joins Go.Deep
set_option linter.unusedSimpArgs false
set_option linter.unusedVariables false
set_option maxRecDepth 100000
set_option maxHeartbeats 400000
def sizeB (R C : Int) : Bool := decide (1 ≤ R ∧ R ≤ 10 ∧ 1 ≤ C ∧ C ≤ 9)
def goodB (R C : Int) (l : List (Int × Int)) : Bool := sizeB R C && decide ((l.length : Int) = R * C) && l.all fun c => good c.1 c.2
theorem sizeB_iff {R C : Int} : sizeB R C = true ↔ 1 ≤ R ∧ R ≤ 10 ∧ 1 ≤ C ∧ C ≤ 9 := by unfold sizeB; simp
theorem mul_bound {R C : Int} (h : sizeB R C = true) : 1 ≤ R * C ∧ R * C ≤ 90 := by
  rw [sizeB_iff] at h
  obtain ⟨a, b, c, d⟩ := h
  have h1 : 1 * 1 ≤ R * C := Int.mul_le_mul a c (by omega) (by omega)
  have h2 : R * C ≤ 10 * 9 := Int.mul_le_mul b d (by omega) (by omega)
  omega
theorem impl_isBoardSize (R C : Int) (w : World) :
    Calls Try.prog 83 #[.int .i64 R, .int .i64 C] w fun e w' => e = .returned (.bool (sizeB R C)) ∧ w = w' := by
  go_enter Try.func83, Try.ntmps83
  go_wp2
  all_goals go_returns
  all_goals refine ⟨ret_bool (by unfold sizeB; first | (first | rfl | (refine Bool.eq_iff_iff.2 ?_; simp only [Bool.and_eq_true, Bool.or_eq_true, Bool.not_eq_true', decide_eq_true_eq, decide_eq_false_iff_not, beq_iff_eq, bne_iff_ne, ne_eq, true_iff, iff_true, false_iff, iff_false, Bool.false_eq_true, Bool.true_eq_false] <;> omega) | (simp; omega)) | (refine Bool.eq_iff_iff.2 ?_; simp only [Bool.and_eq_true, Bool.or_eq_true, Bool.not_eq_true', decide_eq_true_eq, decide_eq_false_iff_not, beq_iff_eq, bne_iff_ne, ne_eq, true_iff, iff_true, false_iff, iff_false, Bool.false_eq_true, Bool.true_eq_false, beq_eq_false_iff_ne, bne_eq_false_iff_eq, Bool.not_eq_false, Bool.not_eq_true, Bool.not_eq_eq_eq_not, Bool.not_true, Bool.not_false, Bool.and_eq_false_imp, Bool.or_eq_false_iff] at * <;> omega)), rfl⟩
theorem wrapRC {R C : Int} (h : sizeB R C = true) : IntKind.i64.wrap (R * C) = R * C := by
  have := mul_bound h
  exact IntWalk.i64_in (R * C) (by omega)
theorem goodB_eq {R C : Int} {l : List (Int × Int)} (hs : sizeB R C = true) (hl : (l.length : Int) = R * C) : goodB R C l = goodL l := by
  have := mul_bound hs
  unfold goodB goodL
  rw [hs, decide_eq_true hl, decide_eq_true (by omega : l.length ≤ 90)]
  rfl
theorem goodB_all {R C : Int} {l : List (Int × Int)} (hs : sizeB R C = true) (hl : (l.length : Int) = R * C) : goodB R C l = l.all fun c => good c.1 c.2 := by
  unfold goodB
  rw [hs, decide_eq_true hl]
  rfl
theorem goodB_size {R C : Int} {l : List (Int × Int)} (hs : sizeB R C = false) : goodB R C l = false := by unfold goodB; rw [hs]; rfl
theorem goodB_len {R C : Int} {l : List (Int × Int)} (hl : ¬ (l.length : Int) = R * C) : goodB R C l = false := by
  unfold goodB
  rw [decide_eq_false hl, Bool.and_false]
  rfl
theorem impl_IsBoard (R C : Int) (A : Option Addr) (cap : Nat) (l : List (Int × Int)) (w : World) (hn : l.length ≤ 1048576) (hr : Rd w w.heap.size A (flat l)) :
    Calls Try.prog 75 #[.agg #[.int .i64 R, .int .i64 C, .slice A l.length cap]] w fun e w' => e = .returned (.bool (goodB R C l)) ∧ Below w.heap.size w w' := by
  rcases Bool.eq_false_or_eq_true (sizeB R C) with hs | hs
  · have hm := wrapRC hs
    by_cases hl : (l.length : Int) = R * C
    · have hlb : ((l.length : Int) == R * C) = true := by simpa using hl
      rw [goodB_eq hs hl]
      clear hl
      go_enter Try.func75, Try.ntmps75
      go_wp2_with fail
      refine (impl_isBoardSize _ _ _).mono ?_; rintro e w1 ⟨rfl, rfl⟩
      rw [hs]
      clear hs
      go_wp2_with fail
      refine (impl_areCells _ _ l _ hn ((hr.below (by (repeat' (first | (with_reducible exact Below.refl _ _) | (with_reducible assumption) | (with_reducible refine Below.alloc ?_ ?_ _) | (with_reducible refine Below.setCell ?_ ?_ _) | (with_reducible refine Below.drew ?_) | (with_reducible refine below_drewN ?_ _) | (with_reducible refine Below.trans ?_ (Below.mono (by assumption) ?_)) | (with_reducible exact Nat.le_refl _) | (simp; done) | omega | (simp at *; omega))) : Below w.heap.size w _)).mono (by go_size))).mono ?_; rintro e w1 ⟨rfl, b1⟩
      go_wp2
      go_returns
      exact ⟨rfl, by (repeat' (first | (with_reducible exact Below.refl _ _) | (with_reducible assumption) | (with_reducible refine Below.alloc ?_ ?_ _) | (with_reducible refine Below.setCell ?_ ?_ _) | (with_reducible refine Below.drew ?_) | (with_reducible refine below_drewN ?_ _) | (with_reducible refine Below.trans ?_ (Below.mono (by assumption) ?_)) | (with_reducible exact Nat.le_refl _) | (simp; done) | omega | (simp at *; omega)))⟩
    · have hlb : ((l.length : Int) == R * C) = false := by simpa using hl
      rw [goodB_len hl]
      clear hl
      go_enter Try.func75, Try.ntmps75
      go_wp2_with fail
      refine (impl_isBoardSize _ _ _).mono ?_; rintro e w1 ⟨rfl, rfl⟩
      rw [hs]
      clear hs
      go_wp2
      go_returns
      exact ⟨rfl, by (repeat' (first | (with_reducible exact Below.refl _ _) | (with_reducible assumption) | (with_reducible refine Below.alloc ?_ ?_ _) | (with_reducible refine Below.setCell ?_ ?_ _) | (with_reducible refine Below.drew ?_) | (with_reducible refine below_drewN ?_ _) | (with_reducible refine Below.trans ?_ (Below.mono (by assumption) ?_)) | (with_reducible exact Nat.le_refl _) | (simp; done) | omega | (simp at *; omega)))⟩
  · rw [goodB_size hs]
    go_enter Try.func75, Try.ntmps75
    go_wp2_with fail
    refine (impl_isBoardSize _ _ _).mono ?_; rintro e w1 ⟨rfl, rfl⟩
    rw [hs]
    clear hs
    go_wp2
    go_returns
    exact ⟨rfl, by (repeat' (first | (with_reducible exact Below.refl _ _) | (with_reducible assumption) | (with_reducible refine Below.alloc ?_ ?_ _) | (with_reducible refine Below.setCell ?_ ?_ _) | (with_reducible refine Below.drew ?_) | (with_reducible refine below_drewN ?_ _) | (with_reducible refine Below.trans ?_ (Below.mono (by assumption) ?_)) | (with_reducible exact Nat.le_refl _) | (simp; done) | omega | (simp at *; omega)))⟩
theorem spec_boGood (R C : Int) (A : Option Addr) (cap : Nat) (l : List (Int × Int)) (w : World) (hn : l.length ≤ 1048576) (hr : Rd w w.heap.size A (flat l)) :
    Calls Try.prog 62 #[.agg #[.int .i64 R, .int .i64 C, .slice A l.length cap]] w fun e w' => e = .returned (.bool (goodB R C l)) ∧ Below w.heap.size w w' := by
  rcases Bool.eq_false_or_eq_true (sizeB R C) with hs | hs
  · have hm := wrapRC hs
    obtain ⟨g1, g2, g3, g4⟩ := sizeB_iff.1 hs
    have l1 : (decide (1 ≤ R) && decide (R ≤ 10)) = true := by simp; omega
    have l2 : (decide (1 ≤ C) && decide (C ≤ 9)) = true := by simp; omega
    have L1 := Lib.hid l1
    have L2 := Lib.hid l2
    clear l1 l2
    by_cases hl : (l.length : Int) = R * C
    · have hlb : ((l.length : Int) != R * C) = false := by simpa using hl
      rw [goodB_all hs hl]
      clear hl hs
      go_enter Try.func62, Try.ntmps62
      go_wp2_with fail
      refine (spec_l1In _ _ _ _).mono ?_; rintro e w1 ⟨rfl, rfl⟩
      rw [L1.out]
      go_wp2_with fail
      refine (spec_l1In _ _ _ _).mono ?_; rintro e w1 ⟨rfl, rfl⟩
      rw [L2.out]
      go_wp2
      go_loopw [29] (fun i wr => ∃ k : Nat, k ≤ l.length ∧ i = .int .i64 k ∧ ((l.take k).all fun c => good c.1 c.2) = true ∧ Below w.heap.size w wr) (fun i _ => l.length - (intOf i).toNat)
      case atStart => exact ⟨0, Nat.zero_le _, rfl, rfl, by (repeat' (first | (with_reducible exact Below.refl _ _) | (with_reducible assumption) | (with_reducible refine Below.alloc ?_ ?_ _) | (with_reducible refine Below.setCell ?_ ?_ _) | (with_reducible refine Below.drew ?_) | (with_reducible refine below_drewN ?_ _) | (with_reducible refine Below.trans ?_ (Below.mono (by assumption) ?_)) | (with_reducible exact Nat.le_refl _) | (simp; done) | omega | (simp at *; omega)))⟩
      case round =>
        obtain ⟨k, hk, rfl, hall, hb⟩ := hrel
        by_cases hlt : k < l.length
        · obtain ⟨b, o, rfl, hbl, hc⟩ := hr (by rw [flat_length]; omega)
          have hc0 : wr.cell? ⟨b, o + k * 2, none⟩ = some (.int .i64 l[k].1) := (hb.cell (p := ⟨b, _, none⟩) hbl).trans (hc _ _ (flat_at l k hlt).1)
          have hc1 : wr.cell? ⟨b, o + k * 2 + 1, none⟩ = some (.int .i64 l[k].2) := (hb.cell (p := ⟨b, _, none⟩) hbl).trans (hc _ _ (flat_at l k hlt).2)
          have HT := Lib.hid (all_take hlt hall)
          have HN := Lib.hid (all_not hlt)
          have hs := hb.size
          clear hr hc hall
          generalize l[k].1 = x at *
          generalize l[k].2 = y at *
          rcases Bool.eq_false_or_eq_true (good x y) with hg | hg
          · have HG := Lib.hid hg
            go_wp2_with fail
            refine (spec_paGood _ _ _).mono ?_; rintro e w1 ⟨rfl, b1⟩
            rw [hg]
            clear hg hc0 hc1
            go_wp2
            go_roundw
            case rel => exact ⟨k + 1, by omega, by go_num, HT.out HG.out, by (repeat' (first | (with_reducible exact Below.refl _ _) | (with_reducible assumption) | (with_reducible refine Below.alloc ?_ ?_ _) | (with_reducible refine Below.setCell ?_ ?_ _) | (with_reducible refine Below.drew ?_) | (with_reducible refine below_drewN ?_ _) | (with_reducible refine Below.trans ?_ (Below.mono (by assumption) ?_)) | (with_reducible exact Nat.le_refl _) | (simp; done) | omega | (simp at *; omega)))⟩
            case measure => simp [intOf]; omega
          · have HG := Lib.hid hg
            go_wp2_with fail
            refine (spec_paGood _ _ _).mono ?_; rintro e w1 ⟨rfl, b1⟩
            rw [hg]
            clear hg hc0 hc1
            go_wp2
            go_returns
            exact ⟨ret_bool (by rw [HN.out HG.out]), by (repeat' (first | (with_reducible exact Below.refl _ _) | (with_reducible assumption) | (with_reducible refine Below.alloc ?_ ?_ _) | (with_reducible refine Below.setCell ?_ ?_ _) | (with_reducible refine Below.drew ?_) | (with_reducible refine below_drewN ?_ _) | (with_reducible refine Below.trans ?_ (Below.mono (by assumption) ?_)) | (with_reducible exact Nat.le_refl _) | (simp; done) | omega | (simp at *; omega)))⟩
        · obtain rfl : k = l.length := by omega
          rw [List.take_length] at hall
          have HQ := Lib.hid hall
          clear hall
          go_wp2
          go_returns
          exact ⟨ret_bool HQ.out.symm, hb⟩
    · have hlb : ((l.length : Int) != R * C) = true := by simpa using hl
      rw [goodB_len hl]
      clear hl hs
      go_enter Try.func62, Try.ntmps62
      go_wp2_with fail
      refine (spec_l1In _ _ _ _).mono ?_; rintro e w1 ⟨rfl, rfl⟩
      rw [L1.out]
      go_wp2_with fail
      refine (spec_l1In _ _ _ _).mono ?_; rintro e w1 ⟨rfl, rfl⟩
      rw [L2.out]
      go_wp2
      go_returns
      exact ⟨rfl, by (repeat' (first | (with_reducible exact Below.refl _ _) | (with_reducible assumption) | (with_reducible refine Below.alloc ?_ ?_ _) | (with_reducible refine Below.setCell ?_ ?_ _) | (with_reducible refine Below.drew ?_) | (with_reducible refine below_drewN ?_ _) | (with_reducible refine Below.trans ?_ (Below.mono (by assumption) ?_)) | (with_reducible exact Nat.le_refl _) | (simp; done) | omega | (simp at *; omega)))⟩
  · rw [goodB_size hs]
    rcases Bool.eq_false_or_eq_true (decide (1 ≤ R) && decide (R ≤ 10)) with l1 | l1
    · have l2 : (decide (1 ≤ C) && decide (C ≤ 9)) = false := by
        unfold sizeB at hs
        simp at hs l1 ⊢
        omega
      have L1 := Lib.hid l1
      have L2 := Lib.hid l2
      clear l1 l2 hs
      go_enter Try.func62, Try.ntmps62
      go_wp2_with fail
      refine (spec_l1In _ _ _ _).mono ?_; rintro e w1 ⟨rfl, rfl⟩
      rw [L1.out]
      go_wp2_with fail
      refine (spec_l1In _ _ _ _).mono ?_; rintro e w1 ⟨rfl, rfl⟩
      rw [L2.out]
      go_wp2
      go_returns
      exact ⟨rfl, by (repeat' (first | (with_reducible exact Below.refl _ _) | (with_reducible assumption) | (with_reducible refine Below.alloc ?_ ?_ _) | (with_reducible refine Below.setCell ?_ ?_ _) | (with_reducible refine Below.drew ?_) | (with_reducible refine below_drewN ?_ _) | (with_reducible refine Below.trans ?_ (Below.mono (by assumption) ?_)) | (with_reducible exact Nat.le_refl _) | (simp; done) | omega | (simp at *; omega)))⟩
    · have L1 := Lib.hid l1
      clear l1 hs
      go_enter Try.func62, Try.ntmps62
      go_wp2_with fail
      refine (spec_l1In _ _ _ _).mono ?_; rintro e w1 ⟨rfl, rfl⟩
      rw [L1.out]
      go_wp2
      go_returns
      exact ⟨rfl, by (repeat' (first | (with_reducible exact Below.refl _ _) | (with_reducible assumption) | (with_reducible refine Below.alloc ?_ ?_ _) | (with_reducible refine Below.setCell ?_ ?_ _) | (with_reducible refine Below.drew ?_) | (with_reducible refine below_drewN ?_ _) | (with_reducible refine Below.trans ?_ (Below.mono (by assumption) ?_)) | (with_reducible exact Nat.le_refl _) | (simp; done) | omega | (simp at *; omega)))⟩
end Go.Proofs.Ytlambflmabecfaa
