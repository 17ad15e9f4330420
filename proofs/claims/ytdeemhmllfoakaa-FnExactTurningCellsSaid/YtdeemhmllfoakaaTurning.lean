/- TurningCells, program and model. -/
import Derived.Test.YtdeemhmllfoakaaMark
import Derived.Test.YtdeemhmllfoakaaGrow
import Derived.Test.YtdeemhmllfoakaaRows2
namespace Go.Proofs.Ytdeemhmllfoakaa
open Go.ChangeShapes Go.WideShapes Go.ChangeAt Go.RowKit Go.Joins Go.Deep
set_option linter.unusedSimpArgs false
set_option linter.unusedVariables false
set_option maxRecDepth 100000
set_option maxHeartbeats 400000
def turnTo (l : List (Int × Int)) : Nat → List Int
  | 0 => []
  | k + 1 => if turning (l.getD k (0, 0)).1 then turnTo l k ++ [(k : Int)] else turnTo l k
theorem turnTo_le (l : List (Int × Int)) (k : Nat) : (turnTo l k).length ≤ k := by
  induction k with
  | zero => exact Nat.le_refl 0
  | succ k ih =>
    show (if turning (l.getD k (0, 0)).1 then turnTo l k ++ [(k : Int)] else turnTo l k).length ≤ k + 1
    split
    · rw [List.length_append, List.length_singleton]; omega
    · omega
def turnB (R C : Int) (l : List (Int × Int)) : List Int := if goodB R C l then turnTo l l.length else []
theorem turnB_len (R C : Int) (l : List (Int × Int)) (h : l.length ≤ 1048576) : (turnB R C l).length ≤ 1048576 := by
  unfold turnB
  have := turnTo_le l l.length
  split
  · omega
  · simp
theorem turnTo_yes {l : List (Int × Int)} {k : Nat} (h : k < l.length) (ht : turning l[k].1 = true) : ints (turnTo l (k + 1)) = ints (turnTo l k) ++ [.int .i64 (k : Int)] ∧ (turnTo l (k + 1)).length = (turnTo l k).length + 1 := by
  have e : l.getD k (0, 0) = l[k] := by rw [List.getD_eq_getElem?_getD, List.getElem?_eq_getElem h]; rfl
  have h2 : turnTo l (k + 1) = turnTo l k ++ [(k : Int)] := by
    show (if turning (l.getD k (0, 0)).1 then _ else _) = _
    rw [e, ht]
    rfl
  rw [h2]
  simp [ints]
theorem turnTo_no {l : List (Int × Int)} {k : Nat} (h : k < l.length) (ht : turning l[k].1 = false) : turnTo l (k + 1) = turnTo l k := by
  have e : l.getD k (0, 0) = l[k] := by rw [List.getD_eq_getElem?_getD, List.getElem?_eq_getElem h]; rfl
  show (if turning (l.getD k (0, 0)).1 then _ else _) = _
  rw [e, ht]
  rfl
theorem spec_boTurning (R C : Int) (A : Option Addr) (cap : Nat) (l : List (Int × Int)) (w : World) (hn : l.length ≤ 1048576) (hr : Rd w w.heap.size A (flat l)) :
    Calls Try.prog 70 #[.agg #[.int .i64 R, .int .i64 C, .slice A l.length cap]] w (PostI w (turnTo l l.length)) := by
  obtain ⟨i0, hi, hz0, hz1, hz2⟩ := info_parts intInfo
  go_enter Try.func70, Try.ntmps70
  go_wp2
  go_loopw [3, 9] (fun v i wr => ∃ k : Nat, k ≤ l.length ∧ i = .int .i64 k ∧ wr.ownsRow w.heap.size 3 1 v (turnTo l k).length (ints (turnTo l k)) ∧ Below w.heap.size w wr) (fun _ i _ => l.length - (intOf i).toNat)
  case atStart => exact ⟨0, Nat.zero_le _, rfl, World.ownsRow_nil _ _ _ _, by (repeat' (first | (with_reducible exact Below.refl _ _) | (with_reducible assumption) | (with_reducible refine Below.alloc ?_ ?_ _) | (with_reducible refine Below.setCell ?_ ?_ _) | (with_reducible refine Below.drew ?_) | (with_reducible refine below_drewN ?_ _) | (with_reducible refine Below.trans ?_ (Below.mono (by assumption) ?_)) | (with_reducible exact Nat.le_refl _) | (simp; done) | omega | (simp at *; omega)))⟩
  case round =>
      obtain ⟨k, hk, rfl, hown, hb⟩ := hrel
      by_cases hlt : k < l.length
      · obtain ⟨b, o, rfl, hbl, hc⟩ := hr (by rw [flat_length]; omega)
        obtain ⟨hc0, hc1⟩ := cell_at2 hb hbl hc hlt
        have hle := turnTo_le l k
        have hs := hb.size
        have HY := Lib.hid (turnTo_yes hlt)
        have HN := Lib.hid (turnTo_no hlt)
        skip
        clear hr hc
        generalize l[k].1 = x at *
        generalize l[k].2 = y at *
        go_wp2_with fail
        rcases Bool.eq_false_or_eq_true (turning x) with ht | ht
        · refine (spec_paTurning _ _ _).mono ?_; rintro e w2 ⟨rfl, b2⟩
          have HT := Lib.hid ht
          rw [HT.out]
          clear ht
          have hown2 := row_keep2 hown ((Below.refl _ _).alloc (Nat.le_refl _) _ : Below wr.heap.size wr (wr.alloc (.cells #[.int .i64 x, .int .i64 y] 34))) b2
          have hb2 : Below w.heap.size w w2 := (hb.alloc hs _).trans (b2.mono (by simp; omega))
          have hs2 := hb2.size
          clear b2 hown hb hc0 hc1
          go_wp2_with (first | (at_builtin; refine wpList_append_own _ rfl (.tmp 16) (.tmp 18) 46 rfl w.heap.size 3 i0 _ 1 8 Try.underlying46 hi hz0 hz1 hz2 rfl (by omega) _ (turnTo l k).length (ints (turnTo l k)) rfl (hown2.alloc _) ⟨w2.heap.size, 0, none⟩ 1 1 [.int .i64 (k : Int)] rfl rfl one_cellI one_oneI (by unfold maxLen; omega) (by omega) (by simp; omega) ?_; intro v3 w3 hown3 hg3 _) | fail)
          have hb3 : Below w.heap.size w w3 := row_below (hown2.alloc _) (hb2.alloc (by omega) _) (by simp; omega) hg3
          rw [← (HY.out HT.out).1, ← (HY.out HT.out).2] at hown3
          clear hg3 hown2 hb2
          go_roundw
          case rel => exact ⟨k + 1, by omega, by go_num, hown3, hb3⟩
          case measure => simp [intOf]; omega
        · refine (spec_paTurning _ _ _).mono ?_; rintro e w2 ⟨rfl, b2⟩
          have HT := Lib.hid ht
          rw [HT.out]
          clear ht
          have hown2 := row_keep2 hown ((Below.refl _ _).alloc (Nat.le_refl _) _ : Below wr.heap.size wr (wr.alloc (.cells #[.int .i64 x, .int .i64 y] 34))) b2
          have hb2 : Below w.heap.size w w2 := (hb.alloc hs _).trans (b2.mono (by simp; omega))
          rw [← HN.out HT.out] at hown2
          clear b2 hown hb hc0 hc1
          go_wp2
          go_roundw
          case rel => exact ⟨k + 1, by omega, by go_num, hown2, hb2⟩
          case measure => simp [intOf]; omega
      · obtain rfl : k = l.length := by omega
        obtain ⟨A', cap', rfl⟩ := slice_of_row hown
        have ho := own_of_row hown
        go_wp2
        go_returns
        exact PostI.mk ho.1 ho.2 hb
theorem spec_TurningCells (R C : Int) (A : Option Addr) (cap : Nat) (l : List (Int × Int)) (w : World) (hn : l.length ≤ 1048576) (hr : Rd w w.heap.size A (flat l)) :
    Calls Try.prog 35 #[.agg #[.int .i64 R, .int .i64 C, .slice A l.length cap]] w (PostL w (turnB R C l) (goodB R C l)) := by
  unfold turnB
  rcases Bool.eq_false_or_eq_true (goodB R C l) with hg | hg
  · have HG := Lib.hid hg
    rw [hg]
    clear hg
    go_enter Try.func35, Try.ntmps35
    go_wp2_with fail
    refine (spec_boGood _ _ _ _ l _ hn ((hr.below (by (repeat' (first | (with_reducible exact Below.refl _ _) | (with_reducible assumption) | (with_reducible refine Below.alloc ?_ ?_ _) | (with_reducible refine Below.setCell ?_ ?_ _) | (with_reducible refine Below.drew ?_) | (with_reducible refine below_drewN ?_ _) | (with_reducible refine Below.trans ?_ (Below.mono (by assumption) ?_)) | (with_reducible exact Nat.le_refl _) | (simp; done) | omega | (simp at *; omega))) : Below w.heap.size w _)).mono (by go_size))).mono ?_; rintro e w1 ⟨rfl, b1⟩
    rw [HG.out]
    obtain ⟨c1, f1⟩ := bcell b1
    have z1 : w.heap.size < w1.heap.size := by have := b1.size; simp at this; omega
    have B1 : Below w.heap.size w w1 := by (repeat' (first | (with_reducible exact Below.refl _ _) | (with_reducible assumption) | (with_reducible refine Below.alloc ?_ ?_ _) | (with_reducible refine Below.setCell ?_ ?_ _) | (with_reducible refine Below.drew ?_) | (with_reducible refine below_drewN ?_ _) | (with_reducible refine Below.trans ?_ (Below.mono (by assumption) ?_)) | (with_reducible exact Nat.le_refl _) | (simp; done) | omega | (simp at *; omega)))
    go_wp2_with fail
    refine (spec_boTurning _ _ _ _ l _ hn ((hr.below B1).mono B1.size)).mono ?_; rintro e w2 ⟨A', cap', rfl, o2, n2, b2⟩
    go_wp2
    go_returns
    exact PostL.mk o2 (n2.mono B1.size) (B1.trans (b2.mono B1.size))
  · have HG := Lib.hid hg
    rw [hg]
    clear hg
    go_enter Try.func35, Try.ntmps35
    go_wp2_with fail
    refine (spec_boGood _ _ _ _ l _ hn ((hr.below (by (repeat' (first | (with_reducible exact Below.refl _ _) | (with_reducible assumption) | (with_reducible refine Below.alloc ?_ ?_ _) | (with_reducible refine Below.setCell ?_ ?_ _) | (with_reducible refine Below.drew ?_) | (with_reducible refine below_drewN ?_ _) | (with_reducible refine Below.trans ?_ (Below.mono (by assumption) ?_)) | (with_reducible exact Nat.le_refl _) | (simp; done) | omega | (simp at *; omega))) : Below w.heap.size w _)).mono (by go_size))).mono ?_; rintro e w1 ⟨rfl, b1⟩
    rw [HG.out]
    have B1 : Below w.heap.size w w1 := by (repeat' (first | (with_reducible exact Below.refl _ _) | (with_reducible assumption) | (with_reducible refine Below.alloc ?_ ?_ _) | (with_reducible refine Below.setCell ?_ ?_ _) | (with_reducible refine Below.drew ?_) | (with_reducible refine below_drewN ?_ _) | (with_reducible refine Below.trans ?_ (Below.mono (by assumption) ?_)) | (with_reducible exact Nat.le_refl _) | (simp; done) | omega | (simp at *; omega)))
    go_wp2
    go_returns
    exact PostL.none_ B1
theorem impl_TurningCells (R C : Int) (A : Option Addr) (cap : Nat) (l : List (Int × Int)) (w : World) (hn : l.length ≤ 1048576) (hr : Rd w w.heap.size A (flat l)) :
    Calls Try.prog 36 #[.agg #[.int .i64 R, .int .i64 C, .slice A l.length cap]] w (PostL w (turnB R C l) (goodB R C l)) := by
  unfold turnB
  rcases Bool.eq_false_or_eq_true (goodB R C l) with hg | hg
  · have HG := Lib.hid hg
    have HP := Lib.hid (goodB_parts hg).1
    obtain ⟨i0, hi, hz0, hz1, hz2⟩ := info_parts intInfo
    rw [hg]
    clear hg
    go_enter Try.func36, Try.ntmps36
    go_wp2_with fail
    refine (impl_IsBoard _ _ _ _ l _ hn ((hr.below (by (repeat' (first | (with_reducible exact Below.refl _ _) | (with_reducible assumption) | (with_reducible refine Below.alloc ?_ ?_ _) | (with_reducible refine Below.setCell ?_ ?_ _) | (with_reducible refine Below.drew ?_) | (with_reducible refine below_drewN ?_ _) | (with_reducible refine Below.trans ?_ (Below.mono (by assumption) ?_)) | (with_reducible exact Nat.le_refl _) | (simp; done) | omega | (simp at *; omega))) : Below w.heap.size w _)).mono (by go_size))).mono ?_; rintro e w1 ⟨rfl, b1⟩
    rw [HG.out]
    obtain ⟨c1, f1⟩ := bcell b1
    have z1 : w.heap.size < w1.heap.size := by have := b1.size; simp at this; omega
    have B1 : Below w.heap.size w w1 := by (repeat' (first | (with_reducible exact Below.refl _ _) | (with_reducible assumption) | (with_reducible refine Below.alloc ?_ ?_ _) | (with_reducible refine Below.setCell ?_ ?_ _) | (with_reducible refine Below.drew ?_) | (with_reducible refine below_drewN ?_ _) | (with_reducible refine Below.trans ?_ (Below.mono (by assumption) ?_)) | (with_reducible exact Nat.le_refl _) | (simp; done) | omega | (simp at *; omega)))
    clear b1
    go_wp2
    clear c1 f1
    go_loopw [4, 13] (fun v i wr => ∃ k : Nat, k ≤ l.length ∧ i = .int .i64 k ∧ wr.ownsRow w.heap.size 3 1 v (turnTo l k).length (ints (turnTo l k)) ∧ Below w.heap.size w wr) (fun _ i _ => l.length - (intOf i).toNat)
    case atStart => exact ⟨0, Nat.zero_le _, rfl, World.ownsRow_nil _ _ _ _, B1⟩
    case round =>
      obtain ⟨k, hk, rfl, hown, hb⟩ := hrel
      by_cases hlt : k < l.length
      · obtain ⟨b, o, rfl, hbl, hc⟩ := hr (by rw [flat_length]; omega)
        obtain ⟨hc0, hc1⟩ := cell_at2 hb hbl hc hlt
        have hle := turnTo_le l k
        have hs := hb.size
        have HY := Lib.hid (turnTo_yes hlt)
        have HN := Lib.hid (turnTo_no hlt)
        have HGK := Lib.hid (good_turn HP.out hlt)
        clear hr hc
        generalize l[k].1 = x at *
        generalize l[k].2 = y at *
        go_wp2_with fail
        rcases Bool.eq_false_or_eq_true (turning x) with ht | ht
        · refine (impl_IsTurning _ _ _).mono ?_; rintro e w2 ⟨rfl, b2⟩
          have HT := Lib.hid ht
          rw [show (good x y && turning x) = turning x by rw [HGK.out, Bool.true_and], HT.out]
          clear ht
          have hown2 := row_keep2 hown ((Below.refl _ _).alloc (Nat.le_refl _) _ : Below wr.heap.size wr (wr.alloc (.cells #[.int .i64 x, .int .i64 y] 34))) b2
          have hb2 : Below w.heap.size w w2 := (hb.alloc hs _).trans (b2.mono (by simp; omega))
          have hs2 := hb2.size
          clear b2 hown hb hc0 hc1
          go_wp2_with (first | (at_builtin; refine wpList_append_own _ rfl (.tmp 20) (.tmp 22) 46 rfl w.heap.size 3 i0 _ 1 8 Try.underlying46 hi hz0 hz1 hz2 rfl (by omega) _ (turnTo l k).length (ints (turnTo l k)) rfl (hown2.alloc _) ⟨w2.heap.size, 0, none⟩ 1 1 [.int .i64 (k : Int)] rfl rfl one_cellI one_oneI (by unfold maxLen; omega) (by omega) (by simp; omega) ?_; intro v3 w3 hown3 hg3 _) | fail)
          have hb3 : Below w.heap.size w w3 := row_below (hown2.alloc _) (hb2.alloc (by omega) _) (by simp; omega) hg3
          rw [← (HY.out HT.out).1, ← (HY.out HT.out).2] at hown3
          clear hg3 hown2 hb2
          go_roundw
          case rel => exact ⟨k + 1, by omega, by go_num, hown3, hb3⟩
          case measure => simp [intOf]; omega
        · refine (impl_IsTurning _ _ _).mono ?_; rintro e w2 ⟨rfl, b2⟩
          have HT := Lib.hid ht
          rw [show (good x y && turning x) = turning x by rw [HGK.out, Bool.true_and], HT.out]
          clear ht
          have hown2 := row_keep2 hown ((Below.refl _ _).alloc (Nat.le_refl _) _ : Below wr.heap.size wr (wr.alloc (.cells #[.int .i64 x, .int .i64 y] 34))) b2
          have hb2 : Below w.heap.size w w2 := (hb.alloc hs _).trans (b2.mono (by simp; omega))
          rw [← HN.out HT.out] at hown2
          clear b2 hown hb hc0 hc1
          go_wp2
          go_roundw
          case rel => exact ⟨k + 1, by omega, by go_num, hown2, hb2⟩
          case measure => simp [intOf]; omega
      · obtain rfl : k = l.length := by omega
        obtain ⟨A', cap', rfl⟩ := slice_of_row hown
        have ho := own_of_row hown
        go_wp2
        go_returns
        exact PostL.mk ho.1 ho.2 hb
  · have HG := Lib.hid hg
    rw [hg]
    clear hg
    go_enter Try.func36, Try.ntmps36
    go_wp2_with fail
    refine (impl_IsBoard _ _ _ _ l _ hn ((hr.below (by (repeat' (first | (with_reducible exact Below.refl _ _) | (with_reducible assumption) | (with_reducible refine Below.alloc ?_ ?_ _) | (with_reducible refine Below.setCell ?_ ?_ _) | (with_reducible refine Below.drew ?_) | (with_reducible refine below_drewN ?_ _) | (with_reducible refine Below.trans ?_ (Below.mono (by assumption) ?_)) | (with_reducible exact Nat.le_refl _) | (simp; done) | omega | (simp at *; omega))) : Below w.heap.size w _)).mono (by go_size))).mono ?_; rintro e w1 ⟨rfl, b1⟩
    rw [HG.out]
    have B1 : Below w.heap.size w w1 := by (repeat' (first | (with_reducible exact Below.refl _ _) | (with_reducible assumption) | (with_reducible refine Below.alloc ?_ ?_ _) | (with_reducible refine Below.setCell ?_ ?_ _) | (with_reducible refine Below.drew ?_) | (with_reducible refine below_drewN ?_ _) | (with_reducible refine Below.trans ?_ (Below.mono (by assumption) ?_)) | (with_reducible exact Nat.le_refl _) | (simp; done) | omega | (simp at *; omega)))
    go_wp2
    go_returns
    exact PostL.none_ B1
end Go.Proofs.Ytdeemhmllfoakaa
