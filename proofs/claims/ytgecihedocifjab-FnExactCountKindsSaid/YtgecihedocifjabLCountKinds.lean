/- For every list of cells, CountKinds of the program answers as the model does, keeps its argument, and owns what it hands back. No condition. -/
import Derived.Test.YtgecihedocifjabOpen
import Derived.Test.YtgecihedocifjabCount
namespace Go.Proofs.Ytgecihedocifjab
open Go.ChangeShapes Go.WideShapes Go.ChangeAt Go.RowKit Go.Joins Go.Deep
set_option linter.unusedSimpArgs false
set_option linter.unusedVariables false
set_option maxRecDepth 100000
set_option maxHeartbeats 1000000 in
theorem CountKinds_walk0 (A : Option Addr) (cap : Nat) (l : List (Int × Int)) (w : World) (hmax : l.length ≤ maxLen) (hr : Rd w w.heap.size A (flat l)) :
    Calls Try.prog 12 #[.slice A l.length cap] w fun e w' => e = .returned (.bool true) ∧ Below w.heap.size w w' := by
  by_cases hn : l.length ≤ 1048576
  · go_enter Try.func12, Try.ntmps12
    go_wp2_with fail
    refine (szCellS_any _ _ _ _ _ hmax (by omega) (by omega)).mono ?_; rintro e w1 ⟨rfl, rfl⟩
    rw [if_neg (by omega)]
    go_wp2_with fail
    refine (toCellS_any _ _ l _ hn hr).mono ?_; rintro e w1 ⟨rfl, t1, b1⟩
    go_wp2_with fail
    refine (spec_CountKinds _ _ l _ hn (t1.rd t1.lt)).mono ?_; rintro e w2 ⟨A0, c0, rfl, o0, n0, b2⟩
    have B2 := b1.trans (b2.mono b1.size)
    go_wp2_with fail
    refine (toCellS_any _ _ l _ hn ((hr.below B2).mono B2.size)).mono ?_; rintro e w3 ⟨rfl, t3, b3⟩
    have B3 := B2.trans (b3.mono B2.size)
    go_wp2_with fail
    refine (impl_CountKinds _ _ l _ hn (t3.rd t3.lt)).mono ?_; rintro e w4 ⟨A1, c1, rfl, o1, n1, b4⟩
    have B4 := B3.trans (b4.mono B3.size)
    have L34 := b4.size
    have L23 := t3.lt
    have p0 := o0.keep b3
    have q0 := p0.keep b4
    have t4 := t3.below b4 t3.lt
    go_wp2_with fail
    refine (eqIntS_any _ _ _ _ _ _ _ (countsOr_len l) (countsOr_len l) o1.rd q0.rd).mono ?_; rintro e w5 ⟨rfl, b5⟩
    have B5 := B4.trans (b5.mono B4.size)
    have o1a := o1.keep b5
    have q0a := q0.keep b5
    have t5 := t4.below b5 t4.lt
    go_wp2_with fail
    refine (toCellS_any _ _ l _ hn ((hr.below B5).mono B5.size)).mono ?_; rintro e w6 ⟨rfl, t6, b6⟩
    have B6 := B5.trans (b6.mono B5.size)
    have t5b := t5.below b6 t5.lt
    go_wp2_with fail
    refine (eqCellS_any _ _ _ _ l l _ hn hn (t5b.rd t5b.lt) (t6.rd t6.lt)).mono ?_; rintro e w7 ⟨rfl, b7⟩
    have B7 := B6.trans (b7.mono B6.size)
    have o1b := (o1a.keep b6).keep b7
    have q0b := (q0a.keep b6).keep b7
    have t7 := t5b.below b7 t5b.lt
    go_wp2_with fail
    refine (markCellS_any _ _ l.length (flat l) _ _ (flat_length l) hn (by omega) (by omega) t7.own).mono ?_; rintro e w8 ⟨rfl, m8, s8⟩
    have G0 : w.heap.size ≤ w2.heap.size := B2.size
    have b8 : Below w2.heap.size w7 w8 := s8.below (Nat.le_of_lt t7.lt) (fun a ha => by cases ha; exact Nat.le_refl _)
    have B8 := B7.trans (b8.mono G0)
    have o1c := o1b.only s8 (fun hx a a' ha ha' => by have h1 := n1 a ha; cases ha'; exact Nat.ne_of_gt (Nat.lt_of_lt_of_le L23 h1))
    have q0c := q0b.only s8 (fun hx a a' ha ha' => by have h1 := o0.lt hx ha; cases ha'; exact Nat.ne_of_lt h1)
    go_wp2_with fail
    refine (eqIntS_any _ _ _ _ _ _ _ (countsOr_len l) (countsOr_len l) o1c.rd q0c.rd).mono ?_; rintro e w9 ⟨rfl, b9⟩
    have B9 := B8.trans (b9.mono B8.size)
    have o1d := o1c.keep b9
    have q0d := q0c.keep b9
    go_wp2_with fail
    refine (markIntS_any _ _ (countsOr l).length (ints (countsOr l)) _ _ (ints_length _) (countsOr_len l) (by omega) (by omega) o1d).mono ?_; rintro e w10 ⟨rfl, m10, s10⟩
    have b10 : Below w3.heap.size w9 w10 := s10.below (Nat.le_trans L34 (Nat.le_trans b5.size (Nat.le_trans b6.size (Nat.le_trans b7.size (Nat.le_trans b8.size b9.size))))) n1
    have B10 := B9.trans (b10.mono B3.size)
    have q0e := q0d.only s10 (fun hx a a' ha ha' => by have h1 := p0.lt hx ha; have h2 := n1 a' ha'; exact Nat.ne_of_lt (Nat.lt_of_lt_of_le h1 h2))
    go_wp2_with fail
    refine (heldIntS_any _ _ (countsOr l).length _ _ (countsOr_len l) (by omega) (by omega) m10).mono ?_; rintro e w11 ⟨rfl, rfl⟩
    go_wp2_with fail
    refine (toCellS_any _ _ l _ hn ((hr.below B10).mono B10.size)).mono ?_; rintro e w11 ⟨rfl, t11, b11⟩
    have B11 := B10.trans (b11.mono B10.size)
    go_wp2_with fail
    refine (impl_CountKinds _ _ l _ hn (t11.rd t11.lt)).mono ?_; rintro e w12 ⟨A2, c2, rfl, o2, n2, b12⟩
    have B12 := B11.trans (b12.mono B11.size)
    have q0f := (q0e.keep b11).keep b12
    have m12 := (m10.keep b11).keep b12
    go_wp2_with fail
    refine (eqIntS_any _ _ _ _ _ _ _ (countsOr_len l) (countsOr_len l) o2.rd q0f.rd).mono ?_; rintro e w13 ⟨rfl, b13⟩
    have B13 := B12.trans (b13.mono B12.size)
    have m13 := m12.keep b13
    go_wp2_with fail
    refine (heldIntS_any _ _ (countsOr l).length _ _ (countsOr_len l) (by omega) (by omega) m13).mono ?_; rintro e w14 ⟨rfl, rfl⟩
    go_wp2
    go_returns
    exact ⟨rfl, B13⟩
  · go_enter Try.func12, Try.ntmps12
    go_wp2_with fail
    refine (szCellS_any _ _ _ _ _ hmax (by omega) (by omega)).mono ?_; rintro e w1 ⟨rfl, rfl⟩
    rw [if_pos (by omega)]
    go_wp2
    go_returns
    exact ⟨rfl, by (repeat' (first | (with_reducible exact Below.refl _ _) | (with_reducible assumption) | (with_reducible refine Below.alloc ?_ ?_ _) | (with_reducible refine Below.setCell ?_ ?_ _) | (with_reducible refine Below.drew ?_) | (with_reducible refine below_drewN ?_ _) | (with_reducible refine Below.trans ?_ (Below.mono (by assumption) ?_)) | (with_reducible exact Nat.le_refl _) | (simp; done) | omega | (simp at *; omega)))⟩
theorem CountKinds_walk : Walk Try.prog 12 Try.f12 := by
  intro H enc W base args ds ps hA hval
  rw [Try.params12] at hA hval
  obtain ⟨v0, d0, rfl, rfl, h0⟩ := trodAll_one hA
  obtain ⟨A, cap, l, rfl, hmax, hr⟩ := open_cells (hval 0 38 v0 rfl rfl) h0
  exact CountKinds_walk0 A cap l W hmax hr
set_option maxRecDepth 100000 in
theorem CountKinds_holds : Rows.FnExactCountKindsSaid :=
  OpenClaim.holds_of_wide 12 Try.f12 rfl rfl rfl rfl rfl rfl rfl ⟨rfl, rfl, rfl, rfl, rfl⟩ rfl rfl rfl rfl rfl (by kernel_rfl) Try.func12 (by kernel_rfl)
    (of_decide_eq_true (by kernel_rfl)) (by unfold Func.isWrapper; first | (rw [if_pos (by decide +kernel)]; kernel_rfl) | (rw [if_neg (by decide +kernel)]; exact ⟨rfl, rfl⟩))
    (fun os started H enc _ => lifted (C := Try.checked) (s := Rows.fnExactCountKindsSpec) started own (by kernel_rfl) Try.func12 ⟨#[], #[.slice none 0 0], []⟩ 8 (by kernel_rfl) (by kernel_rfl) (by kernel_rfl) (by kernel_rfl) (by kernel_rfl)
      laidOut (by kernel_rfl) rfl rfl Try.underlying4 (fun ds h => by
        match ds, h with
        | [d0], _ => exact ⟨rfl, rfl, rfl⟩) CountKinds_walk)
end Go.Proofs.Ytgecihedocifjab
