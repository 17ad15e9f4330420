/- For every list of cells, CellsText of the program answers as the model does, and keeps its argument. No condition. -/
import Derived.Test.YtgecihedocifjabOpen
import Derived.Test.YtgecihedocifjabText
namespace Go.Proofs.Ytgecihedocifjab
open Go.ChangeShapes Go.WideShapes Go.ChangeAt Go.RowKit Go.Joins Go.Deep
set_option linter.unusedSimpArgs false
set_option linter.unusedVariables false
set_option maxRecDepth 100000
set_option maxHeartbeats 1000000 in
theorem CellsText_walk0 (A : Option Addr) (cap : Nat) (l : List (Int × Int)) (w : World) (hmax : l.length ≤ maxLen) (hr : Rd w w.heap.size A (flat l)) :
    Calls Try.prog 10 #[.slice A l.length cap] w fun e w' => e = .returned (.bool true) ∧ Below w.heap.size w w' := by
  by_cases hn : l.length ≤ 1048576
  · go_enter Try.func10, Try.ntmps10
    go_wp2_with fail
    refine (szCellS_any _ _ _ _ _ hmax (by omega) (by omega)).mono ?_; rintro e w1 ⟨rfl, rfl⟩
    rw [if_neg (by omega)]
    go_wp2_with fail
    refine (toCellS_any _ _ l _ hn hr).mono ?_; rintro e w1 ⟨rfl, t1, b1⟩
    go_wp2_with fail
    refine (spec_CellsText _ _ l _ hn (t1.rd t1.lt)).mono ?_; rintro e w2 ⟨rfl, b2⟩
    have B2 := b1.trans (b2.mono b1.size)
    go_wp2_with fail
    refine (toCellS_any _ _ l _ hn ((hr.below B2).mono B2.size)).mono ?_; rintro e w3 ⟨rfl, t3, b3⟩
    have B3 := B2.trans (b3.mono B2.size)
    go_wp2_with fail
    refine (impl_CellsText _ _ l _ hn (t3.rd t3.lt)).mono ?_; rintro e w4 ⟨rfl, b4⟩
    have B4 := B3.trans (b4.mono B3.size)
    have t4 := t3.below b4 t3.lt
    generalize (textOr l).toArray = tx at *
    go_wp2_with fail
    refine (toCellS_any _ _ l _ hn ((hr.below B4).mono B4.size)).mono ?_; rintro e w5 ⟨rfl, t5, b5⟩
    have B5 := B4.trans (b5.mono B4.size)
    have t4b := t4.below b5 t4.lt
    go_wp2_with fail
    refine (eqCellS_any _ _ _ _ l l _ hn hn (t4b.rd t4b.lt) (t5.rd t5.lt)).mono ?_; rintro e w6 ⟨rfl, b6⟩
    have B6 := B5.trans (b6.mono B5.size)
    go_wp2
    go_returns
    exact ⟨rfl, B6⟩
  · go_enter Try.func10, Try.ntmps10
    go_wp2_with fail
    refine (szCellS_any _ _ _ _ _ hmax (by omega) (by omega)).mono ?_; rintro e w1 ⟨rfl, rfl⟩
    rw [if_pos (by omega)]
    go_wp2
    go_returns
    exact ⟨rfl, by (repeat' (first | (with_reducible exact Below.refl _ _) | (with_reducible assumption) | (with_reducible refine Below.alloc ?_ ?_ _) | (with_reducible refine Below.setCell ?_ ?_ _) | (with_reducible refine Below.drew ?_) | (with_reducible refine below_drewN ?_ _) | (with_reducible refine Below.trans ?_ (Below.mono (by assumption) ?_)) | (with_reducible exact Nat.le_refl _) | (simp; done) | omega | (simp at *; omega)))⟩
theorem CellsText_walk : Walk Try.prog 10 Try.f10 := by
  intro H enc W base args ds ps hA hval
  rw [Try.params10] at hA hval
  obtain ⟨v0, d0, rfl, rfl, h0⟩ := trodAll_one hA
  obtain ⟨A, cap, l, rfl, hmax, hr⟩ := open_cells (hval 0 38 v0 rfl rfl) h0
  exact CellsText_walk0 A cap l W hmax hr
set_option maxRecDepth 100000 in
theorem CellsText_holds : Rows.FnExactCellsTextSaid :=
  OpenClaim.holds_of_wide 10 Try.f10 rfl rfl rfl rfl rfl rfl rfl ⟨rfl, rfl, rfl, rfl, rfl⟩ rfl rfl rfl rfl rfl (by kernel_rfl) Try.func10 (by kernel_rfl)
    (of_decide_eq_true (by kernel_rfl)) (by unfold Func.isWrapper; first | (rw [if_pos (by decide +kernel)]; kernel_rfl) | (rw [if_neg (by decide +kernel)]; exact ⟨rfl, rfl⟩))
    (fun os started H enc _ => lifted (C := Try.checked) (s := Rows.fnExactCellsTextSpec) started own (by kernel_rfl) Try.func10 ⟨#[], #[.slice none 0 0], []⟩ 8 (by kernel_rfl) (by kernel_rfl) (by kernel_rfl) (by kernel_rfl) (by kernel_rfl)
      laidOut (by kernel_rfl) rfl rfl Try.underlying4 (fun ds h => by
        match ds, h with
        | [d0], _ => exact ⟨rfl, rfl, rfl⟩) CellsText_walk)
end Go.Proofs.Ytgecihedocifjab
