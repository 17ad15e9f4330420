/- For every cell, CellLetter of the program answers as the model does; nothing old is changed. No condition. -/
import Derived.Test.YtgecihedocifjabLetter
namespace Go.Proofs.Ytgecihedocifjab
open Go.ChangeShapes Go.WideShapes Go.ChangeAt Go.RowKit Go.Joins Go.Deep
set_option linter.unusedSimpArgs false
set_option linter.unusedVariables false
set_option maxRecDepth 100000
theorem CellLetter_walk0 (a b : Int) (w : World) :
    Calls Try.prog 5 #[.agg #[.int .i64 a, .int .i64 b]] w fun e w' => e = .returned (.bool true) ∧ Below w.heap.size w w' := by
  go_enter Try.func5, Try.ntmps5
  go_wp2_with fail; refine (toCell_any _ _ _).mono ?_; rintro e w1 ⟨rfl, bw1⟩; obtain ⟨cw1, fw1⟩ := bcell bw1; have zw10 : w.heap.size < w1.heap.size := (by have := bw1.size; first | omega | (simp at this; omega))
  go_wp2_with fail; refine (spec_CellLetter _ _ _).mono ?_; rintro e w2 ⟨rfl, bw2⟩; obtain ⟨cw2, fw2⟩ := bcell bw2; have zw20 : w.heap.size < w2.heap.size := (by have := bw2.size; first | omega | (simp at this; omega))
  go_wp2_with fail; refine (toCell_any _ _ _).mono ?_; rintro e w3 ⟨rfl, bw3⟩; obtain ⟨cw3, fw3⟩ := bcell bw3; have zw30 : w.heap.size < w3.heap.size := (by have := bw3.size; first | omega | (simp at this; omega))
  go_wp2_with fail; refine (impl_CellLetter _ _ _).mono ?_; rintro e w4 ⟨rfl, bw4⟩; obtain ⟨cw4, fw4⟩ := bcell bw4; have zw40 : w.heap.size < w4.heap.size := (by have := bw4.size; first | omega | (simp at this; omega))
  go_wp2
  all_goals go_returns
  all_goals refine ⟨rfl, by (repeat' (first | (with_reducible exact Below.refl _ _) | (with_reducible assumption) | (with_reducible refine Below.alloc ?_ ?_ _) | (with_reducible refine Below.setCell ?_ ?_ _) | (with_reducible refine Below.drew ?_) | (with_reducible refine below_drewN ?_ _) | (with_reducible refine Below.trans ?_ (Below.mono (by assumption) ?_)) | (with_reducible exact Nat.le_refl _) | (simp; done) | omega | (simp at *; omega)))⟩
theorem CellLetter_walk : Walk Try.prog 5 Try.f5 := by
  intro H enc W base args ds ps hA hval
  rw [Try.params5] at hA hval
  obtain ⟨v0, d0, rfl, rfl, h0⟩ := trodAll_one hA
  obtain ⟨a, b, rfl, -, -⟩ := open_ints2 Try.underlying23 (by kernel_rfl) (by kernel_rfl) Try.underlying3 Try.underlying3 (hval 0 23 v0 rfl rfl) h0
  exact CellLetter_walk0 a b W
set_option maxRecDepth 100000 in
theorem CellLetter_holds : Rows.FnExactCellLetterSaid :=
  OpenClaim.holds_of_wide 5 Try.f5 rfl rfl rfl rfl rfl rfl rfl ⟨rfl, rfl, rfl, rfl, rfl⟩ rfl rfl rfl rfl rfl (by kernel_rfl) Try.func5 (by kernel_rfl)
    (of_decide_eq_true (by kernel_rfl)) (by unfold Func.isWrapper; first | (rw [if_pos (by decide +kernel)]; kernel_rfl) | (rw [if_neg (by decide +kernel)]; exact ⟨rfl, rfl⟩))
    (fun os started H enc _ => lifted (C := Try.checked) (s := Rows.fnExactCellLetterSpec) started own (by kernel_rfl) Try.func5 ⟨#[], #[.agg #[.int .i64 0, .int .i64 0]], []⟩ 8 (by kernel_rfl) (by kernel_rfl) (by kernel_rfl) (by kernel_rfl) (by kernel_rfl)
      laidOut (by kernel_rfl) rfl rfl Try.underlying4 (fun ds h => by
        match ds, h with
        | [d0], _ => exact ⟨rfl, rfl, rfl⟩) CellLetter_walk)
end Go.Proofs.Ytgecihedocifjab
