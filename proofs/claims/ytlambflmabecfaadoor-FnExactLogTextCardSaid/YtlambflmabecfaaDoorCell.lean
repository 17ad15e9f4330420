/-
  Contracts of the functions of chapter 1 that speak of one cell (program and model), and the laws IsCell, IsTurning, TurnCell, MirrorCell.
-/
import Derived.Test.YtlambflmabecfaaDoorBase
namespace Go.Proofs.YtlambflmabecfaaDoor
open Go.ChangeShapes Go.WideShapes Go.ChangeAt Go.RowKit Go.Joins Go.Deep
set_option linter.unusedSimpArgs false
set_option linter.unusedVariables false
def turning (k : Int) : Bool := decide (k = 3 ∨ k = 6)
def good (k s : Int) : Bool := decide (0 ≤ k ∧ k ≤ 7 ∧ (s = 0 ∨ s = 1 ∧ (k = 3 ∨ k = 6)))
set_option maxHeartbeats 400000
theorem spec_l1In (a b c : Int) (w : World) :
    Calls Tryd.prog 38 #[.int .i64 a, .int .i64 b, .int .i64 c] w fun e w' => e = .returned (.bool (decide (b ≤ a) && decide (a ≤ c))) ∧ w = w' := by
  by_cases h1 : b ≤ a
  all_goals go_enter Tryd.func38, Tryd.ntmps38
  all_goals go_wp2
  all_goals go_returns
  all_goals exact ⟨ret_bool (by (first | rfl | (refine Bool.eq_iff_iff.2 ?_; simp only [Bool.and_eq_true, Bool.or_eq_true, Bool.not_eq_true', decide_eq_true_eq, decide_eq_false_iff_not, beq_iff_eq, bne_iff_ne, ne_eq, true_iff, iff_true, false_iff, iff_false, Bool.false_eq_true, Bool.true_eq_false] <;> omega) | (simp; omega))), rfl⟩
/-- A field of a result that is zero where the call fails. -/
def selI (ok : Bool) (x : Int) : Int := if ok then x else 0
theorem ret_cellb {a b c d : Int} {x y : Bool} (h : x = y) (h1 : y = true → a = c) (h2 : y = true → b = d) (h3 : y = false → a = 0) (h4 : y = false → b = 0) :
    Ending.returned (.tuple #[.agg #[.int .i64 a, .int .i64 b], .bool x]) = .returned (.tuple #[.agg #[.int .i64 (selI y c), .int .i64 (selI y d)], .bool y]) := by
  subst h
  cases x
  · rw [h3 rfl, h4 rfl]; rfl
  · rw [h1 rfl, h2 rfl]; rfl
theorem ret_eq {v u : Value} (h : v = u) : Ending.returned v = .returned u := by rw [h]
end Go.Proofs.YtlambflmabecfaaDoor
