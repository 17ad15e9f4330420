/- Contracts of GoesTo, program and model. -/
import Derived.Test.YtoflhjekldlaiaaCell
namespace Go.Proofs.Ytoflhjekldlaiaa
open Go.ChangeShapes Go.WideShapes Go.ChangeAt Go.RowKit Go.Joins Go.Deep
set_option linter.unusedSimpArgs false
set_option linter.unusedVariables false
set_option maxRecDepth 100000
set_option maxHeartbeats 400000
def goN (k s d : Int) : Int := if k = 1 then -1 else if k = 2 then 1 else if k = 3 ∨ k = 6 then 2 * s - 1 else if k = 4 then -d else 0
def goB (k s d : Int) : Bool := good k s && decide (-1 ≤ d ∧ d ≤ 1 ∧ k ≠ 5)
theorem spec_paGoes (a b d : Int) (h : good a b = true) (h1 : -1 ≤ d) (h2 : d ≤ 1) (w : World) :
    Calls Try.prog 81 #[.agg #[.int .i64 a, .int .i64 b], .int .i64 d] w fun e w' => e = .returned (.int .i64 (goN a b d)) ∧ Below w.heap.size w w' := by
  have h3 : 0 ≤ b := by unfold good at h; simp at h; omega
  have h4 : b ≤ 1 := by unfold good at h; simp at h; omega
  clear h
  go_enter Try.func81, Try.ntmps81
  go_wp2
  all_goals go_returns
  all_goals refine ⟨ret_int (by unfold goN; (simp only [beq_iff_eq, beq_eq_false_iff_ne, ne_eq] at *; (repeat' split) <;> first | rfl | omega)), by (repeat' (first | (with_reducible exact Below.refl _ _) | (with_reducible assumption) | (with_reducible refine Below.alloc ?_ ?_ _) | (with_reducible refine Below.setCell ?_ ?_ _) | (with_reducible refine Below.drew ?_) | (with_reducible refine below_drewN ?_ _) | (with_reducible refine Below.trans ?_ (Below.mono (by assumption) ?_)) | (with_reducible exact Nat.le_refl _) | (simp; done) | omega | (simp at *; omega)))⟩
theorem ret_intb {a c : Int} {x y : Bool} (h : x = y) (h1 : y = true → a = c) (h3 : y = false → a = 0) :
    Ending.returned (.tuple #[.int .i64 a, .bool x]) = .returned (.tuple #[.int .i64 (selI y c), .bool y]) := by
  subst h
  cases x
  · rw [h3 rfl]; rfl
  · rw [h1 rfl]; rfl
theorem impl_GoesTo (a b d : Int) (w : World) :
    Calls Try.prog 77 #[.agg #[.int .i64 a, .int .i64 b], .int .i64 d] w fun e w' => e = .returned (.tuple #[.int .i64 (selI (goB a b d) (goN a b d)), .bool (goB a b d)]) ∧ Below w.heap.size w w' := by
  go_enter Try.func77, Try.ntmps77
  go_wp2_with (first | (go_at_call 91; refine (impl_IsCell _ _ _).mono ?_; rintro e w1 ⟨rfl, bw1⟩; obtain ⟨cw1, fw1⟩ := bcell bw1; have zw10 : w.heap.size < w1.heap.size := (by have := bw1.size; first | omega | (simp at this; omega))) | (go_at_call 92; go_in) | (go_at_call 110; go_in) | (go_at_call 111; go_in) | (go_at_call 112; go_in) | (go_at_call 113; go_in))
  all_goals go_returns
  all_goals (have hg := (show good a b = true → (b = 0 ∨ b = 1) from (by unfold good; simp; omega)))
  all_goals refine ⟨by (refine ret_intb ?_ ?_ ?_ <;> first | rfl | (intros; rfl) | (unfold goB; simp_all; done) | (unfold goB; simp_all; omega) | (intro _; unfold goN; simp_all; done) | (intro _; unfold goN; simp_all; omega)), by (repeat' (first | (with_reducible exact Below.refl _ _) | (with_reducible assumption) | (with_reducible refine Below.alloc ?_ ?_ _) | (with_reducible refine Below.setCell ?_ ?_ _) | (with_reducible refine Below.drew ?_) | (with_reducible refine below_drewN ?_ _) | (with_reducible refine Below.trans ?_ (Below.mono (by assumption) ?_)) | (with_reducible exact Nat.le_refl _) | (simp; done) | omega | (simp at *; omega)))⟩
end Go.Proofs.Ytoflhjekldlaiaa
