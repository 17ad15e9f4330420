/- Valid boards, program and model; the cell in a row and a column. -/
import Derived.IntWalk
import Derived.Test.YtlambflmabecfaaDoorBoard
namespace Go.Proofs.YtlambflmabecfaaDoor
open Go.ChangeShapes Go.WideShapes Go.ChangeAt Go.RowKit Go.Joins Go.Deep
set_option linter.unusedSimpArgs false
set_option linter.unusedVariables false
set_option maxRecDepth 100000
set_option maxHeartbeats 400000
def sizeB (R C : Int) : Bool := decide (1 ≤ R ∧ R ≤ 10 ∧ 1 ≤ C ∧ C ≤ 9)
def goodB (R C : Int) (l : List (Int × Int)) : Bool := sizeB R C && decide ((l.length : Int) = R * C) && l.all fun c => good c.1 c.2
theorem sizeB_iff {R C : Int} : sizeB R C = true ↔ 1 ≤ R ∧ R ≤ 10 ∧ 1 ≤ C ∧ C ≤ 9 := by unfold sizeB; simp
theorem mul_bound {R C : Int} (h : sizeB R C = true) : 1 ≤ R * C ∧ R * C ≤ 90 := by
  rw [sizeB_iff] at h
  obtain ⟨a, b, c, d⟩ := h
  have h1 : 1 * 1 ≤ R * C := Int.mul_le_mul a c (by omega) (by omega)
  have h2 : R * C ≤ 10 * 9 := Int.mul_le_mul b d (by omega) (by omega)
  omega
theorem wrapRC {R C : Int} (h : sizeB R C = true) : IntKind.i64.wrap (R * C) = R * C := by
  have := mul_bound h
  exact IntWalk.i64_in (R * C) (by omega)
theorem goodB_eq {R C : Int} {l : List (Int × Int)} (hs : sizeB R C = true) (hl : (l.length : Int) = R * C) : goodB R C l = goodL l := by
  have := mul_bound hs
  unfold goodB goodL
  rw [hs, decide_eq_true hl, decide_eq_true (by omega : l.length ≤ 90)]
  rfl
theorem goodB_all {R C : Int} {l : List (Int × Int)} (hs : sizeB R C = true) (hl : (l.length : Int) = R * C) : goodB R C l = l.all fun c => good c.1 c.2 := by
  unfold goodB
  rw [hs, decide_eq_true hl]
  rfl
theorem goodB_size {R C : Int} {l : List (Int × Int)} (hs : sizeB R C = false) : goodB R C l = false := by unfold goodB; rw [hs]; rfl
theorem goodB_len {R C : Int} {l : List (Int × Int)} (hl : ¬ (l.length : Int) = R * C) : goodB R C l = false := by
  unfold goodB
  rw [decide_eq_false hl, Bool.and_false]
  rfl
end Go.Proofs.YtlambflmabecfaaDoor
