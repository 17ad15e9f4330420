/- ARGUMENTS OPENED: a list of cells that came in. -/
import Derived.Deep.SlicePairs
import Derived.Test.YtlambflmabecfaaDoorList4
namespace Go.Proofs.YtlambflmabecfaaDoor
open Go.ChangeShapes Go.WideShapes Go.ChangeAt Go.RowKit Go.Joins Go.Deep
set_option linter.unusedSimpArgs false
set_option linter.unusedVariables false
set_option maxRecDepth 100000
theorem list_of (n : Nat) (f : Nat → Int × Int) : ∃ l : List (Int × Int), l.length = n ∧ ∀ i (h : i < l.length), l[i] = f i :=
  ⟨(List.range n).map f, by simp, fun i h => by simp⟩
theorem flat_get (l : List (Int × Int)) (j : Nat) (u : Value) (h : (flat l)[j]? = some u) : ∃ k, ∃ hk : k < l.length, (j = k * 2 ∧ u = .int .i64 l[k].1) ∨ (j = k * 2 + 1 ∧ u = .int .i64 l[k].2) := by
  have hj : j < 2 * l.length := by rw [← flat_length]; exact (List.getElem?_eq_some_iff.1 h).1
  have hk : j / 2 < l.length := by omega
  have h2 := flat_at l (j / 2) hk
  refine ⟨j / 2, hk, ?_⟩
  rcases (show j = j / 2 * 2 ∨ j = j / 2 * 2 + 1 by omega) with e | e
  · left
    refine ⟨e, ?_⟩
    have := h2.1
    rw [← e, h] at this
    exact Option.some.inj this
  · right
    refine ⟨e, ?_⟩
    have := h2.2
    rw [← e, h] at this
    exact Option.some.inj this
end Go.Proofs.YtlambflmabecfaaDoor
