/-
  LISTS IN MEMORY, MORE: the laws' helpers that compare, mark and look at lists of cells and of numbers.
-/
import Derived.StillTailTactics
import Derived.Test.YtlambflmabecfaaDoorList
namespace Go.Proofs.YtlambflmabecfaaDoor
open Go.ChangeShapes Go.WideShapes Go.ChangeAt Go.RowKit Go.Joins Go.Deep
set_option linter.unusedSimpArgs false
set_option linter.unusedVariables false
set_option maxRecDepth 100000
set_option maxHeartbeats 400000
theorem flat_inj : ∀ {l m : List (Int × Int)}, flat l = flat m → l = m := by
  intro l
  induction l with
  | nil => intro m h; cases m with
    | nil => rfl
    | cons c m => cases h
  | cons c l ih => intro m h; cases m with
    | nil => cases h
    | cons d m =>
      have h' : Value.int .i64 c.1 :: .int .i64 c.2 :: flat l = .int .i64 d.1 :: .int .i64 d.2 :: flat m := h
      simp only [List.cons.injEq, Value.int.injEq, true_and] at h'
      rw [ih h'.2.2, Prod.ext h'.1 h'.2.1]
theorem take_step {l m : List (Int × Int)} {k : Nat} (h1 : k < l.length) (h2 : k < m.length) (h : l.take k = m.take k) : l[k].1 = m[k].1 → l[k].2 = m[k].2 → l.take (k + 1) = m.take (k + 1) := fun a b => by
  rw [List.take_succ_eq_append_getElem h1, List.take_succ_eq_append_getElem h2, h, Prod.ext a b]
end Go.Proofs.YtlambflmabecfaaDoor
