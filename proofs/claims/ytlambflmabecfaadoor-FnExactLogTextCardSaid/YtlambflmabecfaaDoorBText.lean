/- BoardText, program and model. -/
import Derived.Test.YtlambflmabecfaaDoorText
import Derived.Test.YtlambflmabecfaaDoorBuilder2
import Derived.Test.YtlambflmabecfaaDoorRowOf
namespace Go.Proofs.YtlambflmabecfaaDoor
open Go.ChangeShapes Go.WideShapes Go.ChangeAt Go.RowKit Go.Joins Go.Deep
set_option linter.unusedSimpArgs false
set_option linter.unusedVariables false
set_option maxRecDepth 100000
set_option maxHeartbeats 1000000
def rowsText (C : Int) (l : List (Int × Int)) (k : Nat) : List UInt8 := (List.range k).flatMap fun i => textOf (rowL C l i) ++ [10]
def boardText (R C : Int) (l : List (Int × Int)) : List UInt8 := if goodB R C l then rowsText C l R.toNat else []
theorem rowsText_succ (C : Int) (l : List (Int × Int)) (k : Nat) : rowsText C l (k + 1) = rowsText C l k ++ (textOf (rowL C l k) ++ [10]) := by
  unfold rowsText
  rw [List.range_succ, List.flatMap_append]
  simp
theorem rowsText_le {R C : Int} {l : List (Int × Int)} (hg : goodB R C l = true) {k : Nat} (hk : (k : Int) ≤ R) : (rowsText C l k).length ≤ 10 * k := by
  induction k with
  | zero => exact Nat.le_refl 0
  | succ k ih =>
    have hk' : (k : Int) < R := by omega
    have h1 := ih (by omega)
    have h2 := rowL_len hg hk'
    have h3 := row_facts hg hk'
    rw [rowsText_succ, List.length_append, List.length_append]
    have h4 : (textOf (rowL C l k)).length = (rowL C l k).length := by simp [textOf]
    rw [h4, h2]
    simp only [List.length_singleton]
    omega
theorem bytes_app (a b : List UInt8) : (⟨a.toArray⟩ : ByteArray) ++ (⟨b.toArray⟩ : ByteArray) = ⟨(a ++ b).toArray⟩ := by
  apply ByteArray.ext
  simp
end Go.Proofs.YtlambflmabecfaaDoor
