/- CellsText, program and model. -/
import Derived.Test.YtlambflmabecfaaDoorList4
import Derived.Test.YtlambflmabecfaaDoorBuilder
import Derived.Test.YtlambflmabecfaaDoorLetter
namespace Go.Proofs.YtlambflmabecfaaDoor
open Go.ChangeShapes Go.WideShapes Go.ChangeAt Go.RowKit Go.Joins Go.Deep
set_option linter.unusedSimpArgs false
set_option linter.unusedVariables false
set_option maxRecDepth 100000
set_option maxHeartbeats 400000
def textOf (l : List (Int × Int)) : List UInt8 := l.map fun c => letB c.1 c.2
def textOr (l : List (Int × Int)) : List UInt8 := if goodL l then textOf l else []
theorem textOf_step {l : List (Int × Int)} {k : Nat} (h : k < l.length) : textOf (l.take (k + 1)) = textOf (l.take k) ++ [letB l[k].1 l[k].2] := by
  rw [List.take_succ_eq_append_getElem h, textOf, List.map_append]; rfl
theorem textOf_len {l : List (Int × Int)} {k : Nat} (h : k ≤ l.length) : (textOf (l.take k)).length = k := by
  rw [textOf, List.length_map, List.length_take]; omega
theorem good_of {l : List (Int × Int)} (hg : goodL l = true) {k : Nat} (h : k < l.length) : good l[k].1 l[k].2 = true := by
  unfold goodL at hg
  rw [Bool.and_eq_true, List.all_eq_true] at hg
  exact hg.2 _ (List.getElem_mem h)
theorem bytes_snoc (l : List UInt8) (b : UInt8) : (⟨l.toArray⟩ : ByteArray) ++ (⟨#[b]⟩ : ByteArray) = ⟨(l ++ [b]).toArray⟩ := by
  apply ByteArray.ext
  simp
theorem ret_strl {a c : List UInt8} {x y : Bool} (h : x = y) (h1 : a = c) : Ending.returned (.tuple #[.string ⟨a.toArray⟩, .bool x]) = .returned (.tuple #[.string ⟨c.toArray⟩, .bool y]) := by rw [h, h1]
theorem let_low (a b : Int) (h : good a b = true) : (letB a b).toNat < 128 :=
  good_cases (P := fun a b => (letB a b).toNat < 128) (by decide +kernel) (by decide +kernel) (by decide +kernel) (by decide +kernel) (by decide +kernel) (by decide +kernel) (by decide +kernel) (by decide +kernel) (by decide +kernel) (by decide +kernel) a b h
end Go.Proofs.YtlambflmabecfaaDoor
