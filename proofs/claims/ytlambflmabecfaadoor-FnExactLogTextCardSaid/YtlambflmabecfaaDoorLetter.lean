/- Letters of cells, program and model. -/
import Derived.Test.YtlambflmabecfaaDoorCell
namespace Go.Proofs.YtlambflmabecfaaDoor
open Go.ChangeShapes Go.WideShapes Go.ChangeAt Go.RowKit Go.Joins Go.Deep
set_option linter.unusedSimpArgs false
set_option linter.unusedVariables false
set_option maxRecDepth 100000
set_option maxHeartbeats 400000
/-- A valid cell is one of ten. -/
theorem good_cases {P : Int → Int → Prop} (h00 : P 0 0) (h10 : P 1 0) (h20 : P 2 0) (h30 : P 3 0) (h31 : P 3 1) (h40 : P 4 0) (h50 : P 5 0) (h60 : P 6 0) (h61 : P 6 1) (h70 : P 7 0) (a b : Int) (h : good a b = true) : P a b := by
  unfold good at h
  simp only [decide_eq_true_eq] at h
  obtain ⟨h1, h2, h3⟩ := h
  have ha : a = 0 ∨ a = 1 ∨ a = 2 ∨ a = 3 ∨ a = 4 ∨ a = 5 ∨ a = 6 ∨ a = 7 := by omega
  rcases ha with rfl | rfl | rfl | rfl | rfl | rfl | rfl | rfl <;> rcases h3 with rfl | ⟨rfl, h3⟩ <;> first | assumption | (exfalso; omega)
def letB (a b : Int) : UInt8 := if b = 1 then (if a = 3 then 70 else 71) else if a = 0 then 46 else if a = 1 then 108 else if a = 2 then 114 else if a = 3 then 102 else if a = 4 then 120 else if a = 5 then 111 else if a = 6 then 103 else 99
def selS (ok : Bool) (s : ByteArray) : ByteArray := if ok then s else ⟨#[]⟩
theorem ret_strb {a c : ByteArray} {x y : Bool} (h : x = y) (h1 : y = true → a = c) (h3 : y = false → a = ⟨#[]⟩) :
    Ending.returned (.tuple #[.string a, .bool x]) = .returned (.tuple #[.string (selS y c), .bool y]) := by
  subst h
  cases x
  · rw [h3 rfl]; rfl
  · rw [h1 rfl]; rfl
theorem enc_letB (a b : Int) (h : good a b = true) : Utf8.encode (letB a b).toNat = ⟨#[letB a b]⟩ :=
  good_cases (P := fun a b => Utf8.encode (letB a b).toNat = ⟨#[letB a b]⟩) (by decide +kernel) (by decide +kernel) (by decide +kernel) (by decide +kernel) (by decide +kernel) (by decide +kernel) (by decide +kernel) (by decide +kernel) (by decide +kernel) (by decide +kernel) a b h
end Go.Proofs.YtlambflmabecfaaDoor
