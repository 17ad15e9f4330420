/- Boxes that a region makes at some place of its order. -/
import Derived.Test.YtlambflmabecfaaDoorMark
namespace Go.Proofs.YtlambflmabecfaaDoor
open Go.ChangeShapes Go.WideShapes Go.ChangeAt Go.RowKit Go.Joins Go.Deep
set_option linter.unusedSimpArgs false
set_option linter.unusedVariables false
set_option maxRecDepth 100000
theorem Own.set_far2 {w : World} {A : Option Addr} {t : TypeId} {xs : List Value} (h : Own w A t xs) (p : Addr) (u : Value) (hne : 0 < xs.length → ∀ a, A = some a → p.block ≠ a.block) : Own (w.setCell p u) A t xs := fun hx => by
  obtain ⟨g, rest, rfl, hw⟩ := h hx
  exact ⟨g, rest, rfl, hw.set_far p u (hne hx _ rfl)⟩
theorem whole_three {w : World} {g : Nat} {t : TypeId} {x y z a b c : Value} (h : Whole w g t [x, y, z]) : Whole (((w.setCell ⟨g, 0, none⟩ a).setCell ⟨g, 1, none⟩ b).setCell ⟨g, 2, none⟩ c) g t [a, b, c] := ((h.set 0 a).set 1 b).set 2 c
end Go.Proofs.YtlambflmabecfaaDoor
