/- Contracts of GoesTo, program and model. -/
import Derived.Test.YtdpgbgniejlilaaCell
namespace Go.Proofs.Ytdpgbgniejlilaa
open Go.ChangeShapes Go.WideShapes Go.ChangeAt Go.RowKit Go.Joins Go.Deep
set_option linter.unusedSimpArgs false
set_option linter.unusedVariables false
set_option maxRecDepth 100000
set_option maxHeartbeats 400000
def goN (k s d : Int) : Int := if k = 1 then -1 else if k = 2 then 1 else if k = 3 ∨ k = 6 then 2 * s - 1 else if k = 4 then -d else 0
def goB (k s d : Int) : Bool := good k s && decide (-1 ≤ d ∧ d ≤ 1 ∧ k ≠ 5)
theorem ret_intb {a c : Int} {x y : Bool} (h : x = y) (h1 : y = true → a = c) (h3 : y = false → a = 0) :
    Ending.returned (.tuple #[.int .i64 a, .bool x]) = .returned (.tuple #[.int .i64 (selI y c), .bool y]) := by
  subst h
  cases x
  · rw [h3 rfl]; rfl
  · rw [h1 rfl]; rfl
end Go.Proofs.Ytdpgbgniejlilaa
