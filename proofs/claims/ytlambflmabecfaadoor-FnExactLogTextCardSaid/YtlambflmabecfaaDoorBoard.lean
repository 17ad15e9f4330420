/- Boards: the laws' own helpers over them. -/
import Derived.Test.YtlambflmabecfaaDoorList4
namespace Go.Proofs.YtlambflmabecfaaDoor
open Go.ChangeShapes Go.WideShapes Go.ChangeAt Go.RowKit Go.Joins Go.Deep
set_option linter.unusedSimpArgs false
set_option linter.unusedVariables false
set_option maxRecDepth 100000
set_option maxHeartbeats 400000
/-- A board by value. -/
def bv (R C : Int) (A : Option Addr) (n cap : Nat) : Value := .agg #[.int .i64 R, .int .i64 C, .slice A n cap]
theorem Whole.set_far {w : World} {g : Nat} {t : TypeId} {xs : List Value} (h : Whole w g t xs) (p : Addr) (u : Value) (hne : p.block ≠ g) : Whole (w.setCell p u) g t xs := (Below.heap_setCell w p u g (fun e => hne e.symm)).trans h
theorem only_alloc {w w' : World} {o : Obj} {A : Option Addr} (h : Only (w.alloc o) w' A) : Only w w' A := by
  have hs := h.size
  rw [World.size_alloc] at hs
  refine ⟨h.os.trans rfl, h.tape.trans rfl, h.output.trans rfl, by omega, fun i hi hne => (h.block i (by rw [World.size_alloc]; omega) hne).trans (Below.heap_alloc _ _ _ hi)⟩
def eqB (R C R' C' : Int) (l m : List (Int × Int)) : Bool := decide (R = R' ∧ C = C' ∧ l = m)
end Go.Proofs.YtlambflmabecfaaDoor
