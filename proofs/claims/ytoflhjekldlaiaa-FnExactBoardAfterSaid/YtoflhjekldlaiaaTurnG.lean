/- TurnGear, program and model. -/
import Derived.Test.YtoflhjekldlaiaaTurnS
namespace Go.Proofs.Ytoflhjekldlaiaa
open Go.ChangeShapes Go.WideShapes Go.ChangeAt Go.RowKit Go.Joins Go.Deep
set_option linter.unusedSimpArgs false
set_option linter.unusedVariables false
set_option maxRecDepth 100000
set_option maxHeartbeats 4000000
theorem field_kind (a b : Value) (w : World) : (Instr.field 92 (.agg #[a, b]) 0).run Try.prog w = .ok a w := by kernel_rfl
theorem spec_ggGroupsN (r c : Nat) (A : Option Addr) (cap : Nat) (l : List (Int × Int)) (w : World) (hG : Geo r c l.length) (hr : Rd w w.heap.size A (flat l)) :
    Calls Try.prog 61 #[.agg #[.int .i64 (r : Int), .int .i64 (c : Int), .slice A l.length cap]] w fun e w' => ∃ A' cap', e = .returned (.slice A' l.length cap') ∧ Own w' A' 3 (ints (numL c l)) ∧ New w A' ∧ Below w.heap.size w w' :=
  (spec_ggGroups r c A cap l w hG hr).mono fun e w' h => by
    obtain ⟨A', cap', rfl, a, b, d⟩ := h
    exact ⟨A', cap', by rw [numL_len], a, b, d⟩
def okT (R C : Int) (l : List (Int × Int)) (i j : Int) : Bool := hasB R C l i j && gearK l (atI C i j)
def turnG (R C : Int) (l : List (Int × Int)) (i j : Int) : List (Int × Int) := if okT R C l i j then tnS l (isIn C l (nmb C l (atI C i j))) else []
theorem turnG_len (R C : Int) (l : List (Int × Int)) (i j : Int) (h : l.length ≤ 1048576) : (turnG R C l i j).length ≤ 1048576 := by
  unfold turnG
  split
  · rw [tnS_len]; exact h
  · simp
theorem turnG_post {w w' : World} {R C : Int} {l : List (Int × Int)} {i j : Int} {e : Ending} {ok : Bool} (h : okT R C l i j = ok) (hp : if ok then PostB w R C (tnS l (isIn C l (nmb C l (atI C i j)))) true e w' else PostB w 0 0 [] false e w') :
    PostB w (selI (okT R C l i j) R) (selI (okT R C l i j) C) (turnG R C l i j) (okT R C l i j) e w' := by
  unfold turnG
  rw [h]
  cases ok
  · exact hp
  · exact hp
end Go.Proofs.Ytoflhjekldlaiaa
