/- The model's turned group. -/
import Derived.Test.YtoflhjekldlaiaaAmong
namespace Go.Proofs.Ytoflhjekldlaiaa
open Go.ChangeShapes Go.WideShapes Go.ChangeAt Go.RowKit Go.Joins Go.Deep
set_option linter.unusedSimpArgs false
set_option linter.unusedVariables false
set_option maxRecDepth 100000
set_option maxHeartbeats 4000000
def isIn (C : Int) (l : List (Int × Int)) (gn : Int) (x : Nat) : Bool := decide (nmb C l x = gn) && gearK l x
def upTo (C : Int) (l : List (Int × Int)) (gn : Int) (k : Nat) (x : Nat) : Bool := decide (x < k) && isIn C l gn x
theorem upTo_zero {C : Int} {l : List (Int × Int)} {gn : Int} : tnS l (upTo C l gn 0) = l := by
  rw [show tnS l (upTo C l gn 0) = tnS l (fun _ => false) from tnS_congr fun x _ => by simp [upTo]]
  exact tnS_none
theorem upTo_yes {C : Int} {l : List (Int × Int)} {gn : Int} {k : Nat} (hk : k < l.length) (h : isIn C l gn k = true) : (tnS l (upTo C l gn k)).set k ((l.getD k (0, 0)).1, 1 - (l.getD k (0, 0)).2) = tnS l (upTo C l gn (k + 1)) := by
  refine tnS_set hk fun x _ => ?_
  unfold upTo
  by_cases e : x = k
  · subst e; simp [h]
  · have e1 : decide (x < k + 1) = decide (x < k) := by rw [decide_eq_decide]; omega
    have e2 : (x == k) = false := by simp [e]
    rw [e1, e2, Bool.or_false]
theorem upTo_no {C : Int} {l : List (Int × Int)} {gn : Int} {k : Nat} (h : isIn C l gn k = false) : tnS l (upTo C l gn (k + 1)) = tnS l (upTo C l gn k) := by
  refine tnS_congr fun x _ => ?_
  unfold upTo
  by_cases e : x = k
  · subst e; simp [h]
  · have e1 : decide (x < k + 1) = decide (x < k) := by rw [decide_eq_decide]; omega
    rw [e1]
theorem upTo_all {C : Int} {l : List (Int × Int)} {gn : Int} : tnS l (upTo C l gn l.length) = tnS l (isIn C l gn) :=
  tnS_congr fun x hx => by unfold upTo; rw [decide_eq_true hx, Bool.true_and]
theorem Whole.two_far {w : World} {g g' j j' : Nat} {t : TypeId} {xs : List Value} {u u' : Value} (h : Whole w g t xs) (hne : g ≠ g') : Whole ((w.setCell ⟨g', j, none⟩ u).setCell ⟨g', j', none⟩ u') g t xs :=
  (Below.heap_setCell (w.setCell ⟨g', j, none⟩ u) ⟨g', j', none⟩ u' g hne).trans ((Below.heap_setCell w ⟨g', j, none⟩ u g hne).trans h)
end Go.Proofs.Ytoflhjekldlaiaa
