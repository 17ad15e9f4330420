/- flPass, the model's: what a marble turns in a cell. -/
import Derived.Deep.RegionHeld3
import Derived.Deep.DeepCutAuto
import Derived.Test.YtdpgbgniejlilaaBoxes
import Derived.Test.YtdpgbgniejlilaaGoes
import Derived.Test.YtdpgbgniejlilaaTurnS
namespace Go.Proofs.Ytdpgbgniejlilaa
open Go.ChangeShapes Go.WideShapes Go.ChangeAt Go.RowKit Go.Joins Go.Deep
set_option linter.unusedSimpArgs false
set_option linter.unusedVariables false
set_option maxRecDepth 100000
set_option maxHeartbeats 4000000
def pin (nm : List Int) (gn : Int) (l : List (Int × Int)) (x : Nat) : Bool := decide (nm.getD x 0 = gn) && gearK l x
def pup (nm : List Int) (gn : Int) (l : List (Int × Int)) (k : Nat) (x : Nat) : Bool := decide (x < k) && pin nm gn l x
def passL (nm : List Int) (l : List (Int × Int)) (i : Nat) : List (Int × Int) :=
  if (l.getD i (0, 0)).1 = 3 then l.set i ((l.getD i (0, 0)).1, 1 - (l.getD i (0, 0)).2) else if (l.getD i (0, 0)).1 = 6 then tnS l (pin nm (nm.getD i 0) l) else l
theorem pup_zero {nm : List Int} {l : List (Int × Int)} {gn : Int} : tnS l (pup nm gn l 0) = l := by
  rw [show tnS l (pup nm gn l 0) = tnS l (fun _ => false) from tnS_congr fun x _ => by simp [pup]]
  exact tnS_none
theorem pup_yes {nm : List Int} {l : List (Int × Int)} {gn : Int} {k : Nat} (hk : k < l.length) (h : pin nm gn l k = true) : (tnS l (pup nm gn l k)).set k ((l.getD k (0, 0)).1, 1 - (l.getD k (0, 0)).2) = tnS l (pup nm gn l (k + 1)) := by
  refine tnS_set hk fun x _ => ?_
  unfold pup
  by_cases e : x = k
  · subst e; simp [h]
  · have e1 : decide (x < k + 1) = decide (x < k) := by rw [decide_eq_decide]; omega
    have e2 : (x == k) = false := by simp [e]
    rw [e1, e2, Bool.or_false]
theorem pup_no {nm : List Int} {l : List (Int × Int)} {gn : Int} {k : Nat} (h : pin nm gn l k = false) : tnS l (pup nm gn l (k + 1)) = tnS l (pup nm gn l k) := by
  refine tnS_congr fun x _ => ?_
  unfold pup
  by_cases e : x = k
  · subst e; simp [h]
  · have e1 : decide (x < k + 1) = decide (x < k) := by rw [decide_eq_decide]; omega
    rw [e1]
theorem pup_all {nm : List Int} {l : List (Int × Int)} {gn : Int} : tnS l (pup nm gn l l.length) = tnS l (pin nm gn l) :=
  tnS_congr fun x hx => by unfold pup; rw [decide_eq_true hx, Bool.true_and]
theorem passL_len (nm : List Int) (l : List (Int × Int)) (i : Nat) : (passL nm l i).length = l.length := by
  unfold passL
  split
  · rw [List.length_set]
  · split
    · rw [tnS_len]
    · rfl
theorem gb_below {w v v' : World} {g : Nat} (h : w.grownBy v (some g)) (hb : Below v.heap.size v v') : w.grownBy v' (some g) :=
  ⟨hb.os.trans h.os, hb.tape.trans h.tape, hb.output.trans h.output, Nat.le_trans h.size hb.size, fun k hk hne => (hb.block k (Nat.lt_of_lt_of_le hk h.size)).trans (h.block k hk hne)⟩
theorem gb_set2 {w v : World} {g j j' : Nat} {u u' : Value} (h : w.grownBy v (some g)) : w.grownBy ((v.setCell ⟨g, j, none⟩ u).setCell ⟨g, j', none⟩ u') (some g) :=
  ⟨h.os, h.tape, h.output, by rw [World.size_setCell, World.size_setCell]; exact h.size, fun k hk hne => by
    have e : k ≠ g := fun e => hne (by rw [e])
    rw [Below.heap_setCell _ _ _ _ e, Below.heap_setCell _ _ _ _ e]
    exact h.block k hk hne⟩
theorem gb_refl (w : World) (g : Nat) : w.grownBy w (some g) := ⟨rfl, rfl, rfl, Nat.le_refl _, fun _ _ _ => rfl⟩
end Go.Proofs.Ytdpgbgniejlilaa
