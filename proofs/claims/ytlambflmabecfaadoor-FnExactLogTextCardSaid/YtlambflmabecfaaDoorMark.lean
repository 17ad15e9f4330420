/- Marks: only the marked block turns, and nothing does where there is nothing to mark. -/
import Derived.Test.YtlambflmabecfaaDoorBoard
namespace Go.Proofs.YtlambflmabecfaaDoor
open Go.ChangeShapes Go.WideShapes Go.ChangeAt Go.RowKit Go.Joins Go.Deep
set_option linter.unusedSimpArgs false
set_option linter.unusedVariables false
set_option maxRecDepth 100000
set_option maxHeartbeats 400000
/-- Only the block of A has turned, if there is anything to turn, and what is new. -/
def Fx (w w' : World) (A : Option Addr) (n : Nat) : Prop := w.grownBy w' (if n = 0 then none else A.map (·.block))
theorem Whole.fx {w w' : World} {g : Nat} {t : TypeId} {xs : List Value} {A : Option Addr} {n : Nat} (h : Whole w g t xs) (ho : Fx w w' A n) (hne : 0 < n → ∀ a, A = some a → a.block ≠ g) : Whole w' g t xs := by
  refine (ho.block g h.lt ?_).trans h
  by_cases hn : n = 0
  · simp [hn]
  · rw [if_neg hn]
    cases hA : A with
    | none => simp
    | some a => simpa using (fun e => hne (by omega) a hA e.symm)
theorem Own.fx {w w' : World} {A A' : Option Addr} {t : TypeId} {xs : List Value} {n : Nat} (h : Own w A t xs) (ho : Fx w w' A' n) (hne : 0 < n → 0 < xs.length → ∀ a a', A = some a → A' = some a' → a.block ≠ a'.block) : Own w' A t xs := fun hx => by
  obtain ⟨g, rest, rfl, hw⟩ := h hx
  exact ⟨g, rest, rfl, hw.fx ho (fun hn a ha => (hne hn hx _ a rfl ha).symm)⟩
theorem Fx.below {w w' : World} {A : Option Addr} {n B : Nat} (h : Fx w w' A n) (hB : B ≤ w.heap.size) (hge : ∀ a, A = some a → B ≤ a.block) : Below B w w' :=
  (Below.refl B w).grown h hB (fun k hk => by
    by_cases hn : n = 0
    · rw [if_pos hn] at hk; cases hk
    · rw [if_neg hn] at hk
      cases hA : A with
      | none => rw [hA] at hk; cases hk
      | some a => rw [hA] at hk; cases hk; exact hge _ hA)
theorem only_fx {w w' : World} {A : Option Addr} {n : Nat} (h : Only w w' A) (hn : 0 < n) : Fx w w' A n := by
  unfold Fx
  rw [if_neg (by omega)]
  exact h
theorem own_apart {w : World} {g : Nat} {t t' : TypeId} {xs ys : List Value} {A : Option Addr} (h : Own w A t xs) (hw : Whole w g t' ys) (hne : t ≠ t') (hx : 0 < xs.length) {a : Addr} (ha : A = some a) : a.block ≠ g := by
  obtain ⟨k, rest, rfl, hk⟩ := h hx
  cases ha
  intro e
  subst e
  unfold Whole at hk hw
  rw [hk] at hw
  injection hw with hw
  injection hw with _ ht
  exact hne ht
theorem same_fx {w : World} {A : Option Addr} : Fx w w A 0 := by
  unfold Fx
  rw [if_pos rfl]
  exact World.grownBy.refl w _
theorem flat_pos {l : List (Int × Int)} (h : 0 < (flat l).length) : 0 < l.length := by rw [flat_length] at h; omega
theorem pos_flat {l : List (Int × Int)} (h : 0 < l.length) : 0 < (flat l).length := by rw [flat_length]; omega
theorem ints_pos {l : List Int} (h : 0 < (ints l).length) : 0 < l.length := by rw [ints_length] at h; exact h
theorem pos_ints {l : List Int} (h : 0 < l.length) : 0 < (ints l).length := by rw [ints_length]; exact h
theorem eqB_same (R C : Int) (l : List (Int × Int)) : eqB R C R C l l = true := decide_eq_true ⟨rfl, rfl, rfl⟩
/-- What a call hands back: a list of numbers of its own, and whether it succeeds. -/
def PostL (w : World) (l : List Int) (ok : Bool) (e : Ending) (w' : World) : Prop :=
  ∃ A' cap', e = .returned (.tuple #[.slice A' l.length cap', .bool ok]) ∧ Own w' A' 3 (ints l) ∧ New w A' ∧ Below w.heap.size w w'
theorem PostL.mk {w w' : World} {l : List Int} {ok : Bool} {A' : Option Addr} {cap' : Nat} (o : Own w' A' 3 (ints l)) (n : New w A') (b : Below w.heap.size w w') : PostL w l ok (.returned (.tuple #[.slice A' l.length cap', .bool ok])) w' :=
  ⟨A', cap', rfl, o, n, b⟩
/-- A list of numbers of the call's own. -/
def PostI (w : World) (l : List Int) (e : Ending) (w' : World) : Prop :=
  ∃ A' cap', e = .returned (.slice A' l.length cap') ∧ Own w' A' 3 (ints l) ∧ New w A' ∧ Below w.heap.size w w'
theorem PostI.mk {w w' : World} {l : List Int} {A' : Option Addr} {cap' : Nat} (o : Own w' A' 3 (ints l)) (n : New w A') (b : Below w.heap.size w w') : PostI w l (.returned (.slice A' l.length cap')) w' :=
  ⟨A', cap', rfl, o, n, b⟩
theorem PostL.none_ {w w' : World} (b : Below w.heap.size w w') : PostL w [] false (.returned (.tuple #[.slice none 0 0, .bool false])) w' :=
  PostL.mk (l := []) Own.none_ New.none_ b
theorem fx_alloc {w w' : World} {o : Obj} {A : Option Addr} {n : Nat} (h : Fx (w.alloc o) w' A n) : Fx w w' A n := by
  have hs := h.size
  rw [World.size_alloc] at hs
  refine ⟨h.os.trans rfl, h.tape.trans rfl, h.output.trans rfl, by omega, fun i hi hne => (h.block i (by rw [World.size_alloc]; omega) hne).trans (Below.heap_alloc _ _ _ hi)⟩
end Go.Proofs.YtlambflmabecfaaDoor
