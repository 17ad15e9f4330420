/-
  WHAT A CALL HANDS BACK IN A NEW SLICE: words and how they last; 'make([]int, n)'; valid lists of cells.
-/
import Derived.Test.YtlambflmabecfaaDoorList3
namespace Go.Proofs.YtlambflmabecfaaDoor
open Go.ChangeShapes Go.WideShapes Go.ChangeAt Go.RowKit Go.Joins Go.Deep
set_option linter.unusedSimpArgs false
set_option linter.unusedVariables false
set_option maxRecDepth 100000
set_option maxHeartbeats 400000
theorem Own.rd {w : World} {A : Option Addr} {t : TypeId} {xs : List Value} (h : Own w A t xs) : Rd w w.heap.size A xs := fun hx => by
  obtain ⟨g, rest, e, hw⟩ := h hx
  refine ⟨g, 0, e, hw.lt, fun j u hu => ?_⟩
  rw [Nat.zero_add, hw.cell, List.getElem?_append_left (by have := (List.getElem?_eq_some_iff.1 hu).1; exact this)]
  exact hu
theorem Own.keep {w w' : World} {A : Option Addr} {t : TypeId} {xs : List Value} (h : Own w A t xs) (hb : Below w.heap.size w w') : Own w' A t xs := fun hx => by
  obtain ⟨g, rest, e, hw⟩ := h hx
  exact ⟨g, rest, e, hw.below hb hw.lt⟩
theorem Own.only {w w' : World} {A A' : Option Addr} {t : TypeId} {xs : List Value} (h : Own w A t xs) (ho : Only w w' A') (hne : 0 < xs.length → ∀ a a', A = some a → A' = some a' → a.block ≠ a'.block) : Own w' A t xs := fun hx => by
  obtain ⟨g, rest, rfl, hw⟩ := h hx
  refine ⟨g, rest, rfl, ?_⟩
  refine (ho.block g hw.lt ?_).trans hw
  cases hA : A' with
  | none => simp
  | some a' => simpa using hne hx _ _ rfl hA
theorem Own.lt {w : World} {A : Option Addr} {t : TypeId} {xs : List Value} (h : Own w A t xs) (hx : 0 < xs.length) {a : Addr} (ha : A = some a) : a.block < w.heap.size := by
  obtain ⟨g, rest, e, hw⟩ := h hx
  rw [e] at ha
  cases ha
  exact hw.lt
theorem Whole.own {w : World} {g : Nat} {t : TypeId} {xs : List Value} (h : Whole w g t xs) : Own w (some ⟨g, 0, none⟩) t xs := fun _ => ⟨g, [], rfl, by rw [List.append_nil]; exact h⟩
theorem Own.none_ {w : World} {A : Option Addr} {t : TypeId} : Own w A t [] := fun h => absurd h (by simp)
theorem Only.below {w w' : World} {A : Option Addr} {B : Nat} (h : Only w w' A) (hB : B ≤ w.heap.size) (hge : ∀ a, A = some a → B ≤ a.block) : Below B w w' :=
  (Below.refl B w).grown h hB (fun k hk => by
    cases hA : A with
    | none => rw [hA] at hk; cases hk
    | some a => rw [hA] at hk; cases hk; exact hge _ hA)
/-- The slice at A is new: it does not lie in the old heap. -/
def New (w : World) (A : Option Addr) : Prop := ∀ a, A = some a → w.heap.size ≤ a.block
theorem New.none_ {w : World} : New w none := fun _ h => by cases h
theorem New.mono {w w' : World} {A : Option Addr} (h : New w' A) (hs : w.heap.size ≤ w'.heap.size) : New w A := fun a ha => Nat.le_trans hs (h a ha)
theorem New.ge {w : World} {A : Option Addr} {B : Nat} (h : New w A) (hB : B ≤ w.heap.size) : ∀ a, A = some a → B ≤ a.block := fun a ha => Nat.le_trans hB (h a ha)
theorem intInfo : (Tryd.prog.info? 3).map (fun i => (i.zero, i.size, i.bytes)) = some (some (.int .i64 0), 1, 8) := by kernel_rfl
theorem made_ints (n : Nat) : madeCells (Value.int .i64 0).cells (n * 1) = (zrow n).toArray := by
  apply Array.ext
  · simp [madeCells, zrow]
  · intro i h1 h2
    simp [madeCells, zrow, Value.cells, Nat.mod_one]
/-- A valid list of cells. -/
def goodL (l : List (Int × Int)) : Bool := decide (l.length ≤ 90) && l.all fun c => good c.1 c.2
theorem all_take {l : List (Int × Int)} {k : Nat} (h : k < l.length) (hk : ((l.take k).all fun c => good c.1 c.2) = true) (hg : good l[k].1 l[k].2 = true) : ((l.take (k + 1)).all fun c => good c.1 c.2) = true := by
  rw [List.take_succ_eq_append_getElem h, List.all_append, hk]
  simp [hg]
theorem all_not {l : List (Int × Int)} {k : Nat} (h : k < l.length) (hg : good l[k].1 l[k].2 = false) : (l.all fun c => good c.1 c.2) = false := by
  rw [List.all_eq_false]
  exact ⟨l[k], List.getElem_mem h, by rw [hg]; simp⟩
end Go.Proofs.YtlambflmabecfaaDoor
