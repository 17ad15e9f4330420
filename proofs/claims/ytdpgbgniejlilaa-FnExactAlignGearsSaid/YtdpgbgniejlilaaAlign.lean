/- Aligned gears: the state of the first gear of each group. -/
import Derived.Test.YtdpgbgniejlilaaTurnJ
namespace Go.Proofs.Ytdpgbgniejlilaa
open Go.ChangeShapes Go.WideShapes Go.ChangeAt Go.RowKit Go.Joins Go.Deep
set_option linter.unusedSimpArgs false
set_option linter.unusedVariables false
set_option maxRecDepth 100000
set_option maxHeartbeats 2000000
def fstG (C : Int) (l : List (Int × Int)) (m : Int) (k : Nat) : Option Nat := ((List.range k).filter fun y => gearK l y && decide (nmb C l y = m)).head?
def stAt (C : Int) (l : List (Int × Int)) (m : Int) (k : Nat) : Int :=
  match fstG C l m k with
  | some y => (l.getD y (0, 0)).2
  | none => -1
theorem fstG_step (C : Int) (l : List (Int × Int)) (m : Int) (k : Nat) : fstG C l m (k + 1) = (fstG C l m k).or (if gearK l k && decide (nmb C l k = m) then some k else none) := by
  unfold fstG
  rw [List.range_succ, List.filter_append, List.head?_append]
  congr 1
  by_cases h : (gearK l k && decide (nmb C l k = m)) = true
  · rw [if_pos h]; simp only [List.filter_cons, h, if_true]; rfl
  · rw [if_neg h]; simp only [List.filter_cons, h]; rfl
theorem fstG_stays {C : Int} {l : List (Int × Int)} {m : Int} {k y : Nat} (h : fstG C l m k = some y) : ∀ k', k ≤ k' → fstG C l m k' = some y := by
  intro k' hk
  induction k' with
  | zero => rw [show k = 0 by omega] at h; exact h
  | succ k' ih =>
    rcases Nat.eq_or_lt_of_le hk with e | e
    · rw [← e]; exact h
    · rw [fstG_step, ih (by omega)]; rfl
theorem fstG_gear {C : Int} {l : List (Int × Int)} {m : Int} {k y : Nat} (h : fstG C l m k = some y) : y < k ∧ gearK l y = true := by
  unfold fstG at h
  have hm := List.mem_of_mem_head? h
  rw [List.mem_filter, List.mem_range, Bool.and_eq_true] at hm
  exact ⟨hm.1, hm.2.1⟩
theorem stAt_other {C : Int} {l : List (Int × Int)} {m : Int} {k : Nat} (h : gearK l k = false ∨ ¬ nmb C l k = m) : stAt C l m (k + 1) = stAt C l m k := by
  have e : (gearK l k && decide (nmb C l k = m)) = false := by
    rcases h with h | h
    · rw [h, Bool.false_and]
    · rw [decide_eq_false h, Bool.and_false]
  unfold stAt
  rw [fstG_step, e]
  cases fstG C l m k <;> rfl
/-- At a gear: its group's state behind it is the one that stands at the end; what stood before tells whether there was one. -/
theorem stAt_gear {C : Int} {l : List (Int × Int)} {k : Nat} (hk : k < l.length) (hg : gearK l k = true) (hgood : ∀ y, y < l.length → gearK l y = true → 0 ≤ (l.getD y (0, 0)).2) :
    (stAt C l (nmb C l k) k < 0 → stAt C l (nmb C l k) (k + 1) = (l.getD k (0, 0)).2) ∧ (¬ stAt C l (nmb C l k) k < 0 → stAt C l (nmb C l k) (k + 1) = stAt C l (nmb C l k) k) ∧ stAt C l (nmb C l k) (k + 1) = stAt C l (nmb C l k) l.length := by
  have hs := fstG_step C l (nmb C l k) k
  rw [hg, decide_eq_true rfl, Bool.and_self, if_pos rfl] at hs
  cases hf : fstG C l (nmb C l k) k with
  | none =>
    rw [hf] at hs
    have hs' : fstG C l (nmb C l k) (k + 1) = some k := hs
    refine ⟨fun _ => ?_, fun h => ?_, ?_⟩
    · unfold stAt; rw [hs']
    · exact absurd (show stAt C l (nmb C l k) k < 0 by unfold stAt; rw [hf]; show (-1 : Int) < 0; omega) h
    · unfold stAt; rw [hs', fstG_stays hs' l.length (by omega)]
  | some y =>
    have hs' : fstG C l (nmb C l k) (k + 1) = some y := fstG_stays hf (k + 1) (by omega)
    obtain ⟨h1, h2⟩ := fstG_gear hf
    have h0 := hgood y (by omega) h2
    refine ⟨fun h => ?_, fun _ => ?_, ?_⟩
    · exfalso
      unfold stAt at h
      rw [hf] at h
      have : (l.getD y (0, 0)).2 < 0 := h
      omega
    · unfold stAt; rw [hs', hf]
    · unfold stAt; rw [hs', fstG_stays hf l.length (by omega)]
def alV (C : Int) (l : List (Int × Int)) (x : Nat) : Int × Int := ((l.getD x (0, 0)).1, stAt C l (nmb C l x) l.length)
def mixS (l : List (Int × Int)) (v : Nat → Int × Int) (S : Nat → Bool) : List (Int × Int) := (List.range l.length).map fun x => if S x then v x else l.getD x (0, 0)
theorem mixS_len (l : List (Int × Int)) (v : Nat → Int × Int) (S : Nat → Bool) : (mixS l v S).length = l.length := by simp [mixS]
theorem mixS_congr {l : List (Int × Int)} {v : Nat → Int × Int} {S T : Nat → Bool} (h : ∀ x, x < l.length → S x = T x) : mixS l v S = mixS l v T := by
  unfold mixS
  exact List.map_congr_left fun x hx => by rw [h x (List.mem_range.1 hx)]
theorem mixS_at {l : List (Int × Int)} {v : Nat → Int × Int} {S : Nat → Bool} {x : Nat} (h : x < (mixS l v S).length) : (mixS l v S)[x] = if S x then v x else l.getD x (0, 0) := by simp [mixS]
theorem mixS_none {l : List (Int × Int)} {v : Nat → Int × Int} : mixS l v (fun _ => false) = l := by
  apply List.ext_getElem (mixS_len _ _ _)
  intro i h1 h2
  rw [mixS_at h1]
  simp only [Bool.false_eq_true, if_false]
  rw [List.getD_eq_getElem?_getD, List.getElem?_eq_getElem h2]
  rfl
theorem mixS_set {l : List (Int × Int)} {v : Nat → Int × Int} {S T : Nat → Bool} {k : Nat} (hk : k < l.length) (hT : ∀ x, x < l.length → T x = (S x || x == k)) : (mixS l v S).set k (v k) = mixS l v T := by
  apply List.ext_getElem (by rw [List.length_set, mixS_len, mixS_len])
  intro i h1 h2
  rw [List.getElem_set]
  have hi : i < l.length := by rw [mixS_len] at h2; exact h2
  by_cases e : k = i
  · subst e
    rw [if_pos rfl, mixS_at h2, hT k hk]
    simp
  · rw [if_neg e, mixS_at (by rw [mixS_len]; exact hi), mixS_at h2, hT i hi]
    have : (i == k) = false := by simp; omega
    rw [this, Bool.or_false]
def alignL (C : Int) (l : List (Int × Int)) : List (Int × Int) := mixS l (alV C l) (gearK l)
def alignB (R C : Int) (l : List (Int × Int)) : List (Int × Int) := if goodB R C l then alignL C l else []
theorem alignB_len (R C : Int) (l : List (Int × Int)) (h : l.length ≤ 1048576) : (alignB R C l).length ≤ 1048576 := by
  unfold alignB alignL
  split
  · rw [mixS_len]; exact h
  · simp
end Go.Proofs.Ytdpgbgniejlilaa
