/- LoneGears: the gears alone in their groups, by cells and by groups. -/
import Derived.Test.YtgecihedocifjaaSortNil
import Derived.Test.YtgecihedocifjaaLargest
namespace Go.Proofs.Ytgecihedocifjaa
open Go.ChangeShapes Go.WideShapes Go.ChangeAt Go.RowKit Go.Joins Go.Deep
set_option linter.unusedSimpArgs false
set_option linter.unusedVariables false
set_option maxRecDepth 100000
set_option maxHeartbeats 2000000
def lone (C : Int) (l : List (Int × Int)) (x : Nat) : Bool := gearK l x && decide (((List.range l.length).filter fun y => gearK l y && decide (nmb C l y = nmb C l x)).length = 1)
def loneTo (C : Int) (l : List (Int × Int)) (k : Nat) : List Nat := (List.range k).filter (lone C l)
def loneB (R C : Int) (l : List (Int × Int)) : List Int := if goodB R C l then nI (loneTo C l l.length) else []
theorem loneTo_le (C : Int) (l : List (Int × Int)) (k : Nat) : (loneTo C l k).length ≤ k := by
  unfold loneTo
  have := List.length_filter_le (lone C l) (List.range k)
  rw [List.length_range] at this
  exact this
theorem loneB_len (R C : Int) (l : List (Int × Int)) (h : l.length ≤ 1048576) : (loneB R C l).length ≤ 1048576 := by
  unfold loneB
  split
  · rw [nI_length]; have := loneTo_le C l l.length; omega
  · simp
theorem lone_gear {C : Int} {l : List (Int × Int)} {x m : Nat} (hg : gearK l x = true) (hm : nmb C l x = (m : Int)) : lone C l x = decide (gct C l m = 1) := by
  unfold lone gct
  rw [hg, hm, Bool.true_and]
theorem loneTo_yes {C : Int} {l : List (Int × Int)} {k : Nat} (h : lone C l k = true) : loneTo C l (k + 1) = loneTo C l k ++ [k] := by
  unfold loneTo
  rw [List.range_succ, List.filter_append]
  simp only [List.filter_cons, h, if_true]
  rfl
theorem loneTo_no {C : Int} {l : List (Int × Int)} {k : Nat} (h : lone C l k = false) : loneTo C l (k + 1) = loneTo C l k := by
  unfold loneTo
  rw [List.range_succ, List.filter_append]
  simp only [List.filter_cons, h]
  simp
/-- The gears of a group that has one only. -/
def gl (C : Int) (l : List (Int × Int)) (s : Nat) : List Nat := if gct C l s = 1 then (List.range l.length).filter (fun x => gearK l x && decide (nmb C l x = (s : Int))) else []
def lsR (C : Int) (l : List (Int × Int)) : Nat → List Nat
  | 0 => []
  | t + 1 => lsR C l t ++ gl C l t
theorem mem_gl {C : Int} {l : List (Int × Int)} {s x : Nat} : x ∈ gl C l s ↔ gct C l s = 1 ∧ x < l.length ∧ gearK l x = true ∧ nmb C l x = (s : Int) := by
  unfold gl
  split
  · rw [List.mem_filter, List.mem_range, Bool.and_eq_true, decide_eq_true_eq]
    simp_all
  · simp_all
theorem mem_lsR {C : Int} {l : List (Int × Int)} {x : Nat} : ∀ t, x ∈ lsR C l t ↔ ∃ s, s < t ∧ x ∈ gl C l s
  | 0 => by simp [lsR]
  | t + 1 => by
    show x ∈ lsR C l t ++ gl C l t ↔ _
    rw [List.mem_append, mem_lsR t]
    constructor
    · rintro (⟨s, h1, h2⟩ | h)
      · exact ⟨s, by omega, h2⟩
      · exact ⟨t, by omega, h⟩
    · rintro ⟨s, h1, h2⟩
      rcases Nat.eq_or_lt_of_le (show s ≤ t by omega) with e | e
      · subst e; exact .inr h2
      · exact .inl ⟨s, e, h2⟩
theorem gl_len (C : Int) (l : List (Int × Int)) (s : Nat) : (gl C l s).length ≤ 1 := by
  unfold gl
  split
  · rename_i h; unfold gct at h; omega
  · simp
theorem lsR_len (C : Int) (l : List (Int × Int)) : ∀ t, (lsR C l t).length ≤ t
  | 0 => Nat.le_refl _
  | t + 1 => by
    show (lsR C l t ++ gl C l t).length ≤ t + 1
    have h1 := lsR_len C l t
    have h2 := gl_len C l t
    rw [List.length_append]
    omega
theorem lsR_nodup (C : Int) (l : List (Int × Int)) : ∀ t, (lsR C l t).Nodup
  | 0 => List.nodup_nil
  | t + 1 => by
    show (lsR C l t ++ gl C l t).Nodup
    rw [List.nodup_append]
    refine ⟨lsR_nodup C l t, ?_, fun a ha b hb e => ?_⟩
    · unfold gl
      split
      · exact List.nodup_range.filter _
      · exact List.nodup_nil
    · subst e
      obtain ⟨s, hs, h1⟩ := (mem_lsR t).1 ha
      have e1 := (mem_gl.1 h1).2.2.2
      have e2 := (mem_gl.1 hb).2.2.2
      omega
theorem lsR_lt {C : Int} {l : List (Int × Int)} {t : Nat} : ∀ x ∈ lsR C l t, x < l.length := fun x hx => by
  obtain ⟨s, _, h⟩ := (mem_lsR t).1 hx
  exact (mem_gl.1 h).2.1
theorem lsR_yes {r c t : Nat} {l : List (Int × Int)} (hG : Geo r c l.length) (ht : t < (srtG c l).length) (h : (((srtG c l)[t]).filter (gearK l)).length = 1) : nI (lsR (c : Int) l (t + 1)) = nI (lsR (c : Int) l t) ++ [(((((srtG c l)[t]).filter (gearK l))[0] : Nat) : Int)] ∧ (lsR (c : Int) l (t + 1)).length = (lsR (c : Int) l t).length + 1 := by
  have e1 : gct (c : Int) l t = 1 := by rw [← gct_srt hG ht]; exact h
  have e2 : gl (c : Int) l t = ((srtG c l)[t]).filter (gearK l) := by unfold gl; rw [if_pos e1, gs_eq hG ht]
  have e3 : gl (c : Int) l t = [(((srtG c l)[t]).filter (gearK l))[0]] := by
    rw [e2]
    apply List.ext_getElem (h.trans rfl)
    intro i h1 h2
    have : i = 0 := by simp at h2; omega
    subst this
    rfl
  show nI (lsR (c : Int) l t ++ gl (c : Int) l t) = _ ∧ (lsR (c : Int) l t ++ gl (c : Int) l t).length = _
  rw [e3]
  exact ⟨by unfold nI; rw [List.map_append]; rfl, by rw [List.length_append]; rfl⟩
theorem lsR_no {r c t : Nat} {l : List (Int × Int)} (hG : Geo r c l.length) (ht : t < (srtG c l).length) (h : ¬ (((srtG c l)[t]).filter (gearK l)).length = 1) : lsR (c : Int) l (t + 1) = lsR (c : Int) l t := by
  show lsR (c : Int) l t ++ gl (c : Int) l t = _
  rw [gct_srt hG ht] at h
  unfold gl
  rw [if_neg h, List.append_nil]
theorem lsR_all {r c : Nat} {l : List (Int × Int)} (hG : Geo r c l.length) : sortN l.length (lsR (c : Int) l (srtG c l).length) = loneTo (c : Int) l l.length := by
  unfold sortN loneTo
  refine List.filter_congr fun x hx => ?_
  rw [List.mem_range] at hx
  rw [Bool.eq_iff_iff, List.contains_iff_mem, mem_lsR]
  constructor
  · rintro ⟨s, hs, h⟩
    obtain ⟨h1, _, h3, h4⟩ := mem_gl.1 h
    rw [lone_gear h3 h4, decide_eq_true h1]
  · intro h
    have h3 : gearK l x = true := by unfold lone at h; rw [Bool.and_eq_true] at h; exact h.1
    obtain ⟨m, hm, hmn⟩ := nmb_gear hG hx (by unfold gearK at h3; simpa using h3)
    rw [lone_gear h3 hm, decide_eq_true_eq] at h
    exact ⟨m, by rw [srtG_length]; exact hmn, mem_gl.2 ⟨h, hx, h3, hm⟩⟩
theorem GRow.lt {w : World} {P n : Nat} {f : Nat → List Int} (h : GRow w P n f) : P + 1 + n ≤ w.heap.size := by
  cases n with
  | zero => have := h.1.lt; omega
  | succ n => have := (h.2 n (by omega)).lt; omega
theorem lsR_yes0 {r c t : Nat} {l : List (Int × Int)} (hG : Geo r c l.length) (ht : t < (srtG c l).length) (h : (((srtG c l)[t]).filter (gearK l)).length = 1) : nI (lsR (c : Int) l (t + 1)) = nI (lsR (c : Int) l t) ++ [((((srtG c l)[t]).filter (gearK l)).getD 0 0 : Int)] := by
  rw [(lsR_yes hG ht h).1, List.getD_eq_getElem?_getD, List.getElem?_eq_getElem (show 0 < (((srtG c l)[t]).filter (gearK l)).length by omega)]
  rfl
end Go.Proofs.Ytgecihedocifjaa
