/- WithoutCogs: the cogs of groups with at most one gear. -/
import Derived.Test.YtgecihedocifjaaLone
namespace Go.Proofs.Ytgecihedocifjaa
open Go.ChangeShapes Go.WideShapes Go.ChangeAt Go.RowKit Go.Joins Go.Deep
set_option linter.unusedSimpArgs false
set_option linter.unusedVariables false
set_option maxRecDepth 100000
set_option maxHeartbeats 2000000
def cogK (l : List (Int × Int)) (x : Nat) : Bool := decide ((l.getD x (0, 0)).1 = 7)
def wo (C : Int) (l : List (Int × Int)) (x : Nat) : Bool := cogK l x && decide (((List.range l.length).filter fun y => gearK l y && decide (nmb C l y = nmb C l x)).length ≤ 1)
def zc : Nat → Int × Int := fun _ => (0, 0)
def woL (C : Int) (l : List (Int × Int)) : List (Int × Int) := mixS l zc (wo C l)
def woB (R C : Int) (l : List (Int × Int)) : List (Int × Int) := if goodB R C l then woL C l else []
theorem woB_len (R C : Int) (l : List (Int × Int)) (h : l.length ≤ 1048576) : (woB R C l).length ≤ 1048576 := by
  unfold woB woL
  split
  · rw [mixS_len]; exact h
  · simp
theorem woB_post {w w' : World} {R C : Int} {l : List (Int × Int)} {e : Ending} {ok : Bool} (h : goodB R C l = ok) (hp : if ok then PostB w R C (woL C l) true e w' else PostB w 0 0 [] false e w') :
    PostB w (selI (goodB R C l) R) (selI (goodB R C l) C) (woB R C l) (goodB R C l) e w' := by
  unfold woB
  rw [h]
  cases ok
  · exact hp
  · exact hp
theorem nmb_joins {r c k : Nat} {l : List (Int × Int)} (hG : Geo r c l.length) (hk : k < l.length) (hJ : J l k = true) : ∃ m : Nat, nmb (c : Int) l k = (m : Int) ∧ m < (GG (c : Int) l).length := by
  have hA := groups_all hG
  obtain ⟨g, hg, hxg⟩ := List.mem_flatten.1 (hA.all k hk hJ)
  obtain ⟨t, ht, rfl⟩ := List.getElem_of_mem hg
  have hn := num_is (j := k) _ 0 t hA.apart (List.getElem?_eq_getElem ht)
  rw [Nat.zero_add] at hn
  exact ⟨t, hn.2 hxg, ht⟩
theorem cog_J {l : List (Int × Int)} {k : Nat} (h : (l.getD k (0, 0)).1 = 7) : J l k = true := by unfold J; rw [h]; rfl
theorem wo_cog {C : Int} {l : List (Int × Int)} {x m : Nat} (hg : cogK l x = true) (hm : nmb C l x = (m : Int)) : wo C l x = decide (gct C l m ≤ 1) := by
  unfold wo gct
  rw [hg, hm, Bool.true_and]
def upW (C : Int) (l : List (Int × Int)) (k x : Nat) : Bool := decide (x < k) && wo C l x
theorem upW_zero {C : Int} {l : List (Int × Int)} : mixS l zc (upW C l 0) = l := by
  rw [show mixS l zc (upW C l 0) = mixS l zc (fun _ => false) from mixS_congr fun x _ => by simp [upW]]
  exact mixS_none
theorem upW_all {C : Int} {l : List (Int × Int)} : mixS l zc (upW C l l.length) = woL C l := mixS_congr fun x hx => by simp [upW, hx]
theorem upW_no {C : Int} {l : List (Int × Int)} {k : Nat} (h : wo C l k = false) : mixS l zc (upW C l (k + 1)) = mixS l zc (upW C l k) := mixS_congr fun x _ => by
  unfold upW
  by_cases e : x = k
  · subst e; rw [h, Bool.and_false, Bool.and_false]
  · have : decide (x < k + 1) = decide (x < k) := by by_cases h1 : x < k <;> simp <;> omega
    rw [this]
theorem upW_yes {C : Int} {l : List (Int × Int)} {k : Nat} (hk : k < l.length) (h : wo C l k = true) : (mixS l zc (upW C l k)).set k (0, 0) = mixS l zc (upW C l (k + 1)) := mixS_set (v := zc) hk fun x _ => by
  unfold upW
  by_cases e : x = k
  · subst e; rw [h]; simp
  · have : decide (x < k + 1) = decide (x < k) := by by_cases h1 : x < k <;> simp <;> omega
    rw [this]
    have : (x == k) = false := by simpa using e
    rw [this, Bool.or_false]
/-- The cells that are done behind the first t groups; and behind j cells of the next one. -/
def dW (c : Nat) (l : List (Int × Int)) (t x : Nat) : Bool := wo (c : Int) l x && ((srtG c l).take t).flatten.contains x
def dWJ (c : Nat) (l : List (Int × Int)) (t j : Nat) (q : List Nat) (x : Nat) : Bool := dW c l t x || (wo (c : Int) l x && (q.take j).contains x)
theorem dW_zero {c : Nat} {l : List (Int × Int)} : mixS l zc (dW c l 0) = l := by
  rw [show mixS l zc (dW c l 0) = mixS l zc (fun _ => false) from mixS_congr fun x _ => by simp [dW]]
  exact mixS_none
theorem dWJ_start {c t : Nat} {l : List (Int × Int)} {q : List Nat} : mixS l zc (dWJ c l t 0 q) = mixS l zc (dW c l t) := mixS_congr fun x _ => by simp [dWJ]
theorem dWJ_yes {c t j : Nat} {l : List (Int × Int)} {q : List Nat} (hj : j < q.length) (hx : q[j] < l.length) (h : wo (c : Int) l q[j] = true) : (mixS l zc (dWJ c l t j q)).set q[j] (0, 0) = mixS l zc (dWJ c l t (j + 1) q) := mixS_set (v := zc) hx fun x _ => by
  unfold dWJ
  rw [List.take_succ_eq_append_getElem hj, List.contains_eq_any_beq, List.contains_eq_any_beq, List.any_append, Bool.or_assoc]
  by_cases e : x = q[j]
  · subst e; rw [h]; simp
  · have : (x == q[j]) = false := by simpa using e
    simp [this]
theorem dWJ_no {c t j : Nat} {l : List (Int × Int)} {q : List Nat} (hj : j < q.length) (h : wo (c : Int) l q[j] = false) : mixS l zc (dWJ c l t (j + 1) q) = mixS l zc (dWJ c l t j q) := mixS_congr fun x _ => by
  unfold dWJ
  rw [List.take_succ_eq_append_getElem hj, List.contains_eq_any_beq, List.contains_eq_any_beq, List.any_append]
  by_cases e : x = q[j]
  · subst e; rw [h]; simp
  · have : (x == q[j]) = false := by simpa using e
    simp [this]
theorem dWJ_all {c t : Nat} {l : List (Int × Int)} (ht : t < (srtG c l).length) : mixS l zc (dWJ c l t ((srtG c l)[t]).length ((srtG c l)[t])) = mixS l zc (dW c l (t + 1)) := mixS_congr fun x _ => by
  unfold dWJ dW
  rw [List.take_length, List.take_succ_eq_append_getElem ht, flatten_snoc, List.contains_eq_any_beq, List.contains_eq_any_beq, List.contains_eq_any_beq, List.any_append, Bool.and_or_distrib_left]
theorem srt_nmb {r c t x : Nat} {l : List (Int × Int)} (hG : Geo r c l.length) (ht : t < (srtG c l).length) (hx : x ∈ (srtG c l)[t]) : nmb (c : Int) l x = (t : Int) := by
  have hA := groups_all hG
  have ht' : t < (GG (c : Int) l).length := by unfold srtG at ht; rwa [List.length_map] at ht
  have e : (srtG c l)[t] = sortN l.length (GG (c : Int) l)[t] := by simp only [srtG, List.getElem_map]
  rw [e, mem_sortN] at hx
  have h := num_is (j := x) _ 0 t hA.apart (List.getElem?_eq_getElem ht')
  rw [Nat.zero_add] at h
  exact h.2 hx.2
theorem wo_in {r c t x : Nat} {l : List (Int × Int)} (hG : Geo r c l.length) (ht : t < (srtG c l).length) (hx : x ∈ (srtG c l)[t]) : wo (c : Int) l x = (cogK l x && decide (gct (c : Int) l t ≤ 1)) := by
  unfold wo gct
  rw [srt_nmb hG ht hx]
theorem dW_skip {r c t : Nat} {l : List (Int × Int)} (hG : Geo r c l.length) (ht : t < (srtG c l).length) (h : ¬ gct (c : Int) l t ≤ 1) : mixS l zc (dW c l (t + 1)) = mixS l zc (dW c l t) := mixS_congr fun x _ => by
  unfold dW
  rw [List.take_succ_eq_append_getElem ht, flatten_snoc, List.contains_eq_any_beq, List.contains_eq_any_beq, List.any_append, Bool.and_or_distrib_left]
  have : (wo (c : Int) l x && ((srtG c l)[t]).any fun y => x == y) = false := by
    rcases Bool.eq_false_or_eq_true (((srtG c l)[t]).any fun y => x == y) with q | q
    · have hm : x ∈ (srtG c l)[t] := by rw [← List.contains_iff_mem, List.contains_eq_any_beq]; exact q
      rw [wo_in hG ht hm, decide_eq_false h, Bool.and_false, Bool.false_and]
    · rw [q, Bool.and_false]
  rw [this, Bool.or_false]
theorem dW_end {r c : Nat} {l : List (Int × Int)} (hG : Geo r c l.length) : mixS l zc (dW c l (srtG c l).length) = woL (c : Int) l := mixS_congr fun x hx => by
  unfold dW
  rw [List.take_length, Bool.eq_iff_iff, Bool.and_eq_true, List.contains_iff_mem]
  refine ⟨fun h => h.1, fun h => ⟨h, ?_⟩⟩
  have hA := groups_all hG
  have hJ : J l x = true := by
    unfold wo at h
    rw [Bool.and_eq_true] at h
    have h7 := h.1
    unfold cogK at h7
    exact cog_J (by simpa using h7)
  obtain ⟨g, hg, hxg⟩ := List.mem_flatten.1 (hA.all x hx hJ)
  exact List.mem_flatten.2 ⟨sortN l.length g, List.mem_map.2 ⟨g, hg, rfl⟩, mem_sortN.2 ⟨hx, hxg⟩⟩
/-- A cell that is not done yet is as it was. -/
theorem dWJ_at {c t j y : Nat} {l : List (Int × Int)} {q : List Nat} (hy : y < l.length) (h1 : y ∉ ((srtG c l).take t).flatten) (h2 : y ∉ q.take j) (hl : y < (mixS l zc (dWJ c l t j q)).length) : (mixS l zc (dWJ c l t j q))[y] = l[y] := by
  rw [mixS_at hl]
  have : dWJ c l t j q y = false := by
    unfold dWJ dW
    have e1 : ((srtG c l).take t).flatten.contains y = false := by simpa using h1
    have e2 : (q.take j).contains y = false := by simpa using h2
    rw [e1, e2]
    simp
  rw [this, List.getD_eq_getElem?_getD, List.getElem?_eq_getElem hy]
  rfl
end Go.Proofs.Ytgecihedocifjaa
