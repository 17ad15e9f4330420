/- AlignGears, the model's: the states that the groups have so far. -/
import Derived.Test.YtdpgbgniejlilaaAlignI
namespace Go.Proofs.Ytdpgbgniejlilaa
open Go.ChangeShapes Go.WideShapes Go.ChangeAt Go.RowKit Go.Joins Go.Deep
set_option linter.unusedSimpArgs false
set_option linter.unusedVariables false
set_option maxRecDepth 100000
set_option maxHeartbeats 8000000
def stK (C : Int) (l : List (Int × Int)) (n k : Nat) : List Int := (List.range n).map fun (m : Nat) => stAt C l (m : Int) k
theorem stK_len (C : Int) (l : List (Int × Int)) (n k : Nat) : (stK C l n k).length = n := by simp [stK]
theorem stK_at {C : Int} {l : List (Int × Int)} {n k m : Nat} (h : m < n) : (ints (stK C l n k))[m]? = some (.int .i64 (stAt C l (m : Int) k)) := by
  simp [ints, stK, h]
theorem stK_zero {C : Int} {l : List (Int × Int)} {n : Nat} : ints (stK C l n 0) = fillM n n := by
  unfold fillM stK ints
  apply List.ext_getElem (by simp)
  intro i h1 h2
  simp [stAt, fstG]
theorem stK_same {C : Int} {l : List (Int × Int)} {n k : Nat} (h : ∀ m, m < n → stAt C l (m : Int) (k + 1) = stAt C l (m : Int) k) : stK C l n (k + 1) = stK C l n k := by
  unfold stK
  exact List.map_congr_left fun m hm => h m (List.mem_range.1 hm)
theorem stK_skip {C : Int} {l : List (Int × Int)} {n k : Nat} (h : gearK l k = false) : stK C l n (k + 1) = stK C l n k := stK_same fun _ _ => stAt_other (.inl h)
theorem stK_keep {C : Int} {l : List (Int × Int)} {n k m : Nat} (hm : nmb C l k = (m : Int)) (h : stAt C l (m : Int) (k + 1) = stAt C l (m : Int) k) : stK C l n (k + 1) = stK C l n k := stK_same fun m' _ => by
  by_cases e : m = m'
  · subst e; exact h
  · exact stAt_other (.inr (by omega))
theorem stK_set {C : Int} {l : List (Int × Int)} {n k m : Nat} {s : Int} (hm : nmb C l k = (m : Int)) (h : stAt C l (m : Int) (k + 1) = s) : (ints (stK C l n k)).set m (.int .i64 s) = ints (stK C l n (k + 1)) := by
  apply List.ext_getElem (by simp [ints, stK])
  intro i h1 h2
  rw [List.getElem_set]
  simp only [ints, stK, List.map_map, List.getElem_map, List.getElem_range, Function.comp]
  by_cases e : m = i
  · subst e; rw [if_pos rfl, h]
  · rw [if_neg e, stAt_other (.inr (by omega))]
def upA (l : List (Int × Int)) (k x : Nat) : Bool := decide (x < k) && gearK l x
theorem upA_zero {l : List (Int × Int)} {v : Nat → Int × Int} : mixS l v (upA l 0) = l := by
  rw [show mixS l v (upA l 0) = mixS l v (fun _ => false) from mixS_congr fun x _ => by simp [upA]]
  exact mixS_none
theorem upA_all {l : List (Int × Int)} {v : Nat → Int × Int} : mixS l v (upA l l.length) = mixS l v (gearK l) := mixS_congr fun x hx => by simp [upA, hx]
theorem upA_no {l : List (Int × Int)} {v : Nat → Int × Int} {k : Nat} (h : gearK l k = false) : mixS l v (upA l (k + 1)) = mixS l v (upA l k) := mixS_congr fun x _ => by
  unfold upA
  by_cases e : x = k
  · subst e; rw [h, Bool.and_false, Bool.and_false]
  · have : decide (x < k + 1) = decide (x < k) := by by_cases h1 : x < k <;> simp <;> omega
    rw [this]
theorem upA_yes {l : List (Int × Int)} {v : Nat → Int × Int} {k : Nat} (hk : k < l.length) (h : gearK l k = true) : (mixS l v (upA l k)).set k (v k) = mixS l v (upA l (k + 1)) := mixS_set hk fun x _ => by
  unfold upA
  by_cases e : x = k
  · subst e; rw [h]; simp
  · have : decide (x < k + 1) = decide (x < k) := by by_cases h1 : x < k <;> simp <;> omega
    rw [this]
    have : (x == k) = false := by simpa using e
    rw [this, Bool.or_false]
/-- Setting the state alone. -/
theorem upA_state {C : Int} {l : List (Int × Int)} {k : Nat} {s : Int} {rest : List Value} (hk : k < l.length) (h : (l.getD k (0, 0)).1 = 6) (hs : stAt C l (nmb C l k) l.length = s) :
    (flat (mixS l (alV C l) (upA l k)) ++ rest).set (k * 2 + 1) (.int .i64 s) = flat (mixS l (alV C l) (upA l (k + 1))) ++ rest := by
  have hg : gearK l k = true := by unfold gearK; rw [h]; rfl
  have hl : k < (mixS l (alV C l) (upA l k)).length := by rw [mixS_len]; exact hk
  have e := flat_set (mixS l (alV C l) (upA l k)) k 6 s hl rest
  have ev : alV C l k = (6, s) := by unfold alV; rw [h, hs]
  rw [← ev, upA_yes hk hg] at e
  rw [← e]
  congr 1
  have h0 := (flat_at _ k hl).1
  have hm : (mixS l (alV C l) (upA l k))[k].1 = 6 := by
    rw [mixS_at hl]
    have : upA l k k = false := by simp [upA]
    rw [this]
    exact h
  rw [hm] at h0
  rw [ev] at *
  symm
  apply List.ext_getElem?
  intro i
  rw [List.getElem?_set]
  split
  · rename_i hi
    subst hi
    rw [List.getElem?_append_left (by rw [flat_length]; omega), h0, if_pos (by rw [List.length_append, flat_length]; omega)]
  · rfl
theorem nmb_gear {r c k : Nat} {l : List (Int × Int)} (hG : Geo r c l.length) (hk : k < l.length) (h : (l.getD k (0, 0)).1 = 6) : ∃ m : Nat, nmb (c : Int) l k = (m : Int) ∧ m < (GG (c : Int) l).length := by
  have hA := groups_all hG
  have hJ : J l k = true := by unfold J; rw [h]; rfl
  obtain ⟨g, hg, hxg⟩ := List.mem_flatten.1 (hA.all k hk hJ)
  obtain ⟨t, ht, rfl⟩ := List.getElem_of_mem hg
  have hn := num_is (j := k) _ 0 t hA.apart (List.getElem?_eq_getElem ht)
  rw [Nat.zero_add] at hn
  exact ⟨t, hn.2 hxg, ht⟩
theorem GG_len (c : Nat) (l : List (Int × Int)) : (GG (c : Int) l).length ≤ l.length := by unfold GG; exact gat_len _ _ _ _
end Go.Proofs.Ytdpgbgniejlilaa
