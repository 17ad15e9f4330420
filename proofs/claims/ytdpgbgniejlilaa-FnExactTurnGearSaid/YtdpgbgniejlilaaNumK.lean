/- Group numbers lean on the kinds of cells alone: what a marble turns keeps them. -/
import Derived.Test.YtdpgbgniejlilaaPass
namespace Go.Proofs.Ytdpgbgniejlilaa
open Go.ChangeShapes Go.WideShapes Go.ChangeAt Go.RowKit Go.Joins Go.Deep
set_option linter.unusedSimpArgs false
set_option linter.unusedVariables false
set_option maxRecDepth 100000
set_option maxHeartbeats 1000000
theorem numL_congr {c : Nat} {l l' : List (Int × Int)} (hlen : l.length = l'.length) (hk : ∀ x, (l.getD x (0, 0)).1 = (l'.getD x (0, 0)).1) : numL c l = numL c l' := by
  unfold numL
  rw [show J l = J l' from funext fun x => by unfold J; rw [hk], hlen]
theorem tnS_kind {l : List (Int × Int)} {S : Nat → Bool} (x : Nat) : ((tnS l S).getD x (0, 0)).1 = (l.getD x (0, 0)).1 := by
  by_cases hx : x < l.length
  · have h1 : x < (tnS l S).length := by rw [tnS_len]; exact hx
    rw [List.getD_eq_getElem?_getD, List.getElem?_eq_getElem h1]
    show ((tnS l S)[x]).1 = _
    rw [tnS_at h1]
    split <;> rfl
  · have h1 : (tnS l S).getD x (0, 0) = (0, 0) := by rw [List.getD_eq_getElem?_getD, List.getElem?_eq_none (by rw [tnS_len]; omega)]; rfl
    have h2 : l.getD x (0, 0) = (0, 0) := by rw [List.getD_eq_getElem?_getD, List.getElem?_eq_none (by omega)]; rfl
    rw [h1, h2]
theorem passL_kind (nm : List Int) (l : List (Int × Int)) (i x : Nat) : ((passL nm l i).getD x (0, 0)).1 = (l.getD x (0, 0)).1 := by
  unfold passL
  split
  · rw [List.getD_eq_getElem?_getD, List.getElem?_set]
    by_cases e : i = x
    · subst e
      rw [if_pos rfl]
      by_cases hi : i < l.length
      · rw [if_pos hi, List.getD_eq_getElem?_getD]; rfl
      · rw [if_neg hi, List.getD_eq_getElem?_getD, List.getElem?_eq_none (by omega)]
    · rw [if_neg e, List.getD_eq_getElem?_getD]
  · split
    · exact tnS_kind x
    · rfl
theorem passL_num (c : Nat) (nm : List Int) (l : List (Int × Int)) (i : Nat) : numL c (passL nm l i) = numL c l :=
  numL_congr (passL_len nm l i) (passL_kind nm l i)
theorem numL_getD {c : Nat} {l : List (Int × Int)} {k : Nat} (hk : k < l.length) : (numL c l).getD k 0 = nmb (c : Int) l k := by
  have h := numL_at (c := c) hk
  unfold ints at h
  rw [List.getElem?_map] at h
  rw [List.getD_eq_getElem?_getD]
  cases he : (numL c l)[k]? with
  | none => rw [he] at h; simp at h
  | some v => rw [he] at h; simpa using h
theorem passL_gear {c : Nat} {l : List (Int × Int)} {i : Nat} (hi : i < l.length) (h6 : (l.getD i (0, 0)).1 = 6) : passL (numL c l) l i = tnS l (isIn (c : Int) l (nmb (c : Int) l i)) := by
  unfold passL
  rw [if_neg (by rw [h6]; decide), if_pos h6]
  refine tnS_congr fun x hx => ?_
  unfold pin isIn
  rw [numL_getD hx, numL_getD hi]
theorem passL_flip {nm : List Int} {l : List (Int × Int)} {i : Nat} (h3 : (l.getD i (0, 0)).1 = 3) : passL nm l i = l.set i (3, 1 - (l.getD i (0, 0)).2) := by
  unfold passL
  rw [if_pos h3, h3]
theorem passL_none {nm : List Int} {l : List (Int × Int)} {i : Nat} (h3 : (l.getD i (0, 0)).1 ≠ 3) (h6 : (l.getD i (0, 0)).1 ≠ 6) : passL nm l i = l := by
  unfold passL
  rw [if_neg h3, if_neg h6]
end Go.Proofs.Ytdpgbgniejlilaa
