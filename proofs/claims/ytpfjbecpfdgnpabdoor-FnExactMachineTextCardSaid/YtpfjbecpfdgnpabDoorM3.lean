/- Contracts of the program and of the model, walked, part 3 of 5. No condition but what each says. -/
import Derived.Test.YtpfjbecpfdgnpabDoorM2
import Derived.Deep.RegionHeld3
import Derived.Deep.DeepCutAuto
import Derived.Test.YtpfjbecpfdgnpabDoorM1
import Derived.Deep.RegionLaw
namespace Go.Proofs.YtpfjbecpfdgnpabDoor
open Go.ChangeShapes Go.WideShapes Go.ChangeAt Go.RowKit Go.Joins Go.Deep
set_option linter.unusedSimpArgs false
set_option linter.unusedVariables false
set_option maxRecDepth 100000
set_option maxHeartbeats 2000000
def gearsB (R C : Int) (l : List (Int × Int)) : List Int := if goodB R C l then numL C.toNat l else []
theorem gearsB_len (R C : Int) (l : List (Int × Int)) (h : l.length ≤ 1048576) : (gearsB R C l).length ≤ 1048576 := by
  unfold gearsB
  split
  · rw [numL_len]; exact h
  · simp
theorem LRow.setCell {w : World} {base g j : Nat} {v u : Value} {L : List (List Nat)} (h : LRow w base v L) (hg : g < base) : LRow (w.setCell ⟨g, j, none⟩ u) base v L := by
  obtain ⟨hs, h1, h2, h3⟩ := h
  refine ⟨hs, h1, ⟨h2.1, ?_⟩, fun k hk => ?_⟩
  · rcases h2.2 with h4 | ⟨q, cap, cur, e, h5, h6, h7⟩
    · exact .inl h4
    · exact .inr ⟨q, cap, cur, e, h5, (Below.heap_setCell w ⟨g, j, none⟩ u q (by show q ≠ g; omega)).trans h6, h7⟩
  · obtain ⟨A, cap, e, ho, hb⟩ := h3 k hk
    refine ⟨A, cap, e, fun hx => ?_, hb⟩
    obtain ⟨q, rest, e', hw⟩ := ho hx
    have := hb _ e'
    exact ⟨q, rest, e', (Below.heap_setCell w ⟨g, j, none⟩ u q (by show q ≠ g; simp at this; omega)).trans hw⟩
/-- The header of the list at place k, and the list. -/
theorem LRow.at_ {w : World} {base : Nat} {v : Value} {L : List (List Nat)} (h : LRow w base v L) {k : Nat} (hk : k < L.length) :
    ∃ go cap0 A cap, v = .slice (some ⟨go, 0, none⟩) L.length cap0 ∧ w.cell? ⟨go, k, none⟩ = some (.slice A L[k].length cap) ∧ Own w A 3 (ints (nI L[k])) ∧ (∀ a, A = some a → base ≤ a.block) ∧ go < w.heap.size := by
  obtain ⟨hs, h1, h2, h3⟩ := h
  obtain ⟨A0, cap0, rfl⟩ := slice_of_row h2
  obtain ⟨A, cap, e, ho, hb⟩ := h3 k hk
  obtain ⟨go, rest, rfl, hw⟩ := (own_of_row h2).1 (by omega)
  refine ⟨go, cap0, A, cap, rfl, ?_, ho, hb, hw.lt⟩
  rw [hw.cell k, List.getElem?_append_left (by omega), e]
theorem num_sort {n x : Nat} (hx : x < n) : ∀ (G : List (List Nat)) (c : Nat), num (G.map (sortN n)) c x = num G c x
  | [], c => rfl
  | g :: G, c => by
    have e : (sortN n g).contains x = g.contains x := by
      rw [Bool.eq_iff_iff, List.contains_iff_mem, List.contains_iff_mem, mem_sortN]
      exact ⟨fun h => h.2, fun h => ⟨hx, h⟩⟩
    show (if (sortN n g).contains x then (c : Int) else num (G.map (sortN n)) (c + 1) x) = _
    rw [e, num_sort hx G (c + 1)]
    rfl
theorem numV_sort {n : Nat} (G : List (List Nat)) : numV n (G.map (sortN n)) = numV n G := by
  unfold numV
  exact List.map_congr_left fun x hx => num_sort (List.mem_range.1 hx) G 0
def srtG (c : Nat) (l : List (Int × Int)) : List (List Nat) := (GG (c : Int) l).map (sortN l.length)
theorem srtG_new {r c t j : Nat} {l : List (Int × Int)} (hG : Geo r c l.length) (ht : t < (srtG c l).length) (hj : j < (srtG c l)[t].length) :
    (srtG c l)[t][j] < l.length ∧ (srtG c l)[t][j] ∉ ((srtG c l).take t).flatten ∧ (srtG c l)[t][j] ∉ (srtG c l)[t].take j := by
  have hA := groups_all hG
  have ht' : t < (GG (c : Int) l).length := by unfold srtG at ht; rwa [List.length_map] at ht
  have e : (srtG c l)[t] = sortN l.length (GG (c : Int) l)[t] := by simp only [srtG, List.getElem_map]
  have hm : (srtG c l)[t][j] ∈ sortN l.length (GG (c : Int) l)[t] := by rw [← e]; exact List.getElem_mem hj
  rw [mem_sortN] at hm
  refine ⟨hm.1, fun h => ?_, fun h => ?_⟩
  · obtain ⟨g, hg, hx⟩ := List.mem_flatten.1 h
    obtain ⟨s, hs, rfl⟩ := List.getElem_of_mem hg
    rw [List.getElem_take] at hx
    have hst : s < t := by rw [List.length_take] at hs; omega
    have e2 : (srtG c l)[s]'(by omega) = sortN l.length ((GG (c : Int) l)[s]'(by omega)) := by simp only [srtG, List.getElem_map]
    rw [e2, mem_sortN] at hx
    have n1 := (num_is (j := (srtG c l)[t][j]) _ 0 t hA.apart (List.getElem?_eq_getElem ht')).2 hm.2
    have n2 := (num_is (j := (srtG c l)[t][j]) _ 0 s hA.apart (List.getElem?_eq_getElem (by omega))).2 hx.2
    omega
  · have hp : (srtG c l)[t].Pairwise (· < ·) := by rw [e]; exact sortN_sorted _ _
    rw [List.mem_iff_getElem] at h
    obtain ⟨i, hi, hie⟩ := h
    rw [List.getElem_take] at hie
    rw [List.length_take] at hi
    have := List.pairwise_iff_getElem.1 hp i j (by omega) hj (by omega)
    omega
theorem srtG_len (c : Nat) (l : List (Int × Int)) : (srtG c l).length ≤ l.length := by
  unfold srtG GG
  rw [List.length_map]
  exact gat_len _ _ _ _
theorem numL_srt (c : Nat) (l : List (Int × Int)) : numV l.length (srtG c l) = numL c l := by
  unfold srtG
  rw [numV_sort]
  unfold numL GG
  rw [Int.toNat_natCast]
theorem srtG_cell (c : Nat) (l : List (Int × Int)) (t : Nat) (ht : t < (srtG c l).length) : (srtG c l)[t].length ≤ l.length := by
  simp only [srtG, List.getElem_map]
  exact sortN_length _
end Go.Proofs.YtpfjbecpfdgnpabDoor
namespace Go.Proofs.YtpfjbecpfdgnpabDoor
open Go.ChangeShapes Go.WideShapes Go.ChangeAt Go.RowKit Go.Joins Go.Deep
set_option linter.unusedSimpArgs false
set_option linter.unusedVariables false
set_option maxRecDepth 100000
set_option maxHeartbeats 2000000
def gearK (l : List (Int × Int)) (x : Nat) : Bool := decide ((l.getD x (0, 0)).1 = 6)
theorem among_yes {l : List (Int × Int)} {q : List Nat} {k : Nat} (h : k < q.length) (hg : gearK l q[k] = true) : (q.take (k + 1)).filter (gearK l) = (q.take k).filter (gearK l) ++ [q[k]] := by
  rw [List.take_succ_eq_append_getElem h, List.filter_append]
  simp [hg]
theorem among_no {l : List (Int × Int)} {q : List Nat} {k : Nat} (h : k < q.length) (hg : gearK l q[k] = false) : (q.take (k + 1)).filter (gearK l) = (q.take k).filter (gearK l) := by
  rw [List.take_succ_eq_append_getElem h, List.filter_append]
  simp [hg]
theorem among_len (l : List (Int × Int)) (q : List Nat) (k : Nat) : ((q.take k).filter (gearK l)).length ≤ q.length := by
  have h1 := List.length_filter_le (gearK l) (q.take k)
  rw [List.length_take] at h1
  omega
def tnS (l : List (Int × Int)) (S : Nat → Bool) : List (Int × Int) := (List.range l.length).map fun x => if S x then ((l.getD x (0, 0)).1, 1 - (l.getD x (0, 0)).2) else l.getD x (0, 0)
theorem tnS_len (l : List (Int × Int)) (S : Nat → Bool) : (tnS l S).length = l.length := by simp [tnS]
theorem tnS_congr {l : List (Int × Int)} {S T : Nat → Bool} (h : ∀ x, x < l.length → S x = T x) : tnS l S = tnS l T := by
  unfold tnS
  exact List.map_congr_left fun x hx => by rw [h x (List.mem_range.1 hx)]
theorem tnS_at {l : List (Int × Int)} {S : Nat → Bool} {x : Nat} (h : x < (tnS l S).length) : (tnS l S)[x] = if S x then ((l.getD x (0, 0)).1, 1 - (l.getD x (0, 0)).2) else l.getD x (0, 0) := by
  simp [tnS]
theorem tnS_none {l : List (Int × Int)} : tnS l (fun _ => false) = l := by
  apply List.ext_getElem (tnS_len _ _)
  intro i h1 h2
  rw [tnS_at h1]
  simp only [Bool.false_eq_true, if_false]
  rw [List.getD_eq_getElem?_getD, List.getElem?_eq_getElem h2]
  rfl
theorem tnS_set {l : List (Int × Int)} {S T : Nat → Bool} {k : Nat} (hk : k < l.length) (hT : ∀ x, x < l.length → T x = (S x || x == k)) :
    (tnS l S).set k ((l.getD k (0, 0)).1, 1 - (l.getD k (0, 0)).2) = tnS l T := by
  apply List.ext_getElem (by rw [List.length_set, tnS_len, tnS_len])
  intro i h1 h2
  rw [List.getElem_set]
  have hi : i < l.length := by rw [tnS_len] at h2; exact h2
  by_cases e : k = i
  · subst e
    rw [if_pos rfl, tnS_at h2, hT k hk]
    simp
  · rw [if_neg e, tnS_at (by rw [tnS_len]; exact hi), tnS_at h2, hT i hi]
    have : (i == k) = false := by simp; omega
    rw [this, Bool.or_false]
theorem cell_two_far {w : World} {g j j' b o : Nat} {u u' : Value} (hne : b ≠ g) : ((w.setCell ⟨g, j, none⟩ u).setCell ⟨g, j', none⟩ u').cell? ⟨b, o, none⟩ = w.cell? ⟨b, o, none⟩ := by
  have h1 := Below.heap_setCell (w.setCell ⟨g, j, none⟩ u) ⟨g, j', none⟩ u' b hne
  have h2 := Below.heap_setCell w ⟨g, j, none⟩ u b hne
  simp only [World.cell?]
  rw [h1, h2]
end Go.Proofs.YtpfjbecpfdgnpabDoor
namespace Go.Proofs.YtpfjbecpfdgnpabDoor
open Go.ChangeShapes Go.WideShapes Go.ChangeAt Go.RowKit Go.Joins Go.Deep
set_option linter.unusedSimpArgs false
set_option linter.unusedVariables false
set_option maxRecDepth 100000
set_option maxHeartbeats 4000000
def isIn (C : Int) (l : List (Int × Int)) (gn : Int) (x : Nat) : Bool := decide (nmb C l x = gn) && gearK l x
def upTo (C : Int) (l : List (Int × Int)) (gn : Int) (k : Nat) (x : Nat) : Bool := decide (x < k) && isIn C l gn x
theorem upTo_zero {C : Int} {l : List (Int × Int)} {gn : Int} : tnS l (upTo C l gn 0) = l := by
  rw [show tnS l (upTo C l gn 0) = tnS l (fun _ => false) from tnS_congr fun x _ => by simp [upTo]]
  exact tnS_none
theorem upTo_yes {C : Int} {l : List (Int × Int)} {gn : Int} {k : Nat} (hk : k < l.length) (h : isIn C l gn k = true) : (tnS l (upTo C l gn k)).set k ((l.getD k (0, 0)).1, 1 - (l.getD k (0, 0)).2) = tnS l (upTo C l gn (k + 1)) := by
  refine tnS_set hk fun x _ => ?_
  unfold upTo
  by_cases e : x = k
  · subst e; simp [h]
  · have e1 : decide (x < k + 1) = decide (x < k) := by rw [decide_eq_decide]; omega
    have e2 : (x == k) = false := by simp [e]
    rw [e1, e2, Bool.or_false]
theorem upTo_no {C : Int} {l : List (Int × Int)} {gn : Int} {k : Nat} (h : isIn C l gn k = false) : tnS l (upTo C l gn (k + 1)) = tnS l (upTo C l gn k) := by
  refine tnS_congr fun x _ => ?_
  unfold upTo
  by_cases e : x = k
  · subst e; simp [h]
  · have e1 : decide (x < k + 1) = decide (x < k) := by rw [decide_eq_decide]; omega
    rw [e1]
theorem upTo_all {C : Int} {l : List (Int × Int)} {gn : Int} : tnS l (upTo C l gn l.length) = tnS l (isIn C l gn) :=
  tnS_congr fun x hx => by unfold upTo; rw [decide_eq_true hx, Bool.true_and]
theorem Whole.two_far {w : World} {g g' j j' : Nat} {t : TypeId} {xs : List Value} {u u' : Value} (h : Whole w g t xs) (hne : g ≠ g') : Whole ((w.setCell ⟨g', j, none⟩ u).setCell ⟨g', j', none⟩ u') g t xs :=
  (Below.heap_setCell (w.setCell ⟨g', j, none⟩ u) ⟨g', j', none⟩ u' g hne).trans ((Below.heap_setCell w ⟨g', j, none⟩ u g hne).trans h)
end Go.Proofs.YtpfjbecpfdgnpabDoor
namespace Go.Proofs.YtpfjbecpfdgnpabDoor
open Go.ChangeShapes Go.WideShapes Go.ChangeAt Go.RowKit Go.Joins Go.Deep
set_option linter.unusedSimpArgs false
set_option linter.unusedVariables false
set_option maxRecDepth 100000
set_option maxHeartbeats 4000000
def pin (nm : List Int) (gn : Int) (l : List (Int × Int)) (x : Nat) : Bool := decide (nm.getD x 0 = gn) && gearK l x
def pup (nm : List Int) (gn : Int) (l : List (Int × Int)) (k : Nat) (x : Nat) : Bool := decide (x < k) && pin nm gn l x
def passL (nm : List Int) (l : List (Int × Int)) (i : Nat) : List (Int × Int) :=
  if (l.getD i (0, 0)).1 = 3 then l.set i ((l.getD i (0, 0)).1, 1 - (l.getD i (0, 0)).2) else if (l.getD i (0, 0)).1 = 6 then tnS l (pin nm (nm.getD i 0) l) else l
theorem pup_zero {nm : List Int} {l : List (Int × Int)} {gn : Int} : tnS l (pup nm gn l 0) = l := by
  rw [show tnS l (pup nm gn l 0) = tnS l (fun _ => false) from tnS_congr fun x _ => by simp [pup]]
  exact tnS_none
theorem pup_yes {nm : List Int} {l : List (Int × Int)} {gn : Int} {k : Nat} (hk : k < l.length) (h : pin nm gn l k = true) : (tnS l (pup nm gn l k)).set k ((l.getD k (0, 0)).1, 1 - (l.getD k (0, 0)).2) = tnS l (pup nm gn l (k + 1)) := by
  refine tnS_set hk fun x _ => ?_
  unfold pup
  by_cases e : x = k
  · subst e; simp [h]
  · have e1 : decide (x < k + 1) = decide (x < k) := by rw [decide_eq_decide]; omega
    have e2 : (x == k) = false := by simp [e]
    rw [e1, e2, Bool.or_false]
theorem pup_no {nm : List Int} {l : List (Int × Int)} {gn : Int} {k : Nat} (h : pin nm gn l k = false) : tnS l (pup nm gn l (k + 1)) = tnS l (pup nm gn l k) := by
  refine tnS_congr fun x _ => ?_
  unfold pup
  by_cases e : x = k
  · subst e; simp [h]
  · have e1 : decide (x < k + 1) = decide (x < k) := by rw [decide_eq_decide]; omega
    rw [e1]
theorem pup_all {nm : List Int} {l : List (Int × Int)} {gn : Int} : tnS l (pup nm gn l l.length) = tnS l (pin nm gn l) :=
  tnS_congr fun x hx => by unfold pup; rw [decide_eq_true hx, Bool.true_and]
theorem passL_len (nm : List Int) (l : List (Int × Int)) (i : Nat) : (passL nm l i).length = l.length := by
  unfold passL
  split
  · rw [List.length_set]
  · split
    · rw [tnS_len]
    · rfl
theorem gb_below {w v v' : World} {g : Nat} (h : w.grownBy v (some g)) (hb : Below v.heap.size v v') : w.grownBy v' (some g) :=
  ⟨hb.os.trans h.os, hb.tape.trans h.tape, hb.output.trans h.output, Nat.le_trans h.size hb.size, fun k hk hne => (hb.block k (Nat.lt_of_lt_of_le hk h.size)).trans (h.block k hk hne)⟩
theorem gb_set2 {w v : World} {g j j' : Nat} {u u' : Value} (h : w.grownBy v (some g)) : w.grownBy ((v.setCell ⟨g, j, none⟩ u).setCell ⟨g, j', none⟩ u') (some g) :=
  ⟨h.os, h.tape, h.output, by rw [World.size_setCell, World.size_setCell]; exact h.size, fun k hk hne => by
    have e : k ≠ g := fun e => hne (by rw [e])
    rw [Below.heap_setCell _ _ _ _ e, Below.heap_setCell _ _ _ _ e]
    exact h.block k hk hne⟩
theorem gb_refl (w : World) (g : Nat) : w.grownBy w (some g) := ⟨rfl, rfl, rfl, Nat.le_refl _, fun _ _ _ => rfl⟩
end Go.Proofs.YtpfjbecpfdgnpabDoor
namespace Go.Proofs.YtpfjbecpfdgnpabDoor
open Go.ChangeShapes Go.WideShapes Go.ChangeAt Go.RowKit Go.Joins Go.Deep
set_option linter.unusedSimpArgs false
set_option linter.unusedVariables false
set_option maxRecDepth 100000
set_option maxHeartbeats 4000000
structure FlR where
  e : Int
  row : Int
  col : Int
  cells : List (Int × Int)
  way : List (List Nat)
def flG (nm : List Int) (r c : Nat) : Nat → Nat → List (Int × Int) → Nat → Int → List (List Nat) → FlR
  | 0, _, l, col, _, way => ⟨1, r, col, l, way⟩
  | n + 1, row, l, col, side, way =>
    if (l.getD (row * c + col) (0, 0)).1 = 5 then ⟨2, row, col, l, way ++ [[row, col]]⟩
    else if 0 ≤ (col : Int) + goN (l.getD (row * c + col) (0, 0)).1 (l.getD (row * c + col) (0, 0)).2 side ∧ (col : Int) + goN (l.getD (row * c + col) (0, 0)).1 (l.getD (row * c + col) (0, 0)).2 side < c
      then flG nm r c n (row + 1) (passL nm l (row * c + col)) ((col : Int) + goN (l.getD (row * c + col) (0, 0)).1 (l.getD (row * c + col) (0, 0)).2 side).toNat (-goN (l.getD (row * c + col) (0, 0)).1 (l.getD (row * c + col) (0, 0)).2 side) (way ++ [[row, col]])
      else ⟨3, row, (col : Int) + goN (l.getD (row * c + col) (0, 0)).1 (l.getD (row * c + col) (0, 0)).2 side, passL nm l (row * c + col), way ++ [[row, col]]⟩
theorem goN_range {a b d : Int} (hg : good a b = true) (h1 : -1 ≤ d) (h2 : d ≤ 1) : -1 ≤ goN a b d ∧ goN a b d ≤ 1 := by
  have h3 : 0 ≤ b ∧ b ≤ 1 := by unfold good at hg; simp at hg; omega
  unfold goN
  split
  · omega
  · split
    · omega
    · split
      · omega
      · split
        · omega
        · omega
theorem good_turned {a b : Int} (hg : good a b = true) (h : a = 3 ∨ a = 6) : good a (1 - b) = true := by
  unfold good at *
  simp at *
  omega
theorem passL_good {nm : List Int} {l : List (Int × Int)} {i : Nat} (hi : i < l.length) (h : ∀ x ∈ l, good x.1 x.2 = true) : ∀ x ∈ passL nm l i, good x.1 x.2 = true := by
  have hget : ∀ j, j < l.length → l.getD j (0, 0) ∈ l := fun j hj => by
    rw [List.getD_eq_getElem?_getD, List.getElem?_eq_getElem hj]
    exact List.getElem_mem hj
  intro x hx
  unfold passL at hx
  split at hx
  · next h3 =>
    rcases List.mem_or_eq_of_mem_set hx with h1 | rfl
    · exact h x h1
    · exact good_turned (h _ (hget i hi)) (.inl h3)
  · split at hx
    · next h6 =>
      unfold tnS at hx
      obtain ⟨j, hj, rfl⟩ := List.mem_map.1 hx
      have hj' := List.mem_range.1 hj
      split
      · next hp =>
        unfold pin gearK at hp
        simp only [Bool.and_eq_true, decide_eq_true_eq] at hp
        exact good_turned (h _ (hget j hj')) (.inr hp.2)
      · exact h _ (hget j hj')
    · exact h x hx
theorem Own.apart {w w' : World} {A : Option Addr} {t t' : TypeId} {xs ys : List Value} {g : Nat} (h : Own w A t xs) (hw : Whole w g t' ys) (hne : t ≠ t') (hg : w.grownBy w' (some g)) : Own w' A t xs := fun hx => by
  obtain ⟨k, rest, e, h1⟩ := h hx
  refine ⟨k, rest, e, h1.grown hg (fun e' => ?_)⟩
  cases e'
  unfold Whole at h1 hw
  rw [hw] at h1
  injection h1 with h1
  injection h1 with _ ht
  exact hne ht.symm
theorem LRow.apart {w w' : World} {base g : Nat} {v : Value} {L : List (List Nat)} {t : TypeId} {ys : List Value} (h : LRow w base v L) (hw : Whole w g t ys) (h1 : 40 ≠ t) (h2 : 3 ≠ t) (hg : w.grownBy w' (some g)) : LRow w' base v L := by
  obtain ⟨hs, q1, q2, q3⟩ := h
  refine ⟨hs, q1, World.ownsRow.kept q2 hg (.inr fun e => row_apart q2 hw h1 e.symm), fun k hk => ?_⟩
  obtain ⟨A, cap, e, ho, hb⟩ := q3 k hk
  exact ⟨A, cap, e, ho.apart hw h2 hg, hb⟩
theorem LRow.set_ {w : World} {base g j : Nat} {v u : Value} {L : List (List Nat)} {t : TypeId} {ys : List Value} (h : LRow w base v L) (hw : Whole w g t ys) (h1 : 40 ≠ t) (h2 : 3 ≠ t) : LRow (w.setCell ⟨g, j, none⟩ u) base v L := by
  refine h.apart hw h1 h2 ⟨rfl, rfl, rfl, by rw [World.size_setCell]; exact Nat.le_refl _, fun k _ hne => Below.heap_setCell _ _ _ _ (fun e => hne (by rw [e]))⟩
theorem six_whole {w : World} {a b g : Nat} {t : TypeId} {xs : List Value} {u0 u1 u2 y0 y1 y2 : Value} (h : Whole w g t xs) (ha : a ≠ g) (hb : b ≠ g) : Whole (((((((w.setCell ⟨a, 0, none⟩ u0).setCell ⟨a, 1, none⟩ u1).setCell ⟨a, 2, none⟩ u2).setCell ⟨b, 0, none⟩ y0).setCell ⟨b, 1, none⟩ y1).setCell ⟨b, 2, none⟩ y2).drew) g t xs := by
  have h1 := h.set_far ⟨a, 0, none⟩ u0 ha
  have h2 := h1.set_far ⟨a, 1, none⟩ u1 ha
  have h3 := h2.set_far ⟨a, 2, none⟩ u2 ha
  have h4 := h3.set_far ⟨b, 0, none⟩ y0 hb
  have h5 := h4.set_far ⟨b, 1, none⟩ y1 hb
  have h6 := h5.set_far ⟨b, 2, none⟩ y2 hb
  exact h6.below ((Below.refl _ _).drew) h6.lt
theorem six_below {B : Nat} {w0 w : World} {a b : Nat} {u0 u1 u2 y0 y1 y2 : Value} (h : Below B w0 w) (ha : B ≤ a) (hb : B ≤ b) : Below B w0 (((((((w.setCell ⟨a, 0, none⟩ u0).setCell ⟨a, 1, none⟩ u1).setCell ⟨a, 2, none⟩ u2).setCell ⟨b, 0, none⟩ y0).setCell ⟨b, 1, none⟩ y1).setCell ⟨b, 2, none⟩ y2).drew) :=
  ((((((h.setCell (p := ⟨a, 0, none⟩) ha u0).setCell (p := ⟨a, 1, none⟩) ha u1).setCell (p := ⟨a, 2, none⟩) ha u2).setCell (p := ⟨b, 0, none⟩) hb y0).setCell (p := ⟨b, 1, none⟩) hb y1).setCell (p := ⟨b, 2, none⟩) hb y2).drew
theorem three_lrow {w : World} {base a : Nat} {v : Value} {L : List (List Nat)} {t : TypeId} {p q s : Value} {u0 u1 u2 : Value} (h : LRow w base v L) (hw : Whole w a t [p, q, s]) (h1 : 40 ≠ t) (h2 : 3 ≠ t) : LRow (((w.setCell ⟨a, 0, none⟩ u0).setCell ⟨a, 1, none⟩ u1).setCell ⟨a, 2, none⟩ u2) base v L :=
  ((h.set_ hw h1 h2).set_ (hw.set 0 u0) h1 h2).set_ ((hw.set 0 u0).set 1 u1) h1 h2
theorem flG_step (nm : List Int) (r c n row : Nat) (l : List (Int × Int)) (col : Nat) (side : Int) (way : List (List Nat)) (kd st : Int) (h1 : (l.getD (row * c + col) (0, 0)).1 = kd) (h2 : (l.getD (row * c + col) (0, 0)).2 = st) :
    flG nm r c (n + 1) row l col side way = if kd = 5 then ⟨2, row, col, l, way ++ [[row, col]]⟩
      else if 0 ≤ (col : Int) + goN kd st side ∧ (col : Int) + goN kd st side < c then flG nm r c n (row + 1) (passL nm l (row * c + col)) ((col : Int) + goN kd st side).toNat (-goN kd st side) (way ++ [[row, col]])
      else ⟨3, row, (col : Int) + goN kd st side, passL nm l (row * c + col), way ++ [[row, col]]⟩ := by
  subst h1 h2
  rfl
end Go.Proofs.YtpfjbecpfdgnpabDoor
namespace Go.Proofs.YtpfjbecpfdgnpabDoor
open Go.ChangeShapes Go.WideShapes Go.ChangeAt Go.RowKit Go.Joins Go.Deep
set_option linter.unusedSimpArgs false
set_option linter.unusedVariables false
set_option maxRecDepth 100000
set_option maxHeartbeats 4000000
def okF (R C : Int) (l : List (Int × Int)) (j : Int) : Bool := goodB R C l && decide (0 ≤ j ∧ j < C)
def marO (R C : Int) (l : List (Int × Int)) (j : Int) : FlR := flG (numL C.toNat l) R.toNat C.toNat R.toNat 0 l j.toNat 0 []
theorem spec_flHas (R C : Int) (A : Option Addr) (cap : Nat) (l : List (Int × Int)) (j : Int) (w : World) (hn : l.length ≤ 1048576) (hr : Rd w w.heap.size A (flat l)) :
    Calls Tryd.prog 20 #[.agg #[.int .i64 R, .int .i64 C, .slice A l.length cap], .int .i64 j] w fun e w' => e = .returned (.bool (okF R C l j)) ∧ Below w.heap.size w w' := by
  unfold okF
  rcases Bool.eq_false_or_eq_true (goodB R C l) with hg | hg
  · have HG := Lib.hid hg
    obtain ⟨s1, s2, s3, s4⟩ := sizeB_iff.1 (goodB_iff.1 hg).1
    rw [hg]
    clear hg
    have m1 : IntKind.i64.wrap (C - 1) = C - 1 := IntWalk.i64_in _ (by omega)
    have HE := Lib.hid (show (true && decide (0 ≤ j ∧ j < C)) = (decide (0 ≤ j) && decide (j ≤ C - 1)) by rw [Bool.true_and, Bool.eq_iff_iff]; simp; omega)
    go_enter Tryd.func20, Tryd.ntmps20
    obtain ⟨v0, hv0⟩ : ∃ v, v = w.alloc (.cells #[.int .i64 R, .int .i64 C, .slice A l.length cap] 32) := ⟨_, rfl⟩; have X0 : Whole v0 w.heap.size 32 [.int .i64 R, .int .i64 C, .slice A l.length cap] := (by rw [hv0]; exact heap_alloc_new w _); have hb : Below w.heap.size w v0 := (by rw [hv0]; exact (Below.refl _ _).alloc (Nat.le_refl _) _); have HV := Lib.hid hv0.symm; clear hv0; go_upto_region 1 with (fail); rewrite [HV.out]; clear HV; have X0k0 : v0.cell? ⟨w.heap.size, 0, none⟩ = some (.int .i64 R) := (X0.cell 0).trans rfl; have X0k1 : v0.cell? ⟨w.heap.size, 1, none⟩ = some (.int .i64 C) := (X0.cell 1).trans rfl; have X0k2 : v0.cell? ⟨w.heap.size, 2, none⟩ = some (.slice A l.length cap) := (X0.cell 2).trans rfl
    go_wp2_with fail
    refine (spec_boGood _ _ _ _ l _ hn ((hr.below hb).mono hb.size)).mono ?_; rintro e w1 ⟨rfl, b1⟩
    rewrite [HG.out]
    (clear X0k0 X0k1 X0k2; replace X0 := X0.below b1 X0.lt; replace hb := hb.trans (b1.mono hb.size); clear b1; have X0k0 : w1.cell? ⟨w.heap.size, 0, none⟩ = some (.int .i64 R) := (X0.cell 0).trans rfl; have X0k1 : w1.cell? ⟨w.heap.size, 1, none⟩ = some (.int .i64 C) := (X0.cell 1).trans rfl; have X0k2 : w1.cell? ⟨w.heap.size, 2, none⟩ = some (.slice A l.length cap) := (X0.cell 2).trans rfl)
    go_wp2_with fail
    refine (spec_l1In _ _ _ _).mono ?_; rintro e w2 ⟨rfl, rfl⟩
    go_wp2
    go_returns
    exact ⟨by rw [HE.out]; rfl, by (repeat' (first | (with_reducible exact Below.refl _ _) | (with_reducible assumption) | (with_reducible refine Below.alloc ?_ ?_ _) | (with_reducible refine Below.setCell ?_ ?_ _) | (with_reducible refine Below.drew ?_) | (with_reducible refine below_drewN ?_ _) | (with_reducible refine Below.trans ?_ (Below.mono (by assumption) ?_)) | (with_reducible exact Nat.le_refl _) | (simp; done) | omega | (simp at *; omega)))⟩
  · have HG := Lib.hid hg
    rw [hg]
    clear hg
    go_enter Tryd.func20, Tryd.ntmps20
    obtain ⟨v0, hv0⟩ : ∃ v, v = w.alloc (.cells #[.int .i64 R, .int .i64 C, .slice A l.length cap] 32) := ⟨_, rfl⟩; have X0 : Whole v0 w.heap.size 32 [.int .i64 R, .int .i64 C, .slice A l.length cap] := (by rw [hv0]; exact heap_alloc_new w _); have hb : Below w.heap.size w v0 := (by rw [hv0]; exact (Below.refl _ _).alloc (Nat.le_refl _) _); have HV := Lib.hid hv0.symm; clear hv0; go_upto_region 1 with (fail); rewrite [HV.out]; clear HV; have X0k0 : v0.cell? ⟨w.heap.size, 0, none⟩ = some (.int .i64 R) := (X0.cell 0).trans rfl; have X0k1 : v0.cell? ⟨w.heap.size, 1, none⟩ = some (.int .i64 C) := (X0.cell 1).trans rfl; have X0k2 : v0.cell? ⟨w.heap.size, 2, none⟩ = some (.slice A l.length cap) := (X0.cell 2).trans rfl
    go_wp2_with fail
    refine (spec_boGood _ _ _ _ l _ hn ((hr.below hb).mono hb.size)).mono ?_; rintro e w1 ⟨rfl, b1⟩
    rewrite [HG.out]
    (clear X0k0 X0k1 X0k2; replace X0 := X0.below b1 X0.lt; replace hb := hb.trans (b1.mono hb.size); clear b1; have X0k0 : w1.cell? ⟨w.heap.size, 0, none⟩ = some (.int .i64 R) := (X0.cell 0).trans rfl; have X0k1 : w1.cell? ⟨w.heap.size, 1, none⟩ = some (.int .i64 C) := (X0.cell 1).trans rfl; have X0k2 : w1.cell? ⟨w.heap.size, 2, none⟩ = some (.slice A l.length cap) := (X0.cell 2).trans rfl)
    go_wp2
    go_returns
    exact ⟨rfl, by (repeat' (first | (with_reducible exact Below.refl _ _) | (with_reducible assumption) | (with_reducible refine Below.alloc ?_ ?_ _) | (with_reducible refine Below.setCell ?_ ?_ _) | (with_reducible refine Below.drew ?_) | (with_reducible refine below_drewN ?_ _) | (with_reducible refine Below.trans ?_ (Below.mono (by assumption) ?_)) | (with_reducible exact Nat.le_refl _) | (simp; done) | omega | (simp at *; omega)))⟩
theorem three_far {w : World} {g a : Nat} {t : TypeId} {xs : List Value} {u0 u1 u2 : Value} (h : Whole w g t xs) (ne : a ≠ g) : Whole (((w.setCell ⟨a, 0, none⟩ u0).setCell ⟨a, 1, none⟩ u1).setCell ⟨a, 2, none⟩ u2) g t xs :=
  ((h.set_far ⟨a, 0, none⟩ u0 ne).set_far ⟨a, 1, none⟩ u1 ne).set_far ⟨a, 2, none⟩ u2 ne
theorem own_three {w : World} {a : Nat} {A : Option Addr} {t t' : TypeId} {xs : List Value} {p q s u0 u1 u2 : Value} (h : Own w A t xs) (hw : Whole w a t' [p, q, s]) (hne : t ≠ t') : Own (((w.setCell ⟨a, 0, none⟩ u0).setCell ⟨a, 1, none⟩ u1).setCell ⟨a, 2, none⟩ u2) A t xs := by
  have gb : ∀ {v : World} {j : Nat} {u : Value}, v.grownBy (v.setCell ⟨a, j, none⟩ u) (some a) := fun {v j u} => ⟨rfl, rfl, rfl, by rw [World.size_setCell]; exact Nat.le_refl _, fun k _ hk => Below.heap_setCell _ _ _ _ (fun e => hk (by rw [e]))⟩
  exact ((h.apart hw hne gb).apart (hw.set 0 u0) hne gb).apart ((hw.set 0 u0).set 1 u1) hne gb
theorem LRow.alloc {w : World} {base : Nat} {v : Value} {L : List (List Nat)} (h : LRow w base v L) (o : Obj) : LRow (w.alloc o) base v L := h.keep ((Below.refl _ _).alloc (Nat.le_refl _) _)
theorem Own.alloc_ {w : World} {A : Option Addr} {t : TypeId} {xs : List Value} (h : Own w A t xs) (o : Obj) : Own (w.alloc o) A t xs := h.keep ((Below.refl _ _).alloc (Nat.le_refl _) _)
theorem newB {w w1 : World} {t : TypeId} {xs : List Value} (b : Below (w.alloc (.cells xs.toArray t)).heap.size (w.alloc (.cells xs.toArray t)) w1) : Whole w1 w.heap.size t xs :=
  Whole.below (heap_alloc_new w _) b (by rw [World.size_alloc]; omega)
theorem newB2 {w w1 : World} {o : Obj} {t : TypeId} {xs : List Value} (b : Below ((w.alloc (.cells xs.toArray t)).alloc o).heap.size ((w.alloc (.cells xs.toArray t)).alloc o) w1) : Whole w1 w.heap.size t xs :=
  Whole.below (Whole.alloc (heap_alloc_new w _) o) b (by rw [World.size_alloc, World.size_alloc]; omega)
theorem newW3 {w : World} {a : Nat} {u0 u1 u2 : Value} {t : TypeId} {xs : List Value} : Whole ((((w.setCell ⟨a, 0, none⟩ u0).setCell ⟨a, 1, none⟩ u1).setCell ⟨a, 2, none⟩ u2).alloc (.cells xs.toArray t)) w.heap.size t xs := by
  have h := heap_alloc_new (((w.setCell ⟨a, 0, none⟩ u0).setCell ⟨a, 1, none⟩ u1).setCell ⟨a, 2, none⟩ u2) (.cells xs.toArray t)
  rw [World.size_setCell, World.size_setCell, World.size_setCell] at h
  exact h
theorem own_threeB {w : World} {a : Nat} {A B : Option Addr} {n cp : Nat} {xs : List Value} {u0 u1 : Value} (h : Own w A 71 xs) (hw : Whole w a 32 [.int .i64 0, .int .i64 0, .slice none 0 0]) : Own (((w.setCell ⟨a, 0, none⟩ u0).setCell ⟨a, 1, none⟩ u1).setCell ⟨a, 2, none⟩ (.slice B n cp)) A 71 xs := own_three h hw (by decide)
theorem lrow_threeB {w : World} {base a : Nat} {v : Value} {L : List (List Nat)} {B : Option Addr} {n cp : Nat} {u0 u1 : Value} (h : LRow w base v L) (hw : Whole w a 32 [.int .i64 0, .int .i64 0, .slice none 0 0]) : LRow (((w.setCell ⟨a, 0, none⟩ u0).setCell ⟨a, 1, none⟩ u1).setCell ⟨a, 2, none⟩ (.slice B n cp)) base v L := three_lrow h hw (by decide) (by decide)
theorem wh_threeB {w : World} {g : Nat} {B : Option Addr} {n cp : Nat} {u0 u1 : Value} (h : Whole w g 32 [.int .i64 0, .int .i64 0, .slice none 0 0]) : Whole (((w.setCell ⟨g, 0, none⟩ u0).setCell ⟨g, 1, none⟩ u1).setCell ⟨g, 2, none⟩ (.slice B n cp)) g 32 [u0, u1, .slice B n cp] := whole_three h
theorem newD {w w1 : World} {t : TypeId} {xs : List Value} (b : Below (w.alloc (.cells xs.toArray t)).drew.heap.size (w.alloc (.cells xs.toArray t)).drew w1) : Whole w1 w.heap.size t xs :=
  Whole.below (w := (w.alloc (.cells xs.toArray t)).drew) (heap_alloc_new w _) b (by show _ < (w.alloc _).heap.size; rw [World.size_alloc]; omega)
theorem newD2 {w w1 : World} {o : Obj} {t : TypeId} {xs : List Value} (b : Below ((w.alloc (.cells xs.toArray t)).alloc o).drew.heap.size ((w.alloc (.cells xs.toArray t)).alloc o).drew w1) : Whole w1 w.heap.size t xs :=
  Whole.below (w := ((w.alloc (.cells xs.toArray t)).alloc o).drew) (Whole.alloc (heap_alloc_new w _) o) b (by show _ < ((w.alloc _).alloc _).heap.size; rw [World.size_alloc, World.size_alloc]; omega)
theorem newW {w : World} {t : TypeId} {xs : List Value} : Whole (w.alloc (.cells xs.toArray t)) w.heap.size t xs := heap_alloc_new w _
theorem newW1 {w : World} {o : Obj} {t : TypeId} {xs : List Value} : Whole ((w.alloc o).alloc (.cells xs.toArray t)) (w.heap.size + 1) t xs := by
  have h := heap_alloc_new (w.alloc o) (.cells xs.toArray t)
  rw [World.size_alloc] at h
  exact h
theorem oldB {w w1 : World} {g : Nat} {t : TypeId} {xs : List Value} (h : Whole w g t xs) (b : Below w.heap.size w w1) : Whole w1 g t xs := h.below b h.lt
theorem oldA {w w1 : World} {g : Nat} {o : Obj} {t : TypeId} {xs : List Value} (h : Whole w g t xs) (b : Below (w.alloc o).heap.size (w.alloc o) w1) : Whole w1 g t xs := (h.alloc o).below b (h.alloc o).lt
end Go.Proofs.YtpfjbecpfdgnpabDoor
namespace Go.Proofs.YtpfjbecpfdgnpabDoor
open Go.ChangeShapes Go.WideShapes Go.ChangeAt Go.RowKit Go.Joins Go.Deep
set_option linter.unusedSimpArgs false
set_option linter.unusedVariables false
set_option maxRecDepth 100000
set_option maxHeartbeats 2000000
def inI (lo hi n : Int) : Bool := decide (lo ≤ n) && decide (n ≤ hi)
def allI (lo hi : Int) (cs : List Int) : Bool := cs.all (inI lo hi)
theorem allI_bad {lo hi : Int} {cs : List Int} {k : Nat} (hk : k < cs.length) (h : inI lo hi cs[k] = false) : allI lo hi cs = false := by
  unfold allI
  rw [List.all_eq_false]
  exact ⟨cs[k], List.getElem_mem _, by rw [h]; simp⟩
def okC' (R C : Int) (l : List (Int × Int)) (cs : List Int) : Bool := goodB R C l && decide (cs.length ≤ 60) && allI 0 (C - 1) cs
end Go.Proofs.YtpfjbecpfdgnpabDoor
namespace Go.Proofs.YtpfjbecpfdgnpabDoor
open Go.ChangeShapes Go.WideShapes Go.ChangeAt Go.RowKit Go.Joins Go.Deep
set_option linter.unusedSimpArgs false
set_option linter.unusedVariables false
set_option maxRecDepth 100000
set_option maxHeartbeats 4000000
theorem field_kind (a b : Value) (w : World) : (Instr.field 71 (.agg #[a, b]) 0).run Tryd.prog w = .ok a w := by kernel_rfl
def okT (R C : Int) (l : List (Int × Int)) (i j : Int) : Bool := hasB R C l i j && gearK l (atI C i j)
def turnG (R C : Int) (l : List (Int × Int)) (i j : Int) : List (Int × Int) := if okT R C l i j then tnS l (isIn C l (nmb C l (atI C i j))) else []
theorem turnG_len (R C : Int) (l : List (Int × Int)) (i j : Int) (h : l.length ≤ 1048576) : (turnG R C l i j).length ≤ 1048576 := by
  unfold turnG
  split
  · rw [tnS_len]; exact h
  · simp
theorem turnG_post {w w' : World} {R C : Int} {l : List (Int × Int)} {i j : Int} {e : Ending} {ok : Bool} (h : okT R C l i j = ok) (hp : if ok then PostB w R C (tnS l (isIn C l (nmb C l (atI C i j)))) true e w' else PostB w 0 0 [] false e w') :
    PostB w (selI (okT R C l i j) R) (selI (okT R C l i j) C) (turnG R C l i j) (okT R C l i j) e w' := by
  unfold turnG
  rw [h]
  cases ok
  · exact hp
  · exact hp
end Go.Proofs.YtpfjbecpfdgnpabDoor
namespace Go.Proofs.YtpfjbecpfdgnpabDoor
open Go.ChangeShapes Go.WideShapes Go.ChangeAt Go.RowKit Go.Joins Go.Deep
set_option linter.unusedSimpArgs false
set_option linter.unusedVariables false
set_option maxRecDepth 100000
set_option maxHeartbeats 4000000
def gearsOf (C : Int) (l : List (Int × Int)) (k : Nat) : List Nat := (grpL C l k).filter (gearK l)
theorem gearsOf_at {C : Int} {l : List (Int × Int)} {k j : Nat} (hj : j < (gearsOf C l k).length) :
    (gearsOf C l k)[j] < l.length ∧ gearK l (gearsOf C l k)[j] = true ∧ (gearsOf C l k)[j] ∉ (gearsOf C l k).take j := by
  have hm := List.getElem_mem hj
  have hp : (gearsOf C l k).Pairwise (· < ·) := (List.pairwise_lt_range.filter _).filter _
  refine ⟨?_, ?_, fun h => ?_⟩
  · exact List.mem_range.1 (List.mem_filter.1 (List.mem_filter.1 hm).1).1
  · exact (List.mem_filter.1 hm).2
  · rw [List.mem_iff_getElem] at h
    obtain ⟨i, hi, hie⟩ := h
    rw [List.getElem_take] at hie
    rw [List.length_take] at hi
    have := List.pairwise_iff_getElem.1 hp i j (by omega) hj (by omega)
    omega
theorem gearsOf_len (C : Int) (l : List (Int × Int)) (k : Nat) : (gearsOf C l k).length ≤ l.length := by
  have h1 := List.length_filter_le (gearK l) (grpL C l k)
  have h2 := grpL_len C l k
  unfold gearsOf
  omega
theorem grpL_lt (C : Int) (l : List (Int × Int)) (k : Nat) : ∀ x ∈ grpL C l k, x < l.length := fun x hx => List.mem_range.1 (List.mem_filter.1 hx).1
def inTake (gs : List Nat) (j : Nat) (x : Nat) : Bool := (gs.take j).contains x
theorem inTake_step {l : List (Int × Int)} {gs : List Nat} {j : Nat} (hj : j < gs.length) (hx : gs[j] < l.length) :
    (tnS l (inTake gs j)).set gs[j] ((l.getD gs[j] (0, 0)).1, 1 - (l.getD gs[j] (0, 0)).2) = tnS l (inTake gs (j + 1)) := by
  refine tnS_set hx fun x _ => ?_
  unfold inTake
  rw [List.take_succ_eq_append_getElem hj, List.contains_eq_any_beq, List.contains_eq_any_beq, List.any_append]
  simp [eq_comm]
theorem inTake_zero {l : List (Int × Int)} {gs : List Nat} : tnS l (inTake gs 0) = l := by
  rw [show tnS l (inTake gs 0) = tnS l (fun _ => false) from tnS_congr fun x _ => by simp [inTake]]
  exact tnS_none
theorem inTake_all {C : Int} {l : List (Int × Int)} {k : Nat} : tnS l (inTake (gearsOf C l k) (gearsOf C l k).length) = tnS l (isIn C l (nmb C l k)) := by
  refine tnS_congr fun x hx => ?_
  unfold inTake isIn gearsOf grpL
  rw [List.take_length, Bool.eq_iff_iff, List.contains_iff_mem, List.mem_filter, List.mem_filter, List.mem_range, Bool.and_eq_true]
  exact ⟨fun h => ⟨h.1.2, h.2⟩, fun h => ⟨⟨hx, h.1⟩, h.2⟩⟩
theorem okT_join {R C : Int} {l : List (Int × Int)} {i j : Int} (h : okT R C l i j = true) : okJ R C l i j = true := by
  unfold okT at h
  rw [Bool.and_eq_true] at h
  unfold okJ
  rw [h.1, Bool.true_and]
  have h2 := h.2
  unfold gearK at h2
  rw [decide_eq_true_eq] at h2
  rw [h2]
  rfl
end Go.Proofs.YtpfjbecpfdgnpabDoor
namespace Go.Proofs.YtpfjbecpfdgnpabDoor
open Go.ChangeShapes Go.WideShapes Go.ChangeAt Go.RowKit Go.Joins Go.Deep
set_option linter.unusedSimpArgs false
set_option linter.unusedVariables false
set_option maxRecDepth 100000
set_option maxHeartbeats 1000000
theorem numL_congr {c : Nat} {l l' : List (Int × Int)} (hlen : l.length = l'.length) (hk : ∀ x, (l.getD x (0, 0)).1 = (l'.getD x (0, 0)).1) : numL c l = numL c l' := by
  unfold numL
  rw [show J l = J l' from funext fun x => by unfold J; rw [hk], hlen]
theorem tnS_kind {l : List (Int × Int)} {S : Nat → Bool} (x : Nat) : ((tnS l S).getD x (0, 0)).1 = (l.getD x (0, 0)).1 := by
  by_cases hx : x < l.length
  · have h1 : x < (tnS l S).length := by rw [tnS_len]; exact hx
    rw [List.getD_eq_getElem?_getD, List.getElem?_eq_getElem h1]
    show ((tnS l S)[x]).1 = _
    rw [tnS_at h1]
    split <;> rfl
  · have h1 : (tnS l S).getD x (0, 0) = (0, 0) := by rw [List.getD_eq_getElem?_getD, List.getElem?_eq_none (by rw [tnS_len]; omega)]; rfl
    have h2 : l.getD x (0, 0) = (0, 0) := by rw [List.getD_eq_getElem?_getD, List.getElem?_eq_none (by omega)]; rfl
    rw [h1, h2]
theorem passL_kind (nm : List Int) (l : List (Int × Int)) (i x : Nat) : ((passL nm l i).getD x (0, 0)).1 = (l.getD x (0, 0)).1 := by
  unfold passL
  split
  · rw [List.getD_eq_getElem?_getD, List.getElem?_set]
    by_cases e : i = x
    · subst e
      rw [if_pos rfl]
      by_cases hi : i < l.length
      · rw [if_pos hi, List.getD_eq_getElem?_getD]; rfl
      · rw [if_neg hi, List.getD_eq_getElem?_getD, List.getElem?_eq_none (by omega)]
    · rw [if_neg e, List.getD_eq_getElem?_getD]
  · split
    · exact tnS_kind x
    · rfl
theorem passL_num (c : Nat) (nm : List Int) (l : List (Int × Int)) (i : Nat) : numL c (passL nm l i) = numL c l :=
  numL_congr (passL_len nm l i) (passL_kind nm l i)
theorem numL_getD {c : Nat} {l : List (Int × Int)} {k : Nat} (hk : k < l.length) : (numL c l).getD k 0 = nmb (c : Int) l k := by
  have h := numL_at (c := c) hk
  unfold ints at h
  rw [List.getElem?_map] at h
  rw [List.getD_eq_getElem?_getD]
  cases he : (numL c l)[k]? with
  | none => rw [he] at h; simp at h
  | some v => rw [he] at h; simpa using h
theorem passL_gear {c : Nat} {l : List (Int × Int)} {i : Nat} (hi : i < l.length) (h6 : (l.getD i (0, 0)).1 = 6) : passL (numL c l) l i = tnS l (isIn (c : Int) l (nmb (c : Int) l i)) := by
  unfold passL
  rw [if_neg (by rw [h6]; decide), if_pos h6]
  refine tnS_congr fun x hx => ?_
  unfold pin isIn
  rw [numL_getD hx, numL_getD hi]
theorem passL_flip {nm : List Int} {l : List (Int × Int)} {i : Nat} (h3 : (l.getD i (0, 0)).1 = 3) : passL nm l i = l.set i (3, 1 - (l.getD i (0, 0)).2) := by
  unfold passL
  rw [if_pos h3, h3]
theorem passL_none {nm : List Int} {l : List (Int × Int)} {i : Nat} (h3 : (l.getD i (0, 0)).1 ≠ 3) (h6 : (l.getD i (0, 0)).1 ≠ 6) : passL nm l i = l := by
  unfold passL
  rw [if_neg h3, if_neg h6]
end Go.Proofs.YtpfjbecpfdgnpabDoor
namespace Go.Proofs.YtpfjbecpfdgnpabDoor
open Go.ChangeShapes Go.WideShapes Go.ChangeAt Go.RowKit Go.Joins Go.Deep
set_option linter.unusedSimpArgs false
set_option linter.unusedVariables false
set_option maxRecDepth 100000
set_option maxHeartbeats 4000000
theorem three_farC {w : World} {g a : Nat} {t : TypeId} {xs : List Value} {u0 u1 u2 : Value} (h : Whole w g t xs) (ne : a ≠ g) : Whole (((w.setCell ⟨a, 0, none⟩ u0).setCell ⟨a, 1, none⟩ u1).setCell ⟨a, 2, none⟩ u2) g t xs :=
  ((h.set_far ⟨a, 0, none⟩ u0 ne).set_far ⟨a, 1, none⟩ u1 ne).set_far ⟨a, 2, none⟩ u2 ne
end Go.Proofs.YtpfjbecpfdgnpabDoor
namespace Go.Proofs.YtpfjbecpfdgnpabDoor
open Go.ChangeShapes Go.WideShapes Go.ChangeAt Go.RowKit Go.Joins Go.Deep
set_option linter.unusedSimpArgs false
set_option linter.unusedVariables false
set_option maxRecDepth 100000
set_option maxHeartbeats 8000000
theorem Whole.rdA {w : World} {g : Nat} {t : TypeId} {xs rest : List Value} (h : Whole w g t (xs ++ rest)) : Rd w w.heap.size (some ⟨g, 0, none⟩) xs := Own.rd (t := t) (fun _ => ⟨g, rest, rfl, h⟩)
end Go.Proofs.YtpfjbecpfdgnpabDoor
namespace Go.Proofs.YtpfjbecpfdgnpabDoor
open Go.ChangeShapes Go.WideShapes Go.ChangeAt Go.RowKit Go.Joins Go.Deep
set_option linter.unusedSimpArgs false
set_option linter.unusedVariables false
set_option maxRecDepth 100000
set_option maxHeartbeats 8000000
end Go.Proofs.YtpfjbecpfdgnpabDoor
namespace Go.Proofs.YtpfjbecpfdgnpabDoor
open Go.ChangeShapes Go.WideShapes Go.ChangeAt Go.RowKit Go.Joins Go.Deep
set_option linter.unusedSimpArgs false
set_option linter.unusedVariables false
set_option maxRecDepth 100000
set_option maxHeartbeats 4000000
theorem impl_hasColumn (R C : Int) (A : Option Addr) (n cap : Nat) (j : Int) (w : World) :
    Calls Tryd.prog 39 #[.agg #[.int .i64 R, .int .i64 C, .slice A n cap], .int .i64 j] w fun e w' => e = .returned (.bool (decide (0 ≤ j ∧ j < C))) ∧ Below w.heap.size w w' := by
  have HE := Lib.hid (show decide (0 ≤ j ∧ j < C) = (decide (0 ≤ j) && decide (j < C)) by rw [Bool.eq_iff_iff]; simp)
  rewrite [HE.out]
  rcases Bool.eq_false_or_eq_true (decide (0 ≤ j)) with h0 | h0
  · have HD := Lib.hid h0
    rw [h0]
    have h1 := of_decide_eq_true h0
    clear HE
    go_enter Tryd.func39, Tryd.ntmps39
    go_wp2
    go_returns
    exact ⟨rfl, by (repeat' (first | (with_reducible exact Below.refl _ _) | (with_reducible assumption) | (with_reducible refine Below.alloc ?_ ?_ _) | (with_reducible refine Below.setCell ?_ ?_ _) | (with_reducible refine Below.drew ?_) | (with_reducible refine below_drewN ?_ _) | (with_reducible refine Below.trans ?_ (Below.mono (by assumption) ?_)) | (with_reducible exact Nat.le_refl _) | (simp; done) | omega | (simp at *; omega)))⟩
  · have h1 := of_decide_eq_false h0
    rw [h0]
    clear HE
    go_enter Tryd.func39, Tryd.ntmps39
    go_wp2
    go_returns
    exact ⟨rfl, by (repeat' (first | (with_reducible exact Below.refl _ _) | (with_reducible assumption) | (with_reducible refine Below.alloc ?_ ?_ _) | (with_reducible refine Below.setCell ?_ ?_ _) | (with_reducible refine Below.drew ?_) | (with_reducible refine below_drewN ?_ _) | (with_reducible refine Below.trans ?_ (Below.mono (by assumption) ?_)) | (with_reducible exact Nat.le_refl _) | (simp; done) | omega | (simp at *; omega)))⟩
def wayI (c : Nat) (wy : List (List Nat)) : List Int := wy.map fun p => ((p.getD 0 0 * c + p.getD 1 0 : Nat) : Int)
theorem wayI_len (c : Nat) (wy : List (List Nat)) : (wayI c wy).length = wy.length := by simp [wayI]
theorem wayI_push (c : Nat) (wy : List (List Nat)) (k cl : Nat) : ints (wayI c (wy ++ [[k, cl]])) = ints (wayI c wy) ++ [.int .i64 ((k * c + cl : Nat) : Int)] := by
  simp [wayI, ints]
/-- What letFall leaves behind: the cells met, the end, and its cells turned. -/
def PostM (w : World) (g5 : Nat) (rest5 : List Value) (c : Nat) (F : FlR) (e : Ending) (w' : World) : Prop :=
  ∃ A cp, e = .returned (.tuple #[.slice A F.way.length cp, .agg #[.int .i64 F.e, .int .i64 F.row, .int .i64 F.col]]) ∧ Own w' A 3 (ints (wayI c F.way)) ∧ New w A ∧ Whole w' g5 71 (flat F.cells ++ rest5) ∧ w.grownBy w' (some g5)
theorem gb_far {w v : World} {g : Nat} (h : w.grownBy v (some g)) {p : Addr} (hp : w.heap.size ≤ p.block) (u : Value) : w.grownBy (v.setCell p u) (some g) :=
  ⟨h.os, h.tape, h.output, by rw [World.size_setCell]; exact h.size, fun k hk hne => (Below.heap_setCell _ _ _ _ (by omega)).trans (h.block k hk hne)⟩
theorem gb_grown {w v v' : World} {g : Nat} {row : Option Nat} (h : w.grownBy v (some g)) (hg : v.grownBy v' row) (hrow : ∀ k, row = some k → w.heap.size ≤ k) : w.grownBy v' (some g) :=
  ⟨hg.os.trans h.os, hg.tape.trans h.tape, hg.output.trans h.output, Nat.le_trans h.size hg.size, fun k hk hne => (hg.block k (Nat.lt_of_lt_of_le hk h.size) (fun e => by have := hrow k e.symm; omega)).trans (h.block k hk hne)⟩
theorem gb_same {w v v' : World} {g : Nat} (h : w.grownBy v (some g)) (hg : v.grownBy v' (some g)) : w.grownBy v' (some g) :=
  ⟨hg.os.trans h.os, hg.tape.trans h.tape, hg.output.trans h.output, Nat.le_trans h.size hg.size, fun k hk hne => (hg.block k (Nat.lt_of_lt_of_le hk h.size) hne).trans (h.block k hk hne)⟩
theorem run_make_ints0 (n : Nat) (hn : n ≤ 1048576) (w : World) :
    (Instr.makeSlice 40 (.int .i64 0) (.int .i64 (n : Int))).run Tryd.prog w = .ok (.slice (some ⟨w.heap.size, 0, none⟩) 0 n) (w.alloc (.cells (zrow n).toArray 3)) := by
  obtain ⟨i0, hi, hz0, hz1, hz2⟩ := info_parts intInfo
  have h := run_make (P := Tryd.prog) w 40 3 i0 _ Tryd.underlying40 hi hz0 .i64 .i64 0 (n : Int) (by omega) (by omega) (by rw [hz2]; omega) (by omega)
  rw [hz1] at h
  simp only [Int.toNat_natCast] at h
  rw [h, made_ints]
  rfl
theorem row_far3 {w : World} {base : Nat} {e : TypeId} {size n : Nat} {v : Value} {xs : List Value} (h : w.ownsRow base e size v n xs) {a : Nat} (hne : some a ≠ v.ownBlock) (u0 u1 u2 : Value) : (((w.setCell ⟨a, 0, none⟩ u0).setCell ⟨a, 1, none⟩ u1).setCell ⟨a, 2, none⟩ u2).ownsRow base e size v n xs := by
  have one : ∀ {w : World} (p : Addr) (u : Value), w.ownsRow base e size v n xs → some p.block ≠ v.ownBlock → (w.setCell p u).ownsRow base e size v n xs := fun {w} p u h hne => by
    refine ⟨h.1, ?_⟩
    rcases h.2 with h2 | ⟨g, cap, cur, rfl, h2, hh, h3⟩
    · exact .inl h2
    · have hne' : g ≠ p.block := fun e' => hne (by simp [Value.ownBlock, e'])
      exact .inr ⟨g, cap, cur, rfl, h2, (Below.heap_setCell w p u g hne').trans hh, h3⟩
  exact one ⟨a, 2, none⟩ u2 (one ⟨a, 1, none⟩ u1 (one ⟨a, 0, none⟩ u0 h hne) hne) hne
theorem PostM.drew {w w' : World} {g5 : Nat} {rest5 : List Value} {c : Nat} {F : FlR} {e : Ending} (h : PostM w g5 rest5 c F e w') : PostM w g5 rest5 c F e w'.drew := by
  obtain ⟨A, cp, h1, h2, h3, h4, h5⟩ := h
  exact ⟨A, cp, h1, h2.keep ((Below.refl _ _).drew), h3, h4.below ((Below.refl _ _).drew) h4.lt, gb_below h5 ((Below.refl _ _).drew)⟩
end Go.Proofs.YtpfjbecpfdgnpabDoor
namespace Go.Proofs.YtpfjbecpfdgnpabDoor
open Go.ChangeShapes Go.WideShapes Go.ChangeAt Go.RowKit Go.Joins Go.Deep
set_option linter.unusedSimpArgs false
set_option linter.unusedVariables false
set_option maxRecDepth 100000
set_option maxHeartbeats 4000000
/-- What fallAlone hands back: the cells met, and the end; nothing that was there has changed. -/
def PostN (w : World) (c : Nat) (F : FlR) (e : Ending) (w' : World) : Prop :=
  ∃ A cp, e = .returned (.tuple #[.slice A F.way.length cp, .agg #[.int .i64 F.e, .int .i64 F.row, .int .i64 F.col]]) ∧ Own w' A 3 (ints (wayI c F.way)) ∧ New w A ∧ Below w.heap.size w w'
theorem inI_lt {C x : Int} : inI 0 (C - 1) x = decide (0 ≤ x ∧ x < C) := by
  unfold inI
  rw [Bool.eq_iff_iff]
  simp
  omega
theorem okC'_one (R C : Int) (l : List (Int × Int)) (j : Int) : okC' R C l [j] = okF R C l j := by
  unfold okC' okF allI
  rw [List.all_cons, List.all_nil, Bool.and_true, inI_lt]
  simp
theorem impl_areEntries (R C : Int) (A : Option Addr) (cap : Nat) (l : List (Int × Int)) (A' : Option Addr) (cap' : Nat) (cs : List Int) (w : World) (hn : l.length ≤ 1048576) (hn' : cs.length ≤ 1048576) (hr : Rd w w.heap.size A (flat l)) (hr' : Rd w w.heap.size A' (ints cs)) :
    Calls Tryd.prog 25 #[.agg #[.int .i64 R, .int .i64 C, .slice A l.length cap], .slice A' cs.length cap'] w fun e w' => e = .returned (.bool (okC' R C l cs)) ∧ Below w.heap.size w w' := by
  unfold okC'
  rcases Bool.eq_false_or_eq_true (goodB R C l) with hg | hg
  · have HG := Lib.hid hg
    rw [hg]
    clear hg
    by_cases h60 : cs.length ≤ 60
    · have hd : decide ((60 : Int) < (cs.length : Int)) = false := by simp; omega
      have HE := Lib.hid (show (true && decide (cs.length ≤ 60) && allI 0 (C - 1) cs) = allI 0 (C - 1) cs by rw [decide_eq_true h60]; rfl)
      rewrite [HE.out]
      have HB := Lib.hid (fun k (hk : k < cs.length) h => allI_bad (lo := 0) (hi := C - 1) hk h)
      have HAl := Lib.hid (fun (h : ∀ k (hk : k < cs.length), inI 0 (C - 1) cs[k] = true) => (show allI 0 (C - 1) cs = true from by
        unfold allI
        rw [List.all_eq_true]
        intro x hx
        obtain ⟨k, hk, rfl⟩ := List.mem_iff_getElem.1 hx
        exact h k hk))
      clear HE
      go_enter Tryd.func25, Tryd.ntmps25
      obtain ⟨v0, hv0⟩ : ∃ v, v = w.alloc (.cells #[.int .i64 R, .int .i64 C, .slice A l.length cap] 32) := ⟨_, rfl⟩; have X0 : Whole v0 w.heap.size 32 [.int .i64 R, .int .i64 C, .slice A l.length cap] := (by rw [hv0]; exact heap_alloc_new w _); have hb : Below w.heap.size w v0 := (by rw [hv0]; exact (Below.refl _ _).alloc (Nat.le_refl _) _); have HV := Lib.hid hv0.symm; clear hv0; go_upto_region 1 with (fail); rewrite [HV.out]; clear HV; have X0k0 : v0.cell? ⟨w.heap.size, 0, none⟩ = some (.int .i64 R) := (X0.cell 0).trans rfl; have X0k1 : v0.cell? ⟨w.heap.size, 1, none⟩ = some (.int .i64 C) := (X0.cell 1).trans rfl; have X0k2 : v0.cell? ⟨w.heap.size, 2, none⟩ = some (.slice A l.length cap) := (X0.cell 2).trans rfl
      go_wp2_with fail
      refine (impl_IsBoard _ _ _ _ l _ hn ((hr.below hb).mono hb.size)).mono ?_; rintro e w1 ⟨rfl, b1⟩
      rewrite [HG.out]
      (clear X0k0 X0k1 X0k2; replace X0 := X0.below b1 X0.lt; replace hb := hb.trans (b1.mono hb.size); clear b1; have X0k0 : w1.cell? ⟨w.heap.size, 0, none⟩ = some (.int .i64 R) := (X0.cell 0).trans rfl; have X0k1 : w1.cell? ⟨w.heap.size, 1, none⟩ = some (.int .i64 C) := (X0.cell 1).trans rfl; have X0k2 : w1.cell? ⟨w.heap.size, 2, none⟩ = some (.slice A l.length cap) := (X0.cell 2).trans rfl)
      clear X0k0 X0k1 X0k2
      go_wp2
      go_loopw [17] (fun i wr => ∃ k : Nat, i = .int .i64 k ∧ k ≤ cs.length ∧ (∀ j (hj : j < cs.length), j < k → inI 0 (C - 1) cs[j] = true) ∧ Whole wr w.heap.size 32 [.int .i64 R, .int .i64 C, .slice A l.length cap] ∧ Below w.heap.size w wr) (fun i _ => cs.length - (intOf i).toNat)
      case atStart => exact ⟨0, rfl, Nat.zero_le _, fun j _ h => absurd h (Nat.not_lt_zero j), X0, hb⟩
      case round =>
        clear X0 hb
        obtain ⟨k, rfl, hk, hall, X0, hb⟩ := hrel
        by_cases hlt : k < cs.length
        · obtain ⟨b, o, rfl, hbl, hc⟩ := hr' (by rw [ints_length]; omega)
          have hck := (hb.cell (p := ⟨b, o + k, none⟩) hbl).trans (hc k _ (ints_at cs k hlt))
          have HBk := Lib.hid (HB.out k hlt)
          have hall' : inI 0 (C - 1) cs[k] = true → ∀ j (hj : j < cs.length), j < k + 1 → inI 0 (C - 1) cs[j] = true := fun h j hj hjk => by
            rcases Nat.lt_or_eq_of_le (Nat.lt_succ_iff.1 hjk) with h1 | rfl
            · exact hall j hj h1
            · exact h
          have HAk := Lib.hid hall'
          have HI := Lib.hid (inI_lt (C := C) (x := cs[k]))
          clear hall hall' hc
          generalize hx : cs[k] = x at *
          have X0k0 : wr.cell? ⟨w.heap.size, 0, none⟩ = some (.int .i64 R) := (X0.cell 0).trans rfl; have X0k1 : wr.cell? ⟨w.heap.size, 1, none⟩ = some (.int .i64 C) := (X0.cell 1).trans rfl; have X0k2 : wr.cell? ⟨w.heap.size, 2, none⟩ = some (.slice A l.length cap) := (X0.cell 2).trans rfl
          go_wp2_with fail
          refine (impl_hasColumn _ _ _ _ _ _ _).mono ?_; rintro e w2 ⟨rfl, b2⟩
          clear X0k0 X0k1 X0k2
          replace X0 := X0.below b2 X0.lt
          replace hb := hb.trans (b2.mono hb.size)
          clear b2
          rewrite [← HI.out]
          rcases Bool.eq_false_or_eq_true (inI 0 (C - 1) x) with h | h
          · rewrite [h]
            have HA2 := Lib.hid (HAk.out h)
            clear h hck
            go_wp2
            go_roundw
            case rel => exact ⟨k + 1, by go_num, by omega, HA2.out, X0, hb⟩
            case measure => simp [intOf]; omega
          · rewrite [h]
            have HB2 := Lib.hid (HBk.out h)
            clear h hck
            go_wp2
            go_returns
            exact ⟨by rw [HB2.out]; rfl, hb⟩
        · obtain rfl : k = cs.length := by omega
          have HA2 := Lib.hid (HAl.out (fun j hj => hall j hj hj))
          clear hall
          go_wp2
          go_returns
          exact ⟨by rw [HA2.out]; rfl, hb⟩
    · have hd : decide ((60 : Int) < (cs.length : Int)) = true := by simp; omega
      have HE := Lib.hid (show (true && decide (cs.length ≤ 60) && allI 0 (C - 1) cs) = false by rw [decide_eq_false h60]; rfl)
      go_enter Tryd.func25, Tryd.ntmps25
      obtain ⟨v0, hv0⟩ : ∃ v, v = w.alloc (.cells #[.int .i64 R, .int .i64 C, .slice A l.length cap] 32) := ⟨_, rfl⟩; have X0 : Whole v0 w.heap.size 32 [.int .i64 R, .int .i64 C, .slice A l.length cap] := (by rw [hv0]; exact heap_alloc_new w _); have hb : Below w.heap.size w v0 := (by rw [hv0]; exact (Below.refl _ _).alloc (Nat.le_refl _) _); have HV := Lib.hid hv0.symm; clear hv0; go_upto_region 1 with (fail); rewrite [HV.out]; clear HV; have X0k0 : v0.cell? ⟨w.heap.size, 0, none⟩ = some (.int .i64 R) := (X0.cell 0).trans rfl; have X0k1 : v0.cell? ⟨w.heap.size, 1, none⟩ = some (.int .i64 C) := (X0.cell 1).trans rfl; have X0k2 : v0.cell? ⟨w.heap.size, 2, none⟩ = some (.slice A l.length cap) := (X0.cell 2).trans rfl
      go_wp2_with fail
      refine (impl_IsBoard _ _ _ _ l _ hn ((hr.below hb).mono hb.size)).mono ?_; rintro e w1 ⟨rfl, b1⟩
      rewrite [HG.out]
      (clear X0k0 X0k1 X0k2; replace X0 := X0.below b1 X0.lt; replace hb := hb.trans (b1.mono hb.size); clear b1; have X0k0 : w1.cell? ⟨w.heap.size, 0, none⟩ = some (.int .i64 R) := (X0.cell 0).trans rfl; have X0k1 : w1.cell? ⟨w.heap.size, 1, none⟩ = some (.int .i64 C) := (X0.cell 1).trans rfl; have X0k2 : w1.cell? ⟨w.heap.size, 2, none⟩ = some (.slice A l.length cap) := (X0.cell 2).trans rfl)
      go_wp2
      go_returns
      exact ⟨by rw [HE.out]; rfl, by (repeat' (first | (with_reducible exact Below.refl _ _) | (with_reducible assumption) | (with_reducible refine Below.alloc ?_ ?_ _) | (with_reducible refine Below.setCell ?_ ?_ _) | (with_reducible refine Below.drew ?_) | (with_reducible refine below_drewN ?_ _) | (with_reducible refine Below.trans ?_ (Below.mono (by assumption) ?_)) | (with_reducible exact Nat.le_refl _) | (simp; done) | omega | (simp at *; omega)))⟩
  · have HG := Lib.hid hg
    rw [hg]
    clear hg
    go_enter Tryd.func25, Tryd.ntmps25
    obtain ⟨v0, hv0⟩ : ∃ v, v = w.alloc (.cells #[.int .i64 R, .int .i64 C, .slice A l.length cap] 32) := ⟨_, rfl⟩; have X0 : Whole v0 w.heap.size 32 [.int .i64 R, .int .i64 C, .slice A l.length cap] := (by rw [hv0]; exact heap_alloc_new w _); have hb : Below w.heap.size w v0 := (by rw [hv0]; exact (Below.refl _ _).alloc (Nat.le_refl _) _); have HV := Lib.hid hv0.symm; clear hv0; go_upto_region 1 with (fail); rewrite [HV.out]; clear HV; have X0k0 : v0.cell? ⟨w.heap.size, 0, none⟩ = some (.int .i64 R) := (X0.cell 0).trans rfl; have X0k1 : v0.cell? ⟨w.heap.size, 1, none⟩ = some (.int .i64 C) := (X0.cell 1).trans rfl; have X0k2 : v0.cell? ⟨w.heap.size, 2, none⟩ = some (.slice A l.length cap) := (X0.cell 2).trans rfl
    go_wp2_with fail
    refine (impl_IsBoard _ _ _ _ l _ hn ((hr.below hb).mono hb.size)).mono ?_; rintro e w1 ⟨rfl, b1⟩
    rewrite [HG.out]
    (clear X0k0 X0k1 X0k2; replace X0 := X0.below b1 X0.lt; replace hb := hb.trans (b1.mono hb.size); clear b1; have X0k0 : w1.cell? ⟨w.heap.size, 0, none⟩ = some (.int .i64 R) := (X0.cell 0).trans rfl; have X0k1 : w1.cell? ⟨w.heap.size, 1, none⟩ = some (.int .i64 C) := (X0.cell 1).trans rfl; have X0k2 : w1.cell? ⟨w.heap.size, 2, none⟩ = some (.slice A l.length cap) := (X0.cell 2).trans rfl)
    go_wp2
    go_returns
    exact ⟨rfl, by (repeat' (first | (with_reducible exact Below.refl _ _) | (with_reducible assumption) | (with_reducible refine Below.alloc ?_ ?_ _) | (with_reducible refine Below.setCell ?_ ?_ _) | (with_reducible refine Below.drew ?_) | (with_reducible refine below_drewN ?_ _) | (with_reducible refine Below.trans ?_ (Below.mono (by assumption) ?_)) | (with_reducible exact Nat.le_refl _) | (simp; done) | omega | (simp at *; omega)))⟩
theorem impl_areEntries1 (R C : Int) (A : Option Addr) (cap : Nat) (l : List (Int × Int)) (j : Int) (g : Nat) (w : World) (hn : l.length ≤ 1048576) (hr : Rd w w.heap.size A (flat l)) (hg : Whole w g 3 [.int .i64 j]) :
    Calls Tryd.prog 25 #[.agg #[.int .i64 R, .int .i64 C, .slice A l.length cap], .slice (some ⟨g, 0, none⟩) 1 1] w fun e w' => e = .returned (.bool (okF R C l j)) ∧ Below w.heap.size w w' := by
  rw [← okC'_one]
  exact impl_areEntries R C A cap l (some ⟨g, 0, none⟩) 1 [j] w hn (by simp) hr (hg.rd hg.lt)
end Go.Proofs.YtpfjbecpfdgnpabDoor
namespace Go.Proofs.YtpfjbecpfdgnpabDoor
open Go.ChangeShapes Go.WideShapes Go.ChangeAt Go.RowKit Go.Joins Go.Deep
set_option linter.unusedSimpArgs false
set_option linter.unusedVariables false
set_option maxRecDepth 100000
set_option maxHeartbeats 4000000
theorem okF_parts {R C : Int} {l : List (Int × Int)} {j : Int} (h : okF R C l j = true) : goodB R C l = true ∧ 0 ≤ j ∧ j < C := by
  unfold okF at h
  rw [Bool.and_eq_true, decide_eq_true_eq] at h
  exact h
theorem ret_fb {a b c a' b' c' : Int} {x y : Bool} (h1 : a = a') (h2 : b = b') (h3 : c = c') (h4 : x = y) : Ending.returned (.tuple #[.agg #[.int .i64 a, .int .i64 b, .int .i64 c], .bool x]) = .returned (.tuple #[.agg #[.int .i64 a', .int .i64 b', .int .i64 c'], .bool y]) := by rw [h1, h2, h3, h4]
def afterL (R C : Int) (l : List (Int × Int)) (j : Int) : List (Int × Int) := if okF R C l j then (marO R C l j).cells else []
theorem flG_len (nm : List Int) (r c : Nat) : ∀ (n row : Nat) (l : List (Int × Int)) (col : Nat) (side : Int) (way : List (List Nat)), (flG nm r c n row l col side way).cells.length = l.length
  | 0, _, _, _, _, _ => rfl
  | n + 1, row, l, col, side, way => by
    rw [flG_step nm r c n row l col side way _ _ rfl rfl]
    split
    · rfl
    · split
      · rw [flG_len nm r c n, passL_len]
      · exact passL_len _ _ _
theorem marO_len (R C : Int) (l : List (Int × Int)) (j : Int) : (marO R C l j).cells.length = l.length := flG_len _ _ _ _ _ _ _ _ _
theorem afterL_len (R C : Int) (l : List (Int × Int)) (j : Int) (hn : l.length ≤ 1048576) : (afterL R C l j).length ≤ 1048576 := by
  unfold afterL
  split
  · rw [marO_len]; exact hn
  · simp
end Go.Proofs.YtpfjbecpfdgnpabDoor
namespace Go.Proofs.YtpfjbecpfdgnpabDoor
open Go.ChangeShapes Go.WideShapes Go.ChangeAt Go.RowKit Go.Joins Go.Deep
set_option linter.unusedSimpArgs false
set_option linter.unusedVariables false
set_option maxRecDepth 100000
set_option maxHeartbeats 4000000
theorem flG_good (nm : List Int) (r c : Nat) : ∀ (n row : Nat) (l : List (Int × Int)) (col : Nat) (side : Int) (way : List (List Nat)), l.length = r * c → row + n ≤ r → col < c → (∀ x ∈ l, good x.1 x.2 = true) → ∀ x ∈ (flG nm r c n row l col side way).cells, good x.1 x.2 = true
  | 0, _, l, _, _, _, _, _, _, h => h
  | n + 1, row, l, col, side, way, hl, hrow, hcol, h => by
    have hi : row * c + col < l.length := by
      rw [hl]
      have h1 := Nat.mul_le_mul (show row + 1 ≤ r by omega) (Nat.le_refl c)
      rw [Nat.succ_mul] at h1
      omega
    rw [flG_step nm r c n row l col side way _ _ rfl rfl]
    split
    · exact h
    · split
      · next hin => exact flG_good nm r c n (row + 1) _ _ _ _ (by rw [passL_len]; exact hl) (by omega) (by omega) (passL_good hi h)
      · exact passL_good hi h
/-- The ends of the first k marbles, and the cells after them. -/
def stA (nm : List Int) (r c : Nat) (l : List (Int × Int)) (cs : List Int) : Nat → List (Int × Int × Int) × List (Int × Int)
  | 0 => ([], l)
  | k + 1 => ((stA nm r c l cs k).1 ++ [((flG nm r c r 0 (stA nm r c l cs k).2 (cs.getD k 0).toNat 0 []).e, (flG nm r c r 0 (stA nm r c l cs k).2 (cs.getD k 0).toNat 0 []).row, (flG nm r c r 0 (stA nm r c l cs k).2 (cs.getD k 0).toNat 0 []).col)],
      (flG nm r c r 0 (stA nm r c l cs k).2 (cs.getD k 0).toNat 0 []).cells)
theorem stA_len (nm : List Int) (r c : Nat) (l : List (Int × Int)) (cs : List Int) : ∀ k, (stA nm r c l cs k).1.length = k ∧ (stA nm r c l cs k).2.length = l.length
  | 0 => ⟨rfl, rfl⟩
  | k + 1 => by
    obtain ⟨h1, h2⟩ := stA_len nm r c l cs k
    unfold stA
    exact ⟨by rw [List.length_append, h1]; rfl, by rw [flG_len]; exact h2⟩
theorem stA_good (nm : List Int) {r c : Nat} {l : List (Int × Int)} {cs : List Int} (hl : l.length = r * c) (h : ∀ x ∈ l, good x.1 x.2 = true) (hcs : ∀ k, k < cs.length → 0 ≤ cs.getD k 0 ∧ cs.getD k 0 < c) : ∀ k, k ≤ cs.length → ∀ x ∈ (stA nm r c l cs k).2, good x.1 x.2 = true
  | 0, _ => h
  | k + 1, hk => by
    have ih := stA_good nm hl h hcs k (by omega)
    have hc := hcs k (by omega)
    unfold stA
    exact flG_good nm r c r 0 _ _ _ _ (by rw [(stA_len nm r c l cs k).2]; exact hl) (by omega) (by omega) ih
/-- Rows of ends. -/
def flatF (fs : List (Int × Int × Int)) : List Value := fs.flatMap fun f => [.int .i64 f.1, .int .i64 f.2.1, .int .i64 f.2.2]
theorem flatF_len (fs : List (Int × Int × Int)) : (flatF fs).length = fs.length * 3 := by
  unfold flatF
  induction fs with
  | nil => rfl
  | cons f fs ih => rw [List.flatMap_cons, List.length_append, ih, List.length_cons]; simp; omega
theorem flatF_app (a b : List (Int × Int × Int)) : flatF (a ++ b) = flatF a ++ flatF b := by unfold flatF; rw [List.flatMap_append]
theorem allI_at {lo hi : Int} {cs : List Int} (h : allI lo hi cs = true) : ∀ k, k < cs.length → lo ≤ cs.getD k 0 ∧ cs.getD k 0 ≤ hi := fun k hk => by
  unfold allI at h
  have := List.all_eq_true.1 h _ (List.getElem_mem hk)
  unfold inI at this
  rw [List.getD_eq_getElem?_getD, List.getElem?_eq_getElem hk]
  simpa using this
end Go.Proofs.YtpfjbecpfdgnpabDoor
namespace Go.Proofs.YtpfjbecpfdgnpabDoor
open Go.ChangeShapes Go.WideShapes Go.ChangeAt Go.RowKit Go.Joins Go.Deep
set_option linter.unusedSimpArgs false
set_option linter.unusedVariables false
set_option maxRecDepth 100000
set_option maxHeartbeats 4000000
theorem three_cells3 {w : World} {o o' : Obj} {x y z : Value} {t : TypeId} : ∀ j u, [x, y, z][j]? = some u → (((w.alloc o).alloc o').alloc (.cells #[x, y, z] t)).cell? ((⟨w.heap.size + 1 + 1, 0, none⟩ : Addr).add j) = some u := by
  intro j u h
  have hn := heap_alloc_new ((w.alloc o).alloc o') (.cells #[x, y, z] t)
  rw [World.size_alloc, World.size_alloc] at hn
  have hw : Whole (((w.alloc o).alloc o').alloc (.cells #[x, y, z] t)) (w.heap.size + 1 + 1) t [x, y, z] := hn
  have hj := hw.cell j
  rw [h] at hj
  rw [← hj]
  by_cases h0 : j = 0
  · subst h0; simp [Addr.add]
  · simp [Addr.add, h0]
theorem three_oneF {a b c : Int} : ∀ u ∈ [Value.int .i64 a, Value.int .i64 b, Value.int .i64 c], u.oneCell' = true := by
  intro u hu
  simp only [List.mem_cons, List.not_mem_nil, or_false] at hu
  rcases hu with rfl | rfl | rfl <;> rfl
theorem three_farTB {w : World} {g a : Nat} {t : TypeId} {xs : List Value} {u0 u1 : Value} {B : Option Addr} {n cp : Nat} (h : Whole w g t xs) (hw : Whole w a 32 [.int .i64 0, .int .i64 0, .slice none 0 0]) (hne : t ≠ 32) : Whole (((w.setCell ⟨a, 0, none⟩ u0).setCell ⟨a, 1, none⟩ u1).setCell ⟨a, 2, none⟩ (.slice B n cp)) g t xs := by
  refine three_far h (fun e => ?_)
  subst e
  unfold Whole at h hw
  rw [h] at hw
  injection hw with hw
  injection hw with _ ht
  exact hne ht
theorem far_of {w : World} {g a : Nat} {t t' : TypeId} {xs ys : List Value} (h : Whole w g t xs) (hw : Whole w a t' ys) (hne : t ≠ t') : a ≠ g := by
  rintro rfl
  unfold Whole at h hw
  rw [h] at hw
  injection hw with hw
  injection hw with _ ht
  exact hne ht
theorem row_setFarW {w : World} {base : Nat} {e : TypeId} {size n : Nat} {v : Value} {xs : List Value} (h : w.ownsRow base e size v n xs) (p : Addr) (u : Value) (hne : some p.block ≠ v.ownBlock) : (w.setCell p u).ownsRow base e size v n xs := by
  refine ⟨h.1, ?_⟩
  rcases h.2 with h2 | ⟨g, cap, cur, rfl, h2, hh, h3⟩
  · exact .inl h2
  · have hne' : g ≠ p.block := fun e' => hne (by simp [Value.ownBlock, e'])
    exact .inr ⟨g, cap, cur, rfl, h2, (Below.heap_setCell w p u g hne').trans hh, h3⟩
end Go.Proofs.YtpfjbecpfdgnpabDoor
namespace Go.Proofs.YtpfjbecpfdgnpabDoor
open Go.ChangeShapes Go.WideShapes Go.ChangeAt Go.RowKit Go.Joins Go.Deep
set_option linter.unusedSimpArgs false
set_option linter.unusedVariables false
set_option maxRecDepth 100000
set_option maxHeartbeats 4000000
theorem okC'_parts {R C : Int} {l : List (Int × Int)} {cs : List Int} (h : okC' R C l cs = true) : goodB R C l = true ∧ cs.length ≤ 60 ∧ allI 0 (C - 1) cs = true := by
  unfold okC' at h
  simp only [Bool.and_eq_true, decide_eq_true_eq] at h
  exact ⟨h.1.1, h.1.2, h.2⟩
theorem row_base {w : World} {base base' : Nat} {e : TypeId} {size n : Nat} {v : Value} {xs : List Value} (h : w.ownsRow base e size v n xs) (hb : base' ≤ base) : w.ownsRow base' e size v n xs :=
  ⟨h.1, h.2.imp_right fun ⟨g, cap, cur, e1, e2, e3⟩ => ⟨g, cap, cur, e1, Nat.le_trans hb e2, e3⟩⟩
def fallsO (R C : Int) (l : List (Int × Int)) (cs : List Int) : List (Int × Int × Int) × List (Int × Int) := if okC' R C l cs then stA (numL C.toNat l) R.toNat C.toNat l cs cs.length else ([], [])
end Go.Proofs.YtpfjbecpfdgnpabDoor
namespace Go.Proofs.YtpfjbecpfdgnpabDoor
open Go.ChangeShapes Go.WideShapes Go.ChangeAt Go.RowKit Go.Joins Go.Deep
set_option linter.unusedSimpArgs false
set_option linter.unusedVariables false
set_option maxRecDepth 100000
set_option maxHeartbeats 4000000
def colsTo (R C : Int) (l : List (Int × Int)) (j : Int) : Nat → List Int
  | 0 => []
  | k + 1 => if (marO R C l k).e = 1 then (if (marO R C l k).col = j then colsTo R C l j k ++ [(k : Int)] else colsTo R C l j k) else colsTo R C l j k
theorem colsTo_le (R C : Int) (l : List (Int × Int)) (j : Int) (k : Nat) : (colsTo R C l j k).length ≤ k := by
  induction k with
  | zero => exact Nat.le_refl 0
  | succ k ih =>
    unfold colsTo
    split
    · split
      · rw [List.length_append, List.length_singleton]; omega
      · omega
    · omega
theorem colsTo_yes {R C : Int} {l : List (Int × Int)} {j : Int} {k : Nat} (h : (marO R C l k).e = 1) (h' : (marO R C l k).col = j) : ints (colsTo R C l j (k + 1)) = ints (colsTo R C l j k) ++ [.int .i64 (k : Int)] ∧ (colsTo R C l j (k + 1)).length = (colsTo R C l j k).length + 1 := by
  have e : colsTo R C l j (k + 1) = colsTo R C l j k ++ [(k : Int)] := by
    rw [colsTo, if_pos h, if_pos h']
  rw [e]
  simp [ints]
theorem colsTo_no {R C : Int} {l : List (Int × Int)} {j : Int} {k : Nat} (h : ¬ ((marO R C l k).e = 1 ∧ (marO R C l k).col = j)) : colsTo R C l j (k + 1) = colsTo R C l j k := by
  rw [colsTo]
  by_cases h1 : (marO R C l k).e = 1
  · rw [if_pos h1, if_neg (fun h2 => h ⟨h1, h2⟩)]
  · rw [if_neg h1]
def colsO (R C : Int) (l : List (Int × Int)) (j : Int) : List Int := if okF R C l j then colsTo R C l j C.toNat else []
end Go.Proofs.YtpfjbecpfdgnpabDoor
namespace Go.Proofs.YtpfjbecpfdgnpabDoor
open Go.ChangeShapes Go.WideShapes Go.ChangeAt Go.RowKit Go.Joins Go.Deep
set_option linter.unusedSimpArgs false
set_option linter.unusedVariables false
set_option maxRecDepth 100000
set_option maxHeartbeats 4000000
def feq (R C : Int) (l : List (Int × Int)) (R' C' : Int) (m : List (Int × Int)) (k : Nat) : Bool := decide ((marO R C l k).e = (marO R' C' m k).e ∧ (marO R C l k).row = (marO R' C' m k).row ∧ (marO R C l k).col = (marO R' C' m k).col)
def feqTo (R C : Int) (l : List (Int × Int)) (R' C' : Int) (m : List (Int × Int)) : Nat → Bool
  | 0 => true
  | k + 1 => feqTo R C l R' C' m k && feq R C l R' C' m k
theorem feqTo_no {R C : Int} {l : List (Int × Int)} {R' C' : Int} {m : List (Int × Int)} {k : Nat} (h : feq R C l R' C' m k = false) : ∀ n, k < n → feqTo R C l R' C' m n = false
  | n + 1, hn => by
    rw [feqTo]
    by_cases hk : k = n
    · subst hk; rw [h, Bool.and_false]
    · rw [feqTo_no h n (by omega), Bool.false_and]
theorem feqTo_yes {R C : Int} {l : List (Int × Int)} {R' C' : Int} {m : List (Int × Int)} {k : Nat} (hF : feqTo R C l R' C' m k = true) (h : (marO R C l k).e = (marO R' C' m k).e ∧ (marO R C l k).row = (marO R' C' m k).row ∧ (marO R C l k).col = (marO R' C' m k).col) : feqTo R C l R' C' m (k + 1) = true := by
  rw [feqTo, hF, Bool.true_and]
  exact decide_eq_true h
theorem feqTo_not {R C : Int} {l : List (Int × Int)} {R' C' : Int} {m : List (Int × Int)} {k n : Nat} (hk : k < n) (h : ¬ ((marO R C l k).e = (marO R' C' m k).e ∧ (marO R C l k).row = (marO R' C' m k).row ∧ (marO R C l k).col = (marO R' C' m k).col)) : feqTo R C l R' C' m n = false :=
  feqTo_no (decide_eq_false h) n hk
def okS (R C : Int) (l : List (Int × Int)) (R' C' : Int) (m : List (Int × Int)) : Bool := goodB R C l && goodB R' C' m && decide (C = C')
def sameF (R C : Int) (l : List (Int × Int)) (R' C' : Int) (m : List (Int × Int)) : Bool := okS R C l R' C' m && feqTo R C l R' C' m C.toNat
theorem ret_bb {x y x' y' : Bool} (h : x = x') (h' : y = y') : Ending.returned (.tuple #[.bool x, .bool y]) = .returned (.tuple #[.bool x', .bool y']) := by rw [h, h']
end Go.Proofs.YtpfjbecpfdgnpabDoor
namespace Go.Proofs.YtpfjbecpfdgnpabDoor
open Go.ChangeShapes Go.WideShapes Go.ChangeAt Go.RowKit Go.Joins Go.Deep
set_option linter.unusedSimpArgs false
set_option linter.unusedVariables false
set_option maxRecDepth 100000
set_option maxHeartbeats 4000000
def okD (R C : Int) (l : List (Int × Int)) (R' C' : Int) (m : List (Int × Int)) (cs : List Int) : Bool := okC' R C l cs && goodB R' C' m && decide (C = C')
def firstAt (x y : List (Int × Int × Int)) : Nat → Nat → Option Nat
  | 0, _ => none
  | n + 1, k => if x.getD k (0, 0, 0) = y.getD k (0, 0, 0) then firstAt x y n (k + 1) else some k
theorem firstAt_same {x y : List (Int × Int × Int)} {n k : Nat} (h : k < n) (e : x.getD k (0, 0, 0) = y.getD k (0, 0, 0)) : firstAt x y (n - k) k = firstAt x y (n - (k + 1)) (k + 1) := by
  obtain ⟨d, hd⟩ : ∃ d, n - k = d + 1 := ⟨n - k - 1, by omega⟩
  rw [hd, firstAt, if_pos e, show n - (k + 1) = d by omega]
theorem firstAt_diff {x y : List (Int × Int × Int)} {n k : Nat} (h : k < n) (e : ¬ x.getD k (0, 0, 0) = y.getD k (0, 0, 0)) : firstAt x y (n - k) k = some k := by
  obtain ⟨d, hd⟩ : ∃ d, n - k = d + 1 := ⟨n - k - 1, by omega⟩
  rw [hd, firstAt, if_neg e]
theorem flatF_at (x : List (Int × Int × Int)) : ∀ k, k < x.length → (flatF x)[k * 3]? = some (.int .i64 (x.getD k (0, 0, 0)).1) ∧ (flatF x)[k * 3 + 1]? = some (.int .i64 (x.getD k (0, 0, 0)).2.1) ∧ (flatF x)[k * 3 + 2]? = some (.int .i64 (x.getD k (0, 0, 0)).2.2) := by
  induction x with
  | nil => intro k h; simp at h
  | cons a x ih =>
    intro k h
    have e : flatF (a :: x) = .int .i64 a.1 :: .int .i64 a.2.1 :: .int .i64 a.2.2 :: flatF x := rfl
    rw [e]
    cases k with
    | zero => exact ⟨rfl, rfl, rfl⟩
    | succ k =>
      obtain ⟨h0, h1, h2⟩ := ih k (by simpa using h)
      rw [show (k + 1) * 3 = k * 3 + 1 + 1 + 1 by omega]
      exact ⟨h0, h1, h2⟩
def firstD (R C : Int) (l : List (Int × Int)) (R' C' : Int) (m : List (Int × Int)) (cs : List Int) : Option Nat := if okD R C l R' C' m cs then firstAt (stA (numL C.toNat l) R.toNat C.toNat l cs cs.length).1 (stA (numL C'.toNat m) R'.toNat C'.toNat m cs cs.length).1 cs.length 0 else none
end Go.Proofs.YtpfjbecpfdgnpabDoor
namespace Go.Proofs.YtpfjbecpfdgnpabDoor
open Go.ChangeShapes Go.WideShapes Go.ChangeAt Go.RowKit Go.Joins Go.Deep
set_option linter.unusedSimpArgs false
set_option linter.unusedVariables false
set_option maxRecDepth 100000
set_option maxHeartbeats 4000000
end Go.Proofs.YtpfjbecpfdgnpabDoor
namespace Go.Proofs.YtpfjbecpfdgnpabDoor
open Go.ChangeShapes Go.WideShapes Go.ChangeAt Go.RowKit Go.Joins Go.Deep
set_option linter.unusedSimpArgs false
set_option linter.unusedVariables false
set_option maxRecDepth 100000
set_option maxHeartbeats 4000000
theorem flG_num (nm : List Int) (r c : Nat) : ∀ (n row : Nat) (l : List (Int × Int)) (col : Nat) (side : Int) (way : List (List Nat)), numL c (flG nm r c n row l col side way).cells = numL c l
  | 0, _, _, _, _, _ => rfl
  | n + 1, row, l, col, side, way => by
    rw [flG_step nm r c n row l col side way _ _ rfl rfl]
    split
    · rfl
    · split
      · rw [flG_num nm r c n, passL_num]
      · exact passL_num _ _ _ _
theorem stA_num (nm : List Int) (r c : Nat) (l : List (Int × Int)) (cs : List Int) : ∀ k, numL c (stA nm r c l cs k).2 = numL c l
  | 0 => rfl
  | k + 1 => by
    unfold stA
    rw [flG_num]
    exact stA_num nm r c l cs k
theorem two_cells3 {w : World} {o : Obj} {x y z : Value} {t : TypeId} : ∀ j u, [x, y, z][j]? = some u → ((w.alloc o).alloc (.cells #[x, y, z] t)).cell? ((⟨w.heap.size + 1, 0, none⟩ : Addr).add j) = some u := by
  intro j u h
  have hn := heap_alloc_new (w.alloc o) (.cells #[x, y, z] t)
  rw [World.size_alloc] at hn
  have hw : Whole ((w.alloc o).alloc (.cells #[x, y, z] t)) (w.heap.size + 1) t [x, y, z] := hn
  have hj := hw.cell j
  rw [h] at hj
  rw [← hj]
  by_cases h0 : j = 0
  · subst h0; simp [Addr.add]
  · simp [Addr.add, h0]
theorem fallsO_len (R C : Int) (l : List (Int × Int)) (cs : List Int) (hn : l.length ≤ 1048576) (hn' : cs.length ≤ 1048576) : (fallsO R C l cs).1.length ≤ 1048576 ∧ (fallsO R C l cs).2.length ≤ 1048576 := by
  unfold fallsO
  split
  · obtain ⟨h1, h2⟩ := stA_len (numL C.toNat l) R.toNat C.toNat l cs cs.length
    exact ⟨by rw [h1]; exact hn', by rw [h2]; exact hn⟩
  · exact ⟨by simp, by simp⟩
end Go.Proofs.YtpfjbecpfdgnpabDoor
namespace Go.Proofs.YtpfjbecpfdgnpabDoor
open Go.ChangeShapes Go.WideShapes Go.ChangeAt Go.RowKit Go.Joins Go.Deep
set_option linter.unusedSimpArgs false
set_option linter.unusedVariables false
set_option maxRecDepth 100000
set_option maxHeartbeats 4000000
theorem okD_and (R C : Int) (l : List (Int × Int)) (R' C' : Int) (m : List (Int × Int)) (cs : List Int) : okD R C l R' C' m cs = (okC' R C l cs && okC' R' C' m cs && decide (C = C')) := by
  unfold okD
  by_cases hC : C = C'
  · subst hC
    rw [decide_eq_true rfl, Bool.and_true, Bool.and_true]
    unfold okC'
    cases goodB R C l <;> cases goodB R' C m <;> cases decide (cs.length ≤ 60) <;> cases allI 0 (C - 1) cs <;> rfl
  · rw [decide_eq_false hC, Bool.and_false, Bool.and_false]
theorem firstD_falls {R C : Int} {l : List (Int × Int)} {R' C' : Int} {m : List (Int × Int)} {cs : List Int} (hc : okC' R C l cs = true) (hm : okC' R' C' m cs = true) (hC : C = C') : firstD R C l R' C' m cs = firstAt (fallsO R C l cs).1 (fallsO R' C' m cs).1 (fallsO R C l cs).1.length 0 := by
  have e : (fallsO R C l cs).1.length = cs.length := by unfold fallsO; rw [hc, if_pos rfl]; exact (stA_len _ _ _ _ _ _).1
  rw [e]
  unfold firstD fallsO
  rw [okD_and, hc, hm, decide_eq_true hC]
  rfl
theorem firstD_none {R C : Int} {l : List (Int × Int)} {R' C' : Int} {m : List (Int × Int)} {cs : List Int} (h : okD R C l R' C' m cs = false) : firstD R C l R' C' m cs = none := by
  unfold firstD
  rw [h]
  rfl
end Go.Proofs.YtpfjbecpfdgnpabDoor
namespace Go.Proofs.YtpfjbecpfdgnpabDoor
open Go.ChangeShapes Go.WideShapes Go.ChangeAt Go.RowKit Go.Joins Go.Deep
set_option linter.unusedSimpArgs false
set_option linter.unusedVariables false
set_option maxRecDepth 100000
set_option maxHeartbeats 1000000
def cStep (c : Nat) (v : List Int) (f : Int × Int × Int) : List Int :=
  if f.1 = 1 then v.set f.2.2.toNat (v.getD f.2.2.toNat 0 + 1) else if f.1 = 2 then v.set c (v.getD c 0 + 1) else v.set (c + 1) (v.getD (c + 1) 0 + 1)
def cntK (c : Nat) (fs : List (Int × Int × Int)) : Nat → List Int
  | 0 => List.replicate (c + 2) 0
  | k + 1 => cStep c (cntK c fs k) (fs.getD k (0, 0, 0))
theorem cStep_len (c : Nat) (v : List Int) (f : Int × Int × Int) : (cStep c v f).length = v.length := by
  unfold cStep
  split
  · rw [List.length_set]
  · split <;> rw [List.length_set]
theorem cntK_len (c : Nat) (fs : List (Int × Int × Int)) : ∀ k, (cntK c fs k).length = c + 2
  | 0 => by simp [cntK]
  | k + 1 => by rw [cntK, cStep_len]; exact cntK_len c fs k
theorem set_bd {v : List Int} {j : Nat} {b : Int} (h : ∀ i, 0 ≤ v.getD i 0 ∧ v.getD i 0 ≤ b) : ∀ i, 0 ≤ (v.set j (v.getD j 0 + 1)).getD i 0 ∧ (v.set j (v.getD j 0 + 1)).getD i 0 ≤ b + 1 := fun i => by
  have h1 := h i
  have h2 := h j
  rw [List.getD_eq_getElem?_getD, List.getElem?_set]
  by_cases e : j = i
  · rw [if_pos e]
    by_cases hl : j < v.length
    · rw [if_pos hl]
      show 0 ≤ v.getD j 0 + 1 ∧ v.getD j 0 + 1 ≤ b + 1
      omega
    · rw [if_neg hl]
      show (0 : Int) ≤ 0 ∧ (0 : Int) ≤ b + 1
      omega
  · rw [if_neg e, ← List.getD_eq_getElem?_getD]
    omega
theorem cntK_bd (c : Nat) (fs : List (Int × Int × Int)) : ∀ k i, 0 ≤ (cntK c fs k).getD i 0 ∧ (cntK c fs k).getD i 0 ≤ k
  | 0, i => by
    have e : (cntK c fs 0).getD i 0 = 0 := by
      unfold cntK
      rw [List.getD_eq_getElem?_getD, List.getElem?_replicate]
      split <;> rfl
    rw [e]
    omega
  | k + 1, i => by
    have ih := cntK_bd c fs k
    rw [cntK]
    unfold cStep
    push_cast
    split
    · exact set_bd ih i
    · split
      · exact set_bd ih i
      · exact set_bd ih i
def okE (c : Nat) (f : Int × Int × Int) : Prop := (f.1 = 1 ∧ 0 ≤ f.2.2 ∧ f.2.2 < c) ∨ f.1 = 2 ∨ f.1 = 3
theorem flG_okE (nm : List Int) (r c : Nat) : ∀ (n row : Nat) (l : List (Int × Int)) (col : Nat) (side : Int) (way : List (List Nat)), col < c → okE c ((flG nm r c n row l col side way).e, (flG nm r c n row l col side way).row, (flG nm r c n row l col side way).col)
  | 0, _, _, _, _, _, h => .inl ⟨rfl, by show (0 : Int) ≤ ((_ : Nat) : Int); omega, by show (((_ : Nat) : Int)) < _; omega⟩
  | n + 1, row, l, col, side, way, h => by
    rw [flG_step nm r c n row l col side way _ _ rfl rfl]
    split
    · exact .inr (.inl rfl)
    · split
      · next hin => exact flG_okE nm r c n _ _ _ _ _ (by omega)
      · exact .inr (.inr rfl)
theorem stA_okE (nm : List Int) (r c : Nat) (l : List (Int × Int)) (cs : List Int) (hcs : ∀ k, k < cs.length → 0 ≤ cs.getD k 0 ∧ cs.getD k 0 < c) : ∀ k, k ≤ cs.length → ∀ i, i < k → okE c ((stA nm r c l cs k).1.getD i (0, 0, 0))
  | 0, _, i, h => absurd h (Nat.not_lt_zero i)
  | k + 1, hk, i, h => by
    have hl := (stA_len nm r c l cs k).1
    have hc := hcs k (by omega)
    unfold stA
    rw [List.getD_eq_getElem?_getD]
    by_cases e : i < k
    · rw [List.getElem?_append_left (by omega), ← List.getD_eq_getElem?_getD]
      exact stA_okE nm r c l cs hcs k (by omega) i e
    · have e2 : i = k := by omega
      subst e2
      rw [List.getElem?_append_right (by omega), hl, Nat.sub_self]
      exact flG_okE nm r c r 0 _ _ _ _ (by omega)
theorem ints_setI (v : List Int) (j : Nat) (x : Int) : (ints v).set j (.int .i64 x) = ints (v.set j x) := by
  unfold ints
  rw [List.map_set]
theorem zrow_ints (n : Nat) : zrow n = ints (List.replicate n 0) := by
  unfold zrow ints
  rw [List.map_replicate]
theorem ints_getD (v : List Int) (j : Nat) (h : j < v.length) : (ints v)[j]? = some (.int .i64 (v.getD j 0)) := by
  rw [ints_at v j h, List.getD_eq_getElem?_getD, List.getElem?_eq_getElem h]
  rfl
def arrL (R C : Int) (l : List (Int × Int)) (cs : List Int) : List Int := if okC' R C l cs then cntK C.toNat (fallsO R C l cs).1 cs.length else []
theorem arrL_len (R C : Int) (l : List (Int × Int)) (cs : List Int) : (arrL R C l cs).length ≤ 1048576 := by
  unfold arrL
  split
  · next h =>
    obtain ⟨hg, _, _⟩ := okC'_parts h
    obtain ⟨s1, s2, s3, s4⟩ := sizeB_iff.1 (goodB_iff.1 hg).1
    rw [cntK_len]
    omega
  · simp
theorem run_make_c2 (c : Nat) (hc : c ≤ 9) (w : World) :
    (Instr.makeSlice 40 (.int .i64 ((c : Int) + 2)) (.int .i64 ((c : Int) + 2))).run Tryd.prog w = .ok (.slice (some ⟨w.heap.size, 0, none⟩) (c + 2) (c + 2)) (w.alloc (.cells (zrow (c + 2)).toArray 3)) := by
  have h := run_make_ints (c + 2) (by omega) w
  push_cast at h
  exact h
theorem set_row {w : World} {A : Option Addr} {t t' : TypeId} {xs : List Value} {g j : Nat} {ys : List Value} {u : Value} (h : Own w A t xs) (hw : Whole w g t' ys) (hne : t ≠ t') : Own (w.setCell ⟨g, j, none⟩ u) A t xs :=
  h.apart hw hne ⟨rfl, rfl, rfl, by rw [World.size_setCell]; exact Nat.le_refl _, fun k _ hk => Below.heap_setCell _ _ _ _ (fun e => hk (by rw [e]))⟩
end Go.Proofs.YtpfjbecpfdgnpabDoor
namespace Go.Proofs.YtpfjbecpfdgnpabDoor
open Go.ChangeShapes Go.WideShapes Go.ChangeAt Go.RowKit Go.Joins Go.Deep
set_option linter.unusedSimpArgs false
set_option linter.unusedVariables false
set_option maxRecDepth 100000
set_option maxHeartbeats 1000000
theorem heldCell : Tryd.prog.stoodInHeld 71 = false := by kernel_rfl
theorem guardCell : Tryd.prog.eqGuardType Tryd.prog.depth 71 = false := by kernel_rfl
def diffTo (l m : List (Int × Int)) : Nat → List Int
  | 0 => []
  | k + 1 => if l.getD k (0, 0) = m.getD k (0, 0) then diffTo l m k else diffTo l m k ++ [(k : Int)]
theorem diffTo_le (l m : List (Int × Int)) (k : Nat) : (diffTo l m k).length ≤ k := by
  induction k with
  | zero => exact Nat.le_refl 0
  | succ k ih =>
    show (if l.getD k (0, 0) = m.getD k (0, 0) then diffTo l m k else diffTo l m k ++ [(k : Int)]).length ≤ k + 1
    split
    · omega
    · rw [List.length_append, List.length_singleton]; omega
def sameB (R C : Int) (l : List (Int × Int)) (R' C' : Int) (m : List (Int × Int)) : Bool := goodB R C l && goodB R' C' m && decide (R = R' ∧ C = C')
def diffB (R C : Int) (l : List (Int × Int)) (R' C' : Int) (m : List (Int × Int)) : List Int := if sameB R C l R' C' m then diffTo l m l.length else []
theorem diffB_len (R C : Int) (l : List (Int × Int)) (R' C' : Int) (m : List (Int × Int)) (h : l.length ≤ 1048576) : (diffB R C l R' C' m).length ≤ 1048576 := by
  unfold diffB
  have := diffTo_le l m l.length
  split
  · omega
  · simp
theorem getD_at {l : List (Int × Int)} {k : Nat} (h : k < l.length) : l.getD k (0, 0) = l[k] := by rw [List.getD_eq_getElem?_getD, List.getElem?_eq_getElem h]; rfl
theorem diffTo_no {l m : List (Int × Int)} {k : Nat} (h : k < l.length) (h' : k < m.length) (e : l[k].1 = m[k].1 ∧ l[k].2 = m[k].2) : diffTo l m (k + 1) = diffTo l m k := by
  show (if l.getD k (0, 0) = m.getD k (0, 0) then _ else _) = _
  rw [getD_at h, getD_at h', if_pos (Prod.ext e.1 e.2)]
theorem diffTo_yes {l m : List (Int × Int)} {k : Nat} (h : k < l.length) (h' : k < m.length) (e : ¬ (l[k].1 = m[k].1 ∧ l[k].2 = m[k].2)) : ints (diffTo l m (k + 1)) = ints (diffTo l m k) ++ [.int .i64 (k : Int)] ∧ (diffTo l m (k + 1)).length = (diffTo l m k).length + 1 := by
  have h2 : diffTo l m (k + 1) = diffTo l m k ++ [(k : Int)] := by
    show (if l.getD k (0, 0) = m.getD k (0, 0) then _ else _) = _
    rw [getD_at h, getD_at h', if_neg (fun x => e (by rw [x]; exact ⟨rfl, rfl⟩))]
  rw [h2]
  simp [ints]
theorem sameB_iff {R C : Int} {l : List (Int × Int)} {R' C' : Int} {m : List (Int × Int)} : sameB R C l R' C' m = true ↔ goodB R C l = true ∧ goodB R' C' m = true ∧ R = R' ∧ C = C' := by
  unfold sameB
  rw [Bool.and_eq_true, Bool.and_eq_true, decide_eq_true_eq, and_assoc]
theorem good_len {R C : Int} {l m : List (Int × Int)} (h : goodB R C l = true) (h' : goodB R C m = true) : l.length = m.length := by
  have h1 := (goodB_iff.1 h).2.1
  have h2 := (goodB_iff.1 h').2.1
  omega
end Go.Proofs.YtpfjbecpfdgnpabDoor
namespace Go.Proofs.YtpfjbecpfdgnpabDoor
open Go.ChangeShapes Go.WideShapes Go.ChangeAt Go.RowKit Go.Joins Go.Deep
set_option linter.unusedSimpArgs false
set_option linter.unusedVariables false
set_option maxRecDepth 100000
set_option maxHeartbeats 4000000
def turnedL (R C : Int) (l : List (Int × Int)) (j : Int) : List Int := if okF R C l j then diffTo l (marO R C l j).cells l.length else []
theorem turnedL_len (R C : Int) (l : List (Int × Int)) (j : Int) (hn : l.length ≤ 1048576) : (turnedL R C l j).length ≤ 1048576 := by
  unfold turnedL
  have := diffTo_le l (marO R C l j).cells l.length
  split
  · omega
  · simp
end Go.Proofs.YtpfjbecpfdgnpabDoor
namespace Go.Proofs.YtpfjbecpfdgnpabDoor
open Go.ChangeShapes Go.WideShapes Go.ChangeAt Go.RowKit Go.Joins Go.Deep
set_option linter.unusedSimpArgs false
set_option linter.unusedVariables false
set_option maxRecDepth 100000
set_option maxHeartbeats 4000000
theorem marO_good {r c : Nat} {l : List (Int × Int)} {col : Nat} (hg : goodB (r : Int) (c : Int) l = true) (hcol : col < c) : goodB (r : Int) (c : Int) (marO (r : Int) (c : Int) l (col : Int)).cells = true := by
  obtain ⟨h1, h2, h3⟩ := goodB_iff.1 hg
  refine goodB_iff.2 ⟨h1, by rw [marO_len]; exact h2, ?_⟩
  have hl : l.length = r * c := by
    have e : (l.length : Int) = ((r * c : Nat) : Int) := by rw [h2]; push_cast; rfl
    omega
  exact flG_good _ r c r 0 l _ _ _ hl (by omega) hcol h3
end Go.Proofs.YtpfjbecpfdgnpabDoor
namespace Go.Proofs.YtpfjbecpfdgnpabDoor
open Go.ChangeShapes Go.WideShapes Go.ChangeAt Go.RowKit Go.Joins Go.Deep
set_option linter.unusedSimpArgs false
set_option linter.unusedVariables false
set_option maxRecDepth 100000
set_option maxHeartbeats 1000000
/-- A machine's state in a run: cells, marbles left, the next colour; colours and ends so far. -/
structure MSt where
  l : List (Int × Int)
  bl : Int
  rd : Int
  nx : Int
  cs : List Int
  fs : List (Int × Int × Int)
def inM (lo hi n : Int) : Bool := decide (lo ≤ n) && decide (n ≤ hi)
def okM (R C : Int) (l : List (Int × Int)) (p q bl rd nx : Int) : Bool := okF R C l p && okF R C l q && inM 0 30 bl && inM 0 30 rd && inM 0 2 nx
def canM (bl rd nx : Int) : Bool := decide (nx = 0 ∧ 0 < bl ∨ nx = 1 ∧ 0 < rd)
def colM (p q nx : Int) : Int := if nx = 0 then p else q
def nextM (C : Int) (F : FlR) : Int := if F.e = 1 then (if 2 * F.col < C then 0 else 1) else 2
def stepM (R C p q : Int) (s : MSt) : MSt :=
  ⟨(marO R C s.l (colM p q s.nx)).cells, if s.nx = 0 then s.bl - 1 else s.bl, if s.nx = 0 then s.rd else s.rd - 1, nextM C (marO R C s.l (colM p q s.nx)), s.cs ++ [s.nx],
    s.fs ++ [((marO R C s.l (colM p q s.nx)).e, (marO R C s.l (colM p q s.nx)).row, (marO R C s.l (colM p q s.nx)).col)]⟩
def runM (R C p q : Int) : Nat → MSt → MSt
  | 0, s => s
  | n + 1, s => if canM s.bl s.rd s.nx then runM R C p q n (stepM R C p q s) else s
theorem runM_stop {R C p q : Int} {n : Nat} {s : MSt} (h : canM s.bl s.rd s.nx = false) : runM R C p q n s = s := by
  cases n with
  | zero => rfl
  | succ n => rw [runM, h]; rfl
theorem runM_go {R C p q : Int} {n : Nat} {s : MSt} (h : canM s.bl s.rd s.nx = true) : runM R C p q (n + 1) s = runM R C p q n (stepM R C p q s) := by
  rw [runM, h]; rfl
theorem okM_parts {R C : Int} {l : List (Int × Int)} {p q bl rd nx : Int} (h : okM R C l p q bl rd nx = true) : okF R C l p = true ∧ okF R C l q = true ∧ 0 ≤ bl ∧ bl ≤ 30 ∧ 0 ≤ rd ∧ rd ≤ 30 ∧ 0 ≤ nx ∧ nx ≤ 2 := by
  unfold okM inM at h
  simp only [Bool.and_eq_true, decide_eq_true_eq] at h
  exact ⟨h.1.1.1.1, h.1.1.1.2, h.1.1.2.1, h.1.1.2.2, h.1.2.1, h.1.2.2, h.2.1, h.2.2⟩
theorem colM_or (p q nx : Int) : colM p q nx = p ∨ colM p q nx = q := by
  unfold colM
  split
  · exact .inl rfl
  · exact .inr rfl
theorem canM_iff {bl rd nx : Int} : canM bl rd nx = true ↔ (nx = 0 ∧ 0 < bl ∨ nx = 1 ∧ 0 < rd) := by
  unfold canM
  exact decide_eq_true_iff
/-- What stands in each state of a run. -/
structure MOk (R C p q : Int) (n : Nat) (s : MSt) : Prop where
  len : s.l.length = n
  good : goodB R C s.l = true
  bl0 : 0 ≤ s.bl
  bl1 : s.bl ≤ 30
  rd0 : 0 ≤ s.rd
  rd1 : s.rd ≤ 30
  nx0 : 0 ≤ s.nx
  nx1 : s.nx ≤ 2
  same : s.cs.length = s.fs.length
  few : s.fs.length + s.bl.toNat + s.rd.toNat ≤ 60
theorem nextM_range (C : Int) (F : FlR) : 0 ≤ nextM C F ∧ nextM C F ≤ 2 := by
  unfold nextM
  split
  · split <;> omega
  · omega
theorem MOk.step {r c : Nat} {p q : Int} {n : Nat} {s : MSt} (h : MOk (r : Int) (c : Int) p q n s) (hp : 0 ≤ p ∧ p < c) (hq : 0 ≤ q ∧ q < c) (hc : canM s.bl s.rd s.nx = true) : MOk (r : Int) (c : Int) p q n (stepM (r : Int) (c : Int) p q s) := by
  obtain ⟨col, hcol, hlt⟩ : ∃ k : Nat, colM p q s.nx = (k : Int) ∧ k < c := by
    rcases colM_or p q s.nx with e | e
    · exact ⟨p.toNat, by rw [e]; omega, by omega⟩
    · exact ⟨q.toNat, by rw [e]; omega, by omega⟩
  have hn := nextM_range (c : Int) (marO (r : Int) (c : Int) s.l (colM p q s.nx))
  have h1 := h.bl0
  have h2 := h.bl1
  have h3 := h.rd0
  have h4 := h.rd1
  have h5 := h.few
  rw [canM_iff] at hc
  refine ⟨?_, ?_, ?_, ?_, ?_, ?_, hn.1, hn.2, ?_, ?_⟩
  · show (marO (r : Int) (c : Int) s.l (colM p q s.nx)).cells.length = n
    rw [marO_len]
    exact h.len
  · show goodB (r : Int) (c : Int) (marO (r : Int) (c : Int) s.l (colM p q s.nx)).cells = true
    rw [hcol]
    exact marO_good h.good hlt
  · show 0 ≤ (if s.nx = 0 then s.bl - 1 else s.bl)
    split <;> omega
  · show (if s.nx = 0 then s.bl - 1 else s.bl) ≤ 30
    split <;> omega
  · show 0 ≤ (if s.nx = 0 then s.rd else s.rd - 1)
    split <;> omega
  · show (if s.nx = 0 then s.rd else s.rd - 1) ≤ 30
    split <;> omega
  · show (s.cs ++ [s.nx]).length = (s.fs ++ [_]).length
    rw [List.length_append, List.length_append, h.same]
    rfl
  · show (s.fs ++ [_]).length + (if s.nx = 0 then s.bl - 1 else s.bl).toNat + (if s.nx = 0 then s.rd else s.rd - 1).toNat ≤ 60
    rw [List.length_append, List.length_singleton]
    split <;> omega
theorem MOk.run {r c : Nat} {p q : Int} {m : Nat} (hp : 0 ≤ p ∧ p < c) (hq : 0 ≤ q ∧ q < c) : ∀ (n : Nat) (s : MSt), MOk (r : Int) (c : Int) p q m s → MOk (r : Int) (c : Int) p q m (runM (r : Int) (c : Int) p q n s)
  | 0, _, h => h
  | n + 1, s, h => by
    rcases Bool.eq_false_or_eq_true (canM s.bl s.rd s.nx) with hc | hc
    · rw [runM_go hc]
      exact MOk.run hp hq n _ (h.step hp hq hc)
    · rw [runM_stop hc]
      exact h
theorem MOk.start {R C : Int} {l : List (Int × Int)} {p q bl rd nx : Int} (h : okM R C l p q bl rd nx = true) : MOk R C p q l.length ⟨l, bl, rd, nx, [], []⟩ := by
  obtain ⟨h1, h2, h3, h4, h5, h6, h7, h8⟩ := okM_parts h
  exact ⟨rfl, (okF_parts h1).1, h3, h4, h5, h6, h7, h8, rfl, by show 0 + bl.toNat + rd.toNat ≤ 60; omega⟩
end Go.Proofs.YtpfjbecpfdgnpabDoor
namespace Go.Proofs.YtpfjbecpfdgnpabDoor
open Go.ChangeShapes Go.WideShapes Go.ChangeAt Go.RowKit Go.Joins Go.Deep
set_option linter.unusedSimpArgs false
set_option linter.unusedVariables false
set_option maxRecDepth 100000
set_option maxHeartbeats 1000000
/-- The releases of a state. -/
def relS (s : MSt) : List (Int × Int × Int × Int) := s.cs.zip s.fs
theorem relS_len {s : MSt} (h : s.cs.length = s.fs.length) : (relS s).length = s.fs.length := by
  unfold relS
  rw [List.length_zip, h, Nat.min_self]
theorem relS_step (R C p q : Int) {s : MSt} (h : s.cs.length = s.fs.length) : relS (stepM R C p q s) = relS s ++ [(s.nx, (marO R C s.l (colM p q s.nx)).e, (marO R C s.l (colM p q s.nx)).row, (marO R C s.l (colM p q s.nx)).col)] := by
  unfold relS stepM
  rw [List.zip_append h]
  rfl
theorem relS_cs {s : MSt} (h : s.cs.length = s.fs.length) : (relS s).map (·.1) = s.cs := List.map_fst_zip (by omega)
theorem relS_fs {s : MSt} (h : s.cs.length = s.fs.length) : (relS s).map (·.2) = s.fs := List.map_snd_zip (by omega)
/-- Only the blocks g and k have turned, and what is new. -/
structure Gr2 (w w' : World) (g k : Nat) : Prop where
  os : w'.os = w.os
  tape : w'.tape = w.tape
  output : w'.output = w.output
  size : w.heap.size ≤ w'.heap.size
  block : ∀ i, i < w.heap.size → i ≠ g → i ≠ k → w'.heap[i]? = w.heap[i]?
theorem Gr2.refl (w : World) (g k : Nat) : Gr2 w w g k := ⟨rfl, rfl, rfl, Nat.le_refl _, fun _ _ _ _ => rfl⟩
theorem Gr2.trans {w v v' : World} {g k : Nat} (h : Gr2 w v g k) (h' : Gr2 v v' g k) : Gr2 w v' g k :=
  ⟨h'.os.trans h.os, h'.tape.trans h.tape, h'.output.trans h.output, Nat.le_trans h.size h'.size, fun i hi h1 h2 => (h'.block i (Nat.lt_of_lt_of_le hi h.size) h1 h2).trans (h.block i hi h1 h2)⟩
theorem Gr2.grown {w v v' : World} {g k : Nat} (h : Gr2 w v g k) (h' : v.grownBy v' (some k)) : Gr2 w v' g k :=
  h.trans ⟨h'.os, h'.tape, h'.output, h'.size, fun i hi _ h2 => h'.block i hi (fun e => h2 (by injection e))⟩
theorem Gr2.below {w v v' : World} {g k : Nat} (h : Gr2 w v g k) (b : Below v.heap.size v v') : Gr2 w v' g k :=
  h.grown (gb_below (gb_refl v k) b)
theorem Gr2.set {w v : World} {g k : Nat} (h : Gr2 w v g k) (j : Nat) (u : Value) : Gr2 w (v.setCell ⟨g, j, none⟩ u) g k :=
  h.trans ⟨rfl, rfl, rfl, by rw [World.size_setCell]; exact Nat.le_refl _, fun i hi h1 _ => Below.heap_setCell _ _ _ _ h1⟩
theorem Gr2.whole {w w' : World} {g k i : Nat} {t : TypeId} {xs : List Value} (h : Gr2 w w' g k) (X : Whole w i t xs) (h1 : i ≠ g) (h2 : i ≠ k) : Whole w' i t xs := (h.block i X.lt h1 h2).trans X
theorem Gr2.toBelow {w w' : World} {g k B : Nat} (h : Gr2 w w' g k) (hB : B ≤ w.heap.size) (h1 : B ≤ g) (h2 : B ≤ k) : Below B w w' := by
  exact ⟨h.os, h.tape, h.output, h.size, fun i hi => h.block i (by omega) (by omega) (by omega)⟩
theorem Gr2.row {w w' : World} {g k base size n : Nat} {e : TypeId} {v : Value} {xs : List Value} (h : Gr2 w w' g k) (hr : w.ownsRow base e size v n xs) (h1 : v.ownBlock ≠ some g) (h2 : v.ownBlock ≠ some k) : w'.ownsRow base e size v n xs := by
  refine ⟨hr.1, ?_⟩
  rcases hr.2 with h3 | ⟨j, cap, cur, rfl, h4, hh, h5⟩
  · exact .inl h3
  · refine .inr ⟨j, cap, cur, rfl, h4, ?_, h5⟩
    refine (h.block j ?_ (fun e' => h1 (by rw [e']; rfl)) (fun e' => h2 (by rw [e']; rfl))).trans hh
    exact Whole.lt hh
/-- Colours and ends of a run. -/
structure MOk2 (c : Nat) (s : MSt) : Prop where
  fs : ∀ f ∈ s.fs, okE c f
  cs : ∀ x ∈ s.cs, x = 0 ∨ x = 1
theorem MOk2.start (c : Nat) (l : List (Int × Int)) (bl rd nx : Int) : MOk2 c ⟨l, bl, rd, nx, [], []⟩ := ⟨fun _ h => absurd h (by simp), fun _ h => absurd h (by simp)⟩
theorem MOk2.step {r c : Nat} {p q : Int} {s : MSt} (h : MOk2 c s) (hp : 0 ≤ p ∧ p < c) (hq : 0 ≤ q ∧ q < c) (hc : canM s.bl s.rd s.nx = true) : MOk2 c (stepM (r : Int) (c : Int) p q s) := by
  obtain ⟨col, hcol, hlt⟩ : ∃ k : Nat, colM p q s.nx = (k : Int) ∧ k < c := by
    rcases colM_or p q s.nx with e | e
    · exact ⟨p.toNat, by rw [e]; omega, by omega⟩
    · exact ⟨q.toNat, by rw [e]; omega, by omega⟩
  rw [canM_iff] at hc
  refine ⟨fun f hf => ?_, fun x hx => ?_⟩
  · rcases List.mem_append.1 hf with h1 | h1
    · exact h.fs f h1
    · rw [List.mem_singleton.1 h1, hcol]
      exact flG_okE _ r c r 0 s.l col 0 [] hlt
  · rcases List.mem_append.1 hx with h1 | h1
    · exact h.cs x h1
    · rw [List.mem_singleton.1 h1]
      omega
theorem MOk2.run {r c : Nat} {p q : Int} (hp : 0 ≤ p ∧ p < c) (hq : 0 ≤ q ∧ q < c) : ∀ (n : Nat) (s : MSt), MOk2 c s → MOk2 c (runM (r : Int) (c : Int) p q n s)
  | 0, _, h => h
  | n + 1, s, h => by
    rcases Bool.eq_false_or_eq_true (canM s.bl s.rd s.nx) with hc | hc
    · rw [runM_go hc]
      exact MOk2.run hp hq n _ (h.step hp hq hc)
    · rw [runM_stop hc]
      exact h
theorem runM_more (R C p q : Int) : ∀ (n : Nat) (s : MSt), canM (runM R C p q n s).bl (runM R C p q n s).rd (runM R C p q n s).nx = false ∨ (runM R C p q n s).fs.length = s.fs.length + n
  | 0, s => .inr rfl
  | n + 1, s => by
    rcases Bool.eq_false_or_eq_true (canM s.bl s.rd s.nx) with hc | hc
    · rw [runM_go hc]
      rcases runM_more R C p q n (stepM R C p q s) with h | h
      · exact .inl h
      · refine .inr (h.trans ?_)
        show (s.fs ++ [_]).length + n = _
        rw [List.length_append, List.length_singleton]
        omega
    · rw [runM_stop hc]
      exact .inl hc
end Go.Proofs.YtpfjbecpfdgnpabDoor
namespace Go.Proofs.YtpfjbecpfdgnpabDoor
open Go.ChangeShapes Go.WideShapes Go.ChangeAt Go.RowKit Go.Joins Go.Deep
set_option linter.unusedSimpArgs false
set_option linter.unusedVariables false
set_option maxRecDepth 100000
set_option maxHeartbeats 2000000
theorem okM_ints {R C : Int} {l : List (Int × Int)} {p q bl rd nx : Int} (h : okM R C l p q bl rd nx = true) : ∃ r c : Nat, R = (r : Int) ∧ C = (c : Int) ∧ Geo r c l.length ∧ goodB (r : Int) (c : Int) l = true ∧ (0 ≤ p ∧ p < (c : Int)) ∧ (0 ≤ q ∧ q < (c : Int)) := by
  obtain ⟨h1, h2, -⟩ := okM_parts h
  obtain ⟨g1, g2⟩ := okF_parts h1
  obtain ⟨-, g3⟩ := okF_parts h2
  obtain ⟨r, c, rfl, rfl, hG⟩ := geo_of g1
  exact ⟨r, c, rfl, rfl, hG, g1, g2, g3⟩
theorem spec_maGood (R C : Int) (A : Option Addr) (cap : Nat) (l : List (Int × Int)) (p q bl rd nx : Int) (w : World) (hn : l.length ≤ 1048576) (hr : Rd w w.heap.size A (flat l)) :
    Calls Tryd.prog 10 #[.agg #[.int .i64 R, .int .i64 C, .slice A l.length cap, .int .i64 p, .int .i64 q, .int .i64 bl, .int .i64 rd, .int .i64 nx]] w fun e w' => e = .returned (.bool (okM R C l p q bl rd nx)) ∧ Below w.heap.size w w' := by
  have HE := Lib.hid (show okM R C l p q bl rd nx = (okF R C l p && okF R C l q && (decide (0 ≤ bl) && decide (bl ≤ 30)) && (decide (0 ≤ rd) && decide (rd ≤ 30)) && (decide (0 ≤ nx) && decide (nx ≤ 2))) from rfl)
  rewrite [HE.out]
  clear HE
  go_enter Tryd.func10, Tryd.ntmps10
  obtain ⟨v0, hv0⟩ : ∃ v, v = w.alloc (.cells #[.int .i64 R, .int .i64 C, .slice A l.length cap, .int .i64 p, .int .i64 q, .int .i64 bl, .int .i64 rd, .int .i64 nx] 34) := ⟨_, rfl⟩; have X0 : Whole v0 w.heap.size 34 [.int .i64 R, .int .i64 C, .slice A l.length cap, .int .i64 p, .int .i64 q, .int .i64 bl, .int .i64 rd, .int .i64 nx] := (by rw [hv0]; exact heap_alloc_new w _); have hb : Below w.heap.size w v0 := (by rw [hv0]; exact (Below.refl _ _).alloc (Nat.le_refl _) _); have HV := Lib.hid hv0.symm; clear hv0; go_upto_region 1 with (fail); rewrite [HV.out]; clear HV; have hy := X0.lt
  have X0k0 : v0.cell? ⟨w.heap.size, 0, none⟩ = some (.int .i64 R) := (X0.cell 0).trans rfl; have X0k1 : v0.cell? ⟨w.heap.size, 1, none⟩ = some (.int .i64 C) := (X0.cell 1).trans rfl; have X0k2 : v0.cell? ⟨w.heap.size, 2, none⟩ = some (.slice A l.length cap) := (X0.cell 2).trans rfl; have X0k3 : v0.cell? ⟨w.heap.size, 3, none⟩ = some (.int .i64 p) := (X0.cell 3).trans rfl; have X0k4 : v0.cell? ⟨w.heap.size, 4, none⟩ = some (.int .i64 q) := (X0.cell 4).trans rfl; have X0k5 : v0.cell? ⟨w.heap.size, 5, none⟩ = some (.int .i64 bl) := (X0.cell 5).trans rfl; have X0k6 : v0.cell? ⟨w.heap.size, 6, none⟩ = some (.int .i64 rd) := (X0.cell 6).trans rfl; have X0k7 : v0.cell? ⟨w.heap.size, 7, none⟩ = some (.int .i64 nx) := (X0.cell 7).trans rfl
  go_wp2_with fail
  refine (spec_flHas _ _ _ _ l _ _ hn ((hr.below hb).mono hb.size)).mono ?_; rintro e w1 ⟨rfl, b1⟩
  clear X0k0 X0k1 X0k2 X0k3 X0k4 X0k5 X0k6 X0k7
  (replace X0 := X0.below b1 X0.lt; replace hb := hb.trans (b1.mono hb.size); have hy := X0.lt; clear b1)
  rcases Bool.eq_false_or_eq_true (okF R C l p) with h1 | h1
  · rewrite [h1]
    have X0k0 : w1.cell? ⟨w.heap.size, 0, none⟩ = some (.int .i64 R) := (X0.cell 0).trans rfl; have X0k1 : w1.cell? ⟨w.heap.size, 1, none⟩ = some (.int .i64 C) := (X0.cell 1).trans rfl; have X0k2 : w1.cell? ⟨w.heap.size, 2, none⟩ = some (.slice A l.length cap) := (X0.cell 2).trans rfl; have X0k3 : w1.cell? ⟨w.heap.size, 3, none⟩ = some (.int .i64 p) := (X0.cell 3).trans rfl; have X0k4 : w1.cell? ⟨w.heap.size, 4, none⟩ = some (.int .i64 q) := (X0.cell 4).trans rfl; have X0k5 : w1.cell? ⟨w.heap.size, 5, none⟩ = some (.int .i64 bl) := (X0.cell 5).trans rfl; have X0k6 : w1.cell? ⟨w.heap.size, 6, none⟩ = some (.int .i64 rd) := (X0.cell 6).trans rfl; have X0k7 : w1.cell? ⟨w.heap.size, 7, none⟩ = some (.int .i64 nx) := (X0.cell 7).trans rfl
    go_wp2_with fail
    refine (spec_flHas _ _ _ _ l _ _ hn ((hr.below hb).mono hb.size)).mono ?_; rintro e w2 ⟨rfl, b2⟩
    clear X0k0 X0k1 X0k2 X0k3 X0k4 X0k5 X0k6 X0k7
    (replace X0 := X0.below b2 X0.lt; replace hb := hb.trans (b2.mono hb.size); have hy := X0.lt; clear b2)
    rcases Bool.eq_false_or_eq_true (okF R C l q) with h2 | h2
    · rewrite [h2]
      have X0k0 : w2.cell? ⟨w.heap.size, 0, none⟩ = some (.int .i64 R) := (X0.cell 0).trans rfl; have X0k1 : w2.cell? ⟨w.heap.size, 1, none⟩ = some (.int .i64 C) := (X0.cell 1).trans rfl; have X0k2 : w2.cell? ⟨w.heap.size, 2, none⟩ = some (.slice A l.length cap) := (X0.cell 2).trans rfl; have X0k3 : w2.cell? ⟨w.heap.size, 3, none⟩ = some (.int .i64 p) := (X0.cell 3).trans rfl; have X0k4 : w2.cell? ⟨w.heap.size, 4, none⟩ = some (.int .i64 q) := (X0.cell 4).trans rfl; have X0k5 : w2.cell? ⟨w.heap.size, 5, none⟩ = some (.int .i64 bl) := (X0.cell 5).trans rfl; have X0k6 : w2.cell? ⟨w.heap.size, 6, none⟩ = some (.int .i64 rd) := (X0.cell 6).trans rfl; have X0k7 : w2.cell? ⟨w.heap.size, 7, none⟩ = some (.int .i64 nx) := (X0.cell 7).trans rfl
      go_wp2_with fail
      refine (spec_l1In _ _ _ _).mono ?_; rintro e w3 ⟨rfl, rfl⟩
      rcases Bool.eq_false_or_eq_true (decide (0 ≤ bl) && decide (bl ≤ 30)) with h3 | h3
      · rewrite [h3]
        go_wp2_with fail
        refine (spec_l1In _ _ _ _).mono ?_; rintro e w4 ⟨rfl, rfl⟩
        rcases Bool.eq_false_or_eq_true (decide (0 ≤ rd) && decide (rd ≤ 30)) with h4 | h4
        · rewrite [h4]
          go_wp2_with fail
          refine (spec_l1In _ _ _ _).mono ?_; rintro e w5 ⟨rfl, rfl⟩
          go_wp2
          go_returns
          exact ⟨by rw [h1, h2, h3, h4]; rfl, hb⟩
        · rewrite [h4]
          go_wp2
          go_returns
          exact ⟨by rw [h1, h2, h3, h4]; rfl, hb⟩
      · rewrite [h3]
        go_wp2
        go_returns
        exact ⟨by rw [h1, h2, h3]; rfl, hb⟩
    · rewrite [h2]
      go_wp2
      go_returns
      exact ⟨by rw [h1, h2]; rfl, hb⟩
  · rewrite [h1]
    go_wp2
    go_returns
    exact ⟨by rw [h1]; rfl, hb⟩
theorem canM_split (bl rd nx : Int) : canM bl rd nx = (decide (nx = 0) && decide (0 < bl) || decide (nx = 1) && decide (0 < rd)) := by
  unfold canM
  rw [Bool.eq_iff_iff]
  simp
end Go.Proofs.YtpfjbecpfdgnpabDoor
