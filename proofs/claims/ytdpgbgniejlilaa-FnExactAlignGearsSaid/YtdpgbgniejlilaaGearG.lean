/- GearGroups, program and model. -/
import Derived.Test.YtdpgbgniejlilaaRepeat
namespace Go.Proofs.Ytdpgbgniejlilaa
open Go.ChangeShapes Go.WideShapes Go.ChangeAt Go.RowKit Go.Joins Go.Deep
set_option linter.unusedSimpArgs false
set_option linter.unusedVariables false
set_option maxRecDepth 100000
set_option maxHeartbeats 2000000
def gearsB (R C : Int) (l : List (Int × Int)) : List Int := if goodB R C l then numL C.toNat l else []
theorem gearsB_len (R C : Int) (l : List (Int × Int)) (h : l.length ≤ 1048576) : (gearsB R C l).length ≤ 1048576 := by
  unfold gearsB
  split
  · rw [numL_len]; exact h
  · simp
theorem LRow.setCell {w : World} {base g j : Nat} {v u : Value} {L : List (List Nat)} (h : LRow w base v L) (hg : g < base) : LRow (w.setCell ⟨g, j, none⟩ u) base v L := by
  obtain ⟨hs, h1, h2, h3⟩ := h
  refine ⟨hs, h1, ⟨h2.1, ?_⟩, fun k hk => ?_⟩
  · rcases h2.2 with h4 | ⟨q, cap, cur, e, h5, h6, h7⟩
    · exact .inl h4
    · exact .inr ⟨q, cap, cur, e, h5, (Below.heap_setCell w ⟨g, j, none⟩ u q (by show q ≠ g; omega)).trans h6, h7⟩
  · obtain ⟨A, cap, e, ho, hb⟩ := h3 k hk
    refine ⟨A, cap, e, fun hx => ?_, hb⟩
    obtain ⟨q, rest, e', hw⟩ := ho hx
    have := hb _ e'
    exact ⟨q, rest, e', (Below.heap_setCell w ⟨g, j, none⟩ u q (by show q ≠ g; simp at this; omega)).trans hw⟩
/-- The header of the list at place k, and the list. -/
theorem LRow.at_ {w : World} {base : Nat} {v : Value} {L : List (List Nat)} (h : LRow w base v L) {k : Nat} (hk : k < L.length) :
    ∃ go cap0 A cap, v = .slice (some ⟨go, 0, none⟩) L.length cap0 ∧ w.cell? ⟨go, k, none⟩ = some (.slice A L[k].length cap) ∧ Own w A 3 (ints (nI L[k])) ∧ (∀ a, A = some a → base ≤ a.block) ∧ go < w.heap.size := by
  obtain ⟨hs, h1, h2, h3⟩ := h
  obtain ⟨A0, cap0, rfl⟩ := slice_of_row h2
  obtain ⟨A, cap, e, ho, hb⟩ := h3 k hk
  obtain ⟨go, rest, rfl, hw⟩ := (own_of_row h2).1 (by omega)
  refine ⟨go, cap0, A, cap, rfl, ?_, ho, hb, hw.lt⟩
  rw [hw.cell k, List.getElem?_append_left (by omega), e]
theorem num_sort {n x : Nat} (hx : x < n) : ∀ (G : List (List Nat)) (c : Nat), num (G.map (sortN n)) c x = num G c x
  | [], c => rfl
  | g :: G, c => by
    have e : (sortN n g).contains x = g.contains x := by
      rw [Bool.eq_iff_iff, List.contains_iff_mem, List.contains_iff_mem, mem_sortN]
      exact ⟨fun h => h.2, fun h => ⟨hx, h⟩⟩
    show (if (sortN n g).contains x then (c : Int) else num (G.map (sortN n)) (c + 1) x) = _
    rw [e, num_sort hx G (c + 1)]
    rfl
theorem numV_sort {n : Nat} (G : List (List Nat)) : numV n (G.map (sortN n)) = numV n G := by
  unfold numV
  exact List.map_congr_left fun x hx => num_sort (List.mem_range.1 hx) G 0
def srtG (c : Nat) (l : List (Int × Int)) : List (List Nat) := (GG (c : Int) l).map (sortN l.length)
theorem srtG_new {r c t j : Nat} {l : List (Int × Int)} (hG : Geo r c l.length) (ht : t < (srtG c l).length) (hj : j < (srtG c l)[t].length) :
    (srtG c l)[t][j] < l.length ∧ (srtG c l)[t][j] ∉ ((srtG c l).take t).flatten ∧ (srtG c l)[t][j] ∉ (srtG c l)[t].take j := by
  have hA := groups_all hG
  have ht' : t < (GG (c : Int) l).length := by unfold srtG at ht; rwa [List.length_map] at ht
  have e : (srtG c l)[t] = sortN l.length (GG (c : Int) l)[t] := by simp only [srtG, List.getElem_map]
  have hm : (srtG c l)[t][j] ∈ sortN l.length (GG (c : Int) l)[t] := by rw [← e]; exact List.getElem_mem hj
  rw [mem_sortN] at hm
  refine ⟨hm.1, fun h => ?_, fun h => ?_⟩
  · obtain ⟨g, hg, hx⟩ := List.mem_flatten.1 h
    obtain ⟨s, hs, rfl⟩ := List.getElem_of_mem hg
    rw [List.getElem_take] at hx
    have hst : s < t := by rw [List.length_take] at hs; omega
    have e2 : (srtG c l)[s]'(by omega) = sortN l.length ((GG (c : Int) l)[s]'(by omega)) := by simp only [srtG, List.getElem_map]
    rw [e2, mem_sortN] at hx
    have n1 := (num_is (j := (srtG c l)[t][j]) _ 0 t hA.apart (List.getElem?_eq_getElem ht')).2 hm.2
    have n2 := (num_is (j := (srtG c l)[t][j]) _ 0 s hA.apart (List.getElem?_eq_getElem (by omega))).2 hx.2
    omega
  · have hp : (srtG c l)[t].Pairwise (· < ·) := by rw [e]; exact sortN_sorted _ _
    rw [List.mem_iff_getElem] at h
    obtain ⟨i, hi, hie⟩ := h
    rw [List.getElem_take] at hie
    rw [List.length_take] at hi
    have := List.pairwise_iff_getElem.1 hp i j (by omega) hj (by omega)
    omega
theorem srtG_len (c : Nat) (l : List (Int × Int)) : (srtG c l).length ≤ l.length := by
  unfold srtG GG
  rw [List.length_map]
  exact gat_len _ _ _ _
theorem numL_srt (c : Nat) (l : List (Int × Int)) : numV l.length (srtG c l) = numL c l := by
  unfold srtG
  rw [numV_sort]
  unfold numL GG
  rw [Int.toNat_natCast]
theorem srtG_cell (c : Nat) (l : List (Int × Int)) (t : Nat) (ht : t < (srtG c l).length) : (srtG c l)[t].length ≤ l.length := by
  simp only [srtG, List.getElem_map]
  exact sortN_length _
end Go.Proofs.Ytdpgbgniejlilaa
