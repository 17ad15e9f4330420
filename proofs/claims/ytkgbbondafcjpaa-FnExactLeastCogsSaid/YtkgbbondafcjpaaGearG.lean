/- GearGroups, program and model. -/
import Derived.Test.YtkgbbondafcjpaaRepeat
namespace Go.Proofs.Ytkgbbondafcjpaa
open Go.ChangeShapes Go.WideShapes Go.ChangeAt Go.RowKit Go.Joins Go.Deep
set_option linter.unusedSimpArgs false
set_option linter.unusedVariables false
set_option maxRecDepth 100000
set_option maxHeartbeats 2000000
def gearsB (R C : Int) (l : List (Int × Int)) : List Int := if goodB R C l then numL C.toNat l else []
theorem gearsB_len (R C : Int) (l : List (Int × Int)) (h : l.length ≤ 1048576) : (gearsB R C l).length ≤ 1048576 := by
  unfold gearsB
  split
  · rw [numL_len]; exact h
  · simp
theorem spec_GearGroups (R C : Int) (A : Option Addr) (cap : Nat) (l : List (Int × Int)) (w : World) (hn : l.length ≤ 1048576) (hr : Rd w w.heap.size A (flat l)) :
    Calls Try.prog 15 #[.agg #[.int .i64 R, .int .i64 C, .slice A l.length cap]] w (PostL w (gearsB R C l) (goodB R C l)) := by
  unfold gearsB
  rcases Bool.eq_false_or_eq_true (goodB R C l) with hg | hg
  · obtain ⟨r, c, rfl, rfl, hG⟩ := geo_of hg
    rw [hg, if_pos rfl, Int.toNat_natCast]
    have HG := Lib.hid hg
    clear hg
    go_enter Try.func15, Try.ntmps15
    obtain ⟨v0, hv0⟩ : ∃ v, v = w.alloc (.cells #[.int .i64 (r : Int), .int .i64 (c : Int), .slice A l.length cap] 31) := ⟨_, rfl⟩; have X0 : Whole v0 w.heap.size 31 [.int .i64 (r : Int), .int .i64 (c : Int), .slice A l.length cap] := (by rw [hv0]; exact heap_alloc_new w _); have hb : Below w.heap.size w v0 := (by rw [hv0]; exact (Below.refl _ _).alloc (Nat.le_refl _) _); have HV := Lib.hid hv0.symm; clear hv0; go_upto_region 1 with (fail); rewrite [HV.out]; clear HV; have X0k0 : v0.cell? ⟨w.heap.size, 0, none⟩ = some (.int .i64 (r : Int)) := (X0.cell 0).trans rfl; have X0k1 : v0.cell? ⟨w.heap.size, 1, none⟩ = some (.int .i64 (c : Int)) := (X0.cell 1).trans rfl; have X0k2 : v0.cell? ⟨w.heap.size, 2, none⟩ = some (.slice A l.length cap) := (X0.cell 2).trans rfl
    go_wp2_with fail
    refine (spec_boGood _ _ _ _ l _ hn ((hr.below hb).mono hb.size)).mono ?_; rintro e w1 ⟨rfl, b1⟩
    rewrite [HG.out]
    (clear X0k0 X0k1 X0k2; replace X0 := X0.below b1 X0.lt; replace hb := hb.trans (b1.mono hb.size); clear b1; have X0k0 : w1.cell? ⟨w.heap.size, 0, none⟩ = some (.int .i64 (r : Int)) := (X0.cell 0).trans rfl; have X0k1 : w1.cell? ⟨w.heap.size, 1, none⟩ = some (.int .i64 (c : Int)) := (X0.cell 1).trans rfl; have X0k2 : w1.cell? ⟨w.heap.size, 2, none⟩ = some (.slice A l.length cap) := (X0.cell 2).trans rfl)
    go_wp2_with fail
    refine (spec_ggGroups r c A cap l _ hG ((hr.below hb).mono hb.size)).mono ?_
    rintro e w3 hP
    obtain ⟨A2, c2, rfl, o2, n2, b3⟩ := hP.value
    go_wp2
    go_returns
    exact PostL.mk o2 (n2.mono hb.size) (hb.trans (b3.mono hb.size))
  · rw [hg]
    have HG := Lib.hid hg
    clear hg
    go_enter Try.func15, Try.ntmps15
    go_wp2_with fail
    refine (spec_boGood _ _ _ _ l _ hn ((hr.below (by (repeat' (first | (with_reducible exact Below.refl _ _) | (with_reducible assumption) | (with_reducible refine Below.alloc ?_ ?_ _) | (with_reducible refine Below.setCell ?_ ?_ _) | (with_reducible refine Below.drew ?_) | (with_reducible refine below_drewN ?_ _) | (with_reducible refine Below.trans ?_ (Below.mono (by assumption) ?_)) | (with_reducible exact Nat.le_refl _) | (simp; done) | omega | (simp at *; omega))) : Below w.heap.size w _)).mono (by go_size))).mono ?_; rintro e w1 ⟨rfl, b1⟩
    rewrite [HG.out]
    go_wp2
    go_returns
    exact PostL.none_ (by (repeat' (first | (with_reducible exact Below.refl _ _) | (with_reducible assumption) | (with_reducible refine Below.alloc ?_ ?_ _) | (with_reducible refine Below.setCell ?_ ?_ _) | (with_reducible refine Below.drew ?_) | (with_reducible refine below_drewN ?_ _) | (with_reducible refine Below.trans ?_ (Below.mono (by assumption) ?_)) | (with_reducible exact Nat.le_refl _) | (simp; done) | omega | (simp at *; omega))))
theorem LRow.setCell {w : World} {base g j : Nat} {v u : Value} {L : List (List Nat)} (h : LRow w base v L) (hg : g < base) : LRow (w.setCell ⟨g, j, none⟩ u) base v L := by
  obtain ⟨hs, h1, h2, h3⟩ := h
  refine ⟨hs, h1, ⟨h2.1, ?_⟩, fun k hk => ?_⟩
  · rcases h2.2 with h4 | ⟨q, cap, cur, e, h5, h6, h7⟩
    · exact .inl h4
    · exact .inr ⟨q, cap, cur, e, h5, (Below.heap_setCell w ⟨g, j, none⟩ u q (by show q ≠ g; omega)).trans h6, h7⟩
  · obtain ⟨A, cap, e, ho, hb⟩ := h3 k hk
    refine ⟨A, cap, e, fun hx => ?_, hb⟩
    obtain ⟨q, rest, e', hw⟩ := ho hx
    have := hb _ e'
    exact ⟨q, rest, e', (Below.heap_setCell w ⟨g, j, none⟩ u q (by show q ≠ g; simp at this; omega)).trans hw⟩
/-- The header of the list at place k, and the list. -/
theorem LRow.at_ {w : World} {base : Nat} {v : Value} {L : List (List Nat)} (h : LRow w base v L) {k : Nat} (hk : k < L.length) :
    ∃ go cap0 A cap, v = .slice (some ⟨go, 0, none⟩) L.length cap0 ∧ w.cell? ⟨go, k, none⟩ = some (.slice A L[k].length cap) ∧ Own w A 3 (ints (nI L[k])) ∧ (∀ a, A = some a → base ≤ a.block) ∧ go < w.heap.size := by
  obtain ⟨hs, h1, h2, h3⟩ := h
  obtain ⟨A0, cap0, rfl⟩ := slice_of_row h2
  obtain ⟨A, cap, e, ho, hb⟩ := h3 k hk
  obtain ⟨go, rest, rfl, hw⟩ := (own_of_row h2).1 (by omega)
  refine ⟨go, cap0, A, cap, rfl, ?_, ho, hb, hw.lt⟩
  rw [hw.cell k, List.getElem?_append_left (by omega), e]
theorem num_sort {n x : Nat} (hx : x < n) : ∀ (G : List (List Nat)) (c : Nat), num (G.map (sortN n)) c x = num G c x
  | [], c => rfl
  | g :: G, c => by
    have e : (sortN n g).contains x = g.contains x := by
      rw [Bool.eq_iff_iff, List.contains_iff_mem, List.contains_iff_mem, mem_sortN]
      exact ⟨fun h => h.2, fun h => ⟨hx, h⟩⟩
    show (if (sortN n g).contains x then (c : Int) else num (G.map (sortN n)) (c + 1) x) = _
    rw [e, num_sort hx G (c + 1)]
    rfl
theorem numV_sort {n : Nat} (G : List (List Nat)) : numV n (G.map (sortN n)) = numV n G := by
  unfold numV
  exact List.map_congr_left fun x hx => num_sort (List.mem_range.1 hx) G 0
def srtG (c : Nat) (l : List (Int × Int)) : List (List Nat) := (GG (c : Int) l).map (sortN l.length)
theorem srtG_new {r c t j : Nat} {l : List (Int × Int)} (hG : Geo r c l.length) (ht : t < (srtG c l).length) (hj : j < (srtG c l)[t].length) :
    (srtG c l)[t][j] < l.length ∧ (srtG c l)[t][j] ∉ ((srtG c l).take t).flatten ∧ (srtG c l)[t][j] ∉ (srtG c l)[t].take j := by
  have hA := groups_all hG
  have ht' : t < (GG (c : Int) l).length := by unfold srtG at ht; rwa [List.length_map] at ht
  have e : (srtG c l)[t] = sortN l.length (GG (c : Int) l)[t] := by simp only [srtG, List.getElem_map]
  have hm : (srtG c l)[t][j] ∈ sortN l.length (GG (c : Int) l)[t] := by rw [← e]; exact List.getElem_mem hj
  rw [mem_sortN] at hm
  refine ⟨hm.1, fun h => ?_, fun h => ?_⟩
  · obtain ⟨g, hg, hx⟩ := List.mem_flatten.1 h
    obtain ⟨s, hs, rfl⟩ := List.getElem_of_mem hg
    rw [List.getElem_take] at hx
    have hst : s < t := by rw [List.length_take] at hs; omega
    have e2 : (srtG c l)[s]'(by omega) = sortN l.length ((GG (c : Int) l)[s]'(by omega)) := by simp only [srtG, List.getElem_map]
    rw [e2, mem_sortN] at hx
    have n1 := (num_is (j := (srtG c l)[t][j]) _ 0 t hA.apart (List.getElem?_eq_getElem ht')).2 hm.2
    have n2 := (num_is (j := (srtG c l)[t][j]) _ 0 s hA.apart (List.getElem?_eq_getElem (by omega))).2 hx.2
    omega
  · have hp : (srtG c l)[t].Pairwise (· < ·) := by rw [e]; exact sortN_sorted _ _
    rw [List.mem_iff_getElem] at h
    obtain ⟨i, hi, hie⟩ := h
    rw [List.getElem_take] at hie
    rw [List.length_take] at hi
    have := List.pairwise_iff_getElem.1 hp i j (by omega) hj (by omega)
    omega
theorem srtG_len (c : Nat) (l : List (Int × Int)) : (srtG c l).length ≤ l.length := by
  unfold srtG GG
  rw [List.length_map]
  exact gat_len _ _ _ _
theorem numL_srt (c : Nat) (l : List (Int × Int)) : numV l.length (srtG c l) = numL c l := by
  unfold srtG
  rw [numV_sort]
  unfold numL GG
  rw [Int.toNat_natCast]
theorem srtG_cell (c : Nat) (l : List (Int × Int)) (t : Nat) (ht : t < (srtG c l).length) : (srtG c l)[t].length ≤ l.length := by
  simp only [srtG, List.getElem_map]
  exact sortN_length _
theorem impl_GearGroups (R C : Int) (A : Option Addr) (cap : Nat) (l : List (Int × Int)) (w : World) (hn : l.length ≤ 1048576) (hr : Rd w w.heap.size A (flat l)) :
    Calls Try.prog 17 #[.agg #[.int .i64 R, .int .i64 C, .slice A l.length cap]] w (PostL w (gearsB R C l) (goodB R C l)) := by
  unfold gearsB
  rcases Bool.eq_false_or_eq_true (goodB R C l) with hg | hg
  · have hpos := (goodB_parts hg).2.2
    obtain ⟨r, c, rfl, rfl, hG⟩ := geo_of hg
    rw [hg, if_pos rfl, Int.toNat_natCast, ← numL_srt]
    have HG := Lib.hid hg
    have n90 := hG.n90
    have hLn := srtG_len c l
    have HNew := Lib.hid (fun t j => srtG_new (t := t) (j := j) hG)
    have HCell := Lib.hid (srtG_cell c l)
    clear hg
    go_enter Try.func17, Try.ntmps17
    obtain ⟨v0, hv0⟩ : ∃ v, v = w.alloc (.cells #[.int .i64 (r : Int), .int .i64 (c : Int), .slice A l.length cap] 31) := ⟨_, rfl⟩; have X0 : Whole v0 w.heap.size 31 [.int .i64 (r : Int), .int .i64 (c : Int), .slice A l.length cap] := (by rw [hv0]; exact heap_alloc_new w _); have hb : Below w.heap.size w v0 := (by rw [hv0]; exact (Below.refl _ _).alloc (Nat.le_refl _) _); have HV := Lib.hid hv0.symm; clear hv0; go_upto_region 1 with (fail); rewrite [HV.out]; clear HV; have X0k0 : v0.cell? ⟨w.heap.size, 0, none⟩ = some (.int .i64 (r : Int)) := (X0.cell 0).trans rfl; have X0k1 : v0.cell? ⟨w.heap.size, 1, none⟩ = some (.int .i64 (c : Int)) := (X0.cell 1).trans rfl; have X0k2 : v0.cell? ⟨w.heap.size, 2, none⟩ = some (.slice A l.length cap) := (X0.cell 2).trans rfl
    go_wp2_with fail
    refine (impl_IsBoard _ _ _ _ l _ hn ((hr.below hb).mono hb.size)).mono ?_; rintro e w1 ⟨rfl, b1⟩
    rewrite [HG.out]
    (clear X0k0 X0k1 X0k2; replace X0 := X0.below b1 X0.lt; replace hb := hb.trans (b1.mono hb.size); clear b1; have X0k0 : w1.cell? ⟨w.heap.size, 0, none⟩ = some (.int .i64 (r : Int)) := (X0.cell 0).trans rfl; have X0k1 : w1.cell? ⟨w.heap.size, 1, none⟩ = some (.int .i64 (c : Int)) := (X0.cell 1).trans rfl; have X0k2 : w1.cell? ⟨w.heap.size, 2, none⟩ = some (.slice A l.length cap) := (X0.cell 2).trans rfl)
    have hz0 := X0.lt
    have hw1 := hb.size
    go_wp2_with fail
    have hc1 : (w1.alloc (.cells #[.int .i64 (-1)] 3)).cell? ⟨w1.heap.size, 0, none⟩ = some (.int .i64 (-1)) := (Whole.cell (show Whole (w1.alloc (.cells #[.int .i64 (-1)] 3)) w1.heap.size 3 [.int .i64 (-1)] from heap_alloc_new w1 _) 0).trans rfl
    refine (impl_Repeat w1.heap.size 0 1 (-1) l.length _ n90 hpos hc1).mono ?_
    rintro e w2 ⟨rfl, X1, b2⟩
    have e1 : List.replicate l.length (Value.int .i64 (-1)) = ints (numV l.length ((srtG c l).take 0)) := by rw [List.take_zero, numV_nil]
    rw [e1] at X1
    clear e1 hc1
    have ba : Below w1.heap.size w1 w2 := ((Below.refl _ _).alloc (Nat.le_refl _) _).trans (b2.mono (by simp))
    clear b2
    (clear X0k0 X0k1 X0k2; replace X0 := X0.below ba X0.lt; replace hb := hb.trans (ba.mono hb.size); clear ba; have X0k0 : w2.cell? ⟨w.heap.size, 0, none⟩ = some (.int .i64 (r : Int)) := (X0.cell 0).trans rfl; have X0k1 : w2.cell? ⟨w.heap.size, 1, none⟩ = some (.int .i64 (c : Int)) := (X0.cell 1).trans rfl; have X0k2 : w2.cell? ⟨w.heap.size, 2, none⟩ = some (.slice A l.length cap) := (X0.cell 2).trans rfl)
    rw [World.size_alloc] at X1
    have hg1 : w.heap.size < w1.heap.size + 1 := by omega
    clear hz0 hw1
    rewrite [World.size_alloc]
    generalize w1.heap.size + 1 = g1 at *
    go_wp2_with fail
    refine (impl_groupsOf r c A cap l _ hG ((hr.below hb).mono hb.size)).mono ?_
    rintro e w3 ⟨v, rfl, hL, b3⟩
    have hL : LRow w3 w2.heap.size v (srtG c l) := hL
    have hg2 := X1.lt
    replace X1 := X1.below b3 X1.lt
    (clear X0k0 X0k1 X0k2; replace X0 := X0.below b3 X0.lt; replace hb := hb.trans (b3.mono hb.size); clear b3; have X0k0 : w3.cell? ⟨w.heap.size, 0, none⟩ = some (.int .i64 (r : Int)) := (X0.cell 0).trans rfl; have X0k1 : w3.cell? ⟨w.heap.size, 1, none⟩ = some (.int .i64 (c : Int)) := (X0.cell 1).trans rfl; have X0k2 : w3.cell? ⟨w.heap.size, 2, none⟩ = some (.slice A l.length cap) := (X0.cell 2).trans rfl)
    clear X0k0 X0k1 X0k2
    obtain ⟨A3, c3, rfl⟩ := hL.shape
    generalize w2.heap.size = base at *
    go_wp2_with fail
    go_loopw [20] (fun t wr => ∃ k : Nat, t = .int .i64 k ∧ k ≤ (srtG c l).length ∧ Whole wr g1 3 (ints (numV l.length ((srtG c l).take k))) ∧ LRow wr base (.slice A3 (srtG c l).length c3) (srtG c l) ∧ Below w.heap.size w wr) (fun t _ => (srtG c l).length - (intOf t).toNat)
    case atStart => exact ⟨0, rfl, Nat.zero_le _, X1, hL, hb⟩
    case round =>
      clear X1 hL X0 hb
      obtain ⟨k, rfl, hk, X1, hL, hb⟩ := hrel
      by_cases hlt : k < (srtG c l).length
      · obtain ⟨go, cap0, A4, c4, e4, hh, ho4, hb4, hgo⟩ := hL.at_ hlt
        have eA : A3 = some ⟨go, 0, none⟩ := by injection e4
        subst eA
        clear e4
        go_wp2_with fail
        go_loopw [27] (fun t wr => ∃ j : Nat, t = .int .i64 j ∧ j ≤ (srtG c l)[k].length ∧ Whole wr g1 3 (ints (numV l.length ((srtG c l).take k ++ [(srtG c l)[k].take j]))) ∧ LRow wr base (.slice (some ⟨go, 0, none⟩) (srtG c l).length c3) (srtG c l) ∧ Own wr A4 3 (ints (nI (srtG c l)[k])) ∧ Below w.heap.size w wr) (fun t _ => (srtG c l)[k].length - (intOf t).toNat)
        case atStart => exact ⟨0, rfl, Nat.zero_le _, by rw [List.take_zero, numV_empty]; exact X1, hL, ho4, hb⟩
        case round =>
          clear X1 hL hb ho4 hh hgo
          obtain ⟨j, rfl, hj, X1, hL, ho4, hb⟩ := hrel
          by_cases hjl : j < (srtG c l)[k].length
          · obtain ⟨hy, hv, hq⟩ := HNew.out k j hlt hjl
            obtain ⟨g5, rest5, rfl, hw5⟩ := ho4 (by rw [ints_length, nI_length]; omega)
            have hc5 := row_num hw5 hjl
            have hge := hb4 _ rfl
            have HT := Lib.hid (List.take_succ_eq_append_getElem hjl)
            have hset := numV_set (n := l.length) hv hq
            rw [List.length_take, Nat.min_eq_left (by omega)] at hset
            have HSet := Lib.hid hset
            have hcy := (X1.cell ((srtG c l)[k][j])).trans (numV_at hy)
            have hfy := X1.frozen ((srtG c l)[k][j])
            clear hset
            have hlk := HCell.out k hlt
            generalize hyy : (srtG c l)[k][j] = y at *
            go_wp2_with fail
            have X6 := X1.set y (.int .i64 (k : Int))
            rw [HSet.out, ← HT.out] at X6
            have ho6 : Own (wr.setCell ⟨g1, y, none⟩ (.int .i64 (k : Int))) (some ⟨g5, 0, none⟩) 3 (ints (nI (srtG c l)[k])) := fun _ => ⟨g5, rest5, rfl, (Below.heap_setCell wr ⟨g1, y, none⟩ _ g5 (by show g5 ≠ g1; simp at hge; omega)).trans hw5⟩
            go_roundw
            case rel => exact ⟨j + 1, by go_num, by omega, X6, hL.setCell hg2, ho6, hb.setCell (p := ⟨g1, y, none⟩) (by show w.heap.size ≤ g1; omega) _⟩
            case measure => simp [intOf]; omega
          · obtain rfl : j = (srtG c l)[k].length := by omega
            rw [List.take_length] at X1
            have e6 : (srtG c l).take k ++ [(srtG c l)[k]] = (srtG c l).take (k + 1) := (List.take_succ_eq_append_getElem hlt).symm
            rw [e6] at X1
            go_wp2
            go_roundw
            case rel => exact ⟨k + 1, by go_num, by omega, X1, hL, hb⟩
            case measure => simp [intOf]; omega
      · obtain rfl : k = (srtG c l).length := by omega
        rw [List.take_length] at X1
        go_wp2
        go_returns
        have hx := PostL.mk (w := w) (cap' := l.length) (ok := true) (Whole.own X1) (fun a ha => by cases ha; show w.heap.size ≤ g1; omega) hb
        rw [numV_len] at hx
        exact hx
  · rw [hg]
    have HG := Lib.hid hg
    clear hg
    go_enter Try.func17, Try.ntmps17
    go_wp2_with fail
    refine (impl_IsBoard _ _ _ _ l _ hn ((hr.below (by (repeat' (first | (with_reducible exact Below.refl _ _) | (with_reducible assumption) | (with_reducible refine Below.alloc ?_ ?_ _) | (with_reducible refine Below.setCell ?_ ?_ _) | (with_reducible refine Below.drew ?_) | (with_reducible refine below_drewN ?_ _) | (with_reducible refine Below.trans ?_ (Below.mono (by assumption) ?_)) | (with_reducible exact Nat.le_refl _) | (simp; done) | omega | (simp at *; omega))) : Below w.heap.size w _)).mono (by go_size))).mono ?_; rintro e w1 ⟨rfl, b1⟩
    rewrite [HG.out]
    go_wp2
    go_returns
    exact PostL.none_ (by (repeat' (first | (with_reducible exact Below.refl _ _) | (with_reducible assumption) | (with_reducible refine Below.alloc ?_ ?_ _) | (with_reducible refine Below.setCell ?_ ?_ _) | (with_reducible refine Below.drew ?_) | (with_reducible refine below_drewN ?_ _) | (with_reducible refine Below.trans ?_ (Below.mono (by assumption) ?_)) | (with_reducible exact Nat.le_refl _) | (simp; done) | omega | (simp at *; omega))))
end Go.Proofs.Ytkgbbondafcjpaa
