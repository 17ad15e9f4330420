/- AlignGears, the model's, walked. -/
import Derived.Test.YtdpgbgniejlilaaAlignS
namespace Go.Proofs.Ytdpgbgniejlilaa
open Go.ChangeShapes Go.WideShapes Go.ChangeAt Go.RowKit Go.Joins Go.Deep
set_option linter.unusedSimpArgs false
set_option linter.unusedVariables false
set_option maxRecDepth 100000
set_option maxHeartbeats 8000000
theorem cell_far1 {w : World} {g j b o : Nat} {u : Value} (hne : b ≠ g) : (w.setCell ⟨g, j, none⟩ u).cell? ⟨b, o, none⟩ = w.cell? ⟨b, o, none⟩ := by
  have h := Below.heap_setCell w ⟨g, j, none⟩ u b hne
  unfold World.cell?
  simp only [h]
theorem spec_AlignGears_yes (r c : Nat) (b o cap : Nat) (l : List (Int × Int)) (w : World) (hG : Geo r c l.length) (hg : goodB (r : Int) (c : Int) l = true) (hn : l.length ≤ 1048576) (hr : Rd w w.heap.size (some ⟨b, o, none⟩) (flat l)) :
    Calls Try.prog 17 #[.agg #[.int .i64 (r : Int), .int .i64 (c : Int), .slice (some ⟨b, o, none⟩) l.length cap]] w (PostB w (r : Int) (c : Int) (alignL (c : Int) l) true) := by
  have hpos := (goodB_parts hg).2.2
  have HG := Lib.hid hg
  have n90 := hG.n90
  have hGl := GG_len c l
  have HSt := Lib.hid (fun y (hy : y < l.length) (_ : gearK l y = true) => (show 0 ≤ (l.getD y (0, 0)).2 by
    have h := (goodB_iff.1 hg).2.2 _ (List.getElem_mem hy)
    rw [List.getD_eq_getElem?_getD, List.getElem?_eq_getElem hy]
    show 0 ≤ l[y].2
    unfold good at h
    simp at h
    omega))
  obtain ⟨b', o', e0, hbl, hc⟩ := hr (by rw [flat_length]; omega)
  cases e0
  have hr' : Rd w w.heap.size (some ⟨b, o, none⟩) (flat l) := fun _ => ⟨b, o, rfl, hbl, hc⟩
  have hmk := fun w => run_make_ints (GG (c : Int) l).length (by omega) w
  have hmost := most_num hG
  unfold alignL
  clear hg hr
  go_enter Try.func17, Try.ntmps17
  obtain ⟨v0, hv0, X0, X1, B0, hz0⟩ := two_boxes w [.int .i64 (r : Int), .int .i64 (c : Int), .slice (some ⟨b, o, none⟩) l.length cap] 30 [.int .i64 0, .int .i64 0, .slice none 0 0] 30; have HV := Lib.hid hv0; have hz : w.heap.size + 1 < v0.heap.size := (by omega); have hy : w.heap.size < v0.heap.size := (by omega); have hb0 := B0.size; clear hv0 hz0; go_wp2_with fail; rewrite [show (w.alloc (.cells ([.int .i64 (r : Int), .int .i64 (c : Int), .slice (some ⟨b, o, none⟩) l.length cap] : List Value).toArray 30)).alloc (.cells ([.int .i64 0, .int .i64 0, .slice none 0 0] : List Value).toArray 30) = v0 from HV.out]; clear HV
  refine (spec_boGood _ _ _ _ l _ hn ((hr'.below B0).mono B0.size)).mono ?_; rintro e w1 ⟨rfl, b1⟩
  rewrite [HG.out]
  replace X0 := X0.below b1 X0.lt; replace X1 := X1.below b1 X1.lt; replace B0 := B0.trans (b1.mono B0.size); have hy := X0.lt; have hz := X1.lt; have hb0 := B0.size; clear b1
  have X0k0 : w1.cell? ⟨w.heap.size, 0, none⟩ = some (.int .i64 (r : Int)) := (X0.cell 0).trans rfl; have X0k1 : w1.cell? ⟨w.heap.size, 1, none⟩ = some (.int .i64 (c : Int)) := (X0.cell 1).trans rfl; have X0k2 : w1.cell? ⟨w.heap.size, 2, none⟩ = some (.slice (some ⟨b, o, none⟩) l.length cap) := (X0.cell 2).trans rfl
  go_wp2_with fail
  refine (spec_ggGroupsN r c _ cap l _ hG ((hr'.below B0).mono B0.size)).mono ?_
  rintro e w3 ⟨A6, c6, rfl, o6, n6, b3⟩
  clear X0k0 X0k1 X0k2
  have n6' : ∀ a, A6 = some a → w.heap.size + 1 < a.block := fun a ha => Nat.lt_of_lt_of_le hz (n6 a ha)
  clear n6
  replace X0 := X0.below b3 X0.lt; replace X1 := X1.below b3 X1.lt; replace B0 := B0.trans (b3.mono B0.size); have hy := X0.lt; have hz := X1.lt; have hb0 := B0.size; clear b3
  obtain ⟨g6, rest6, rfl, X6⟩ := o6 (by rw [ints_length, numL_len]; exact hpos)
  have h6 : w.heap.size + 1 < g6 := n6' _ rfl
  clear o6 n6'
  have hcnt := spec_ggCount g6 c6 rest6 (numL c l) w3 (by rw [numL_len]; omega) (numL_range n90) X6
  rw [numL_len, hmost] at hcnt
  generalize hng : (GG (c : Int) l).length = ng at *
  go_wp2_with fail
  refine hcnt.mono ?_; rintro e w4 ⟨rfl, rfl⟩
  clear hcnt
  go_upto_region 5 with (fail)
  have X8 : Whole (w4.alloc (.cells (zrow ng).toArray 3)) w4.heap.size 3 (fillM ng 0) := heap_alloc_new w4 _
  have bd : Below w4.heap.size w4 (w4.alloc (.cells (zrow ng).toArray 3)) := (Below.refl _ _).alloc (Nat.le_refl _) _
  have h8 : w.heap.size + 1 < w4.heap.size := hz
  have h68 : g6 < w4.heap.size := X6.lt
  replace X6 := X6.below bd X6.lt
  generalize w4.alloc (.cells (zrow ng).toArray 3) = w5 at *
  replace X0 := X0.below bd X0.lt; replace X1 := X1.below bd X1.lt; replace B0 := B0.trans (bd.mono B0.size); have hy := X0.lt; have hz := X1.lt; have hb0 := B0.size; clear bd
  generalize w4.heap.size = g8 at *
  go_wp2_with fail
  go_loopw [21] (fun j wr => ∃ k : Nat, j = .int .i64 k ∧ k ≤ ng ∧ Whole wr w.heap.size 30 [.int .i64 (r : Int), .int .i64 (c : Int), .slice (some ⟨b, o, none⟩) l.length cap] ∧ Whole wr (w.heap.size + 1) 30 [.int .i64 0, .int .i64 0, .slice none 0 0] ∧ Whole wr g6 3 (ints (numL c l) ++ rest6) ∧ Whole wr g8 3 (fillM ng k) ∧ Below w.heap.size w wr) (fun j _ => ng - (intOf j).toNat)
  case atStart => exact ⟨0, rfl, Nat.zero_le _, X0, X1, X6, X8, B0⟩
  case round =>
    clear X0 X1 X6 X8 B0 hy hz hb0
    obtain ⟨k, rfl, hk, X0, X1, X6, X8, B0⟩ := hrel
    have hy := X0.lt
    have hz := X1.lt
    have hb0 := B0.size
    by_cases hlt : k < ng
    · have hk1 := (X8.cell k).trans (fill_at hlt)
      have hk2 := X8.frozen k
      have HS := Lib.hid (fill_set hlt)
      go_wp2
      go_roundw
      case rel => exact ⟨k + 1, by go_num, by omega, X0.set_far _ _ (show g8 ≠ w.heap.size by omega), X1.set_far _ _ (show g8 ≠ w.heap.size + 1 by omega), X6.set_far _ _ (show g8 ≠ g6 by omega), by rw [← HS.out]; exact X8.set _ _, B0.setCell (p := ⟨g8, k, none⟩) (by show w.heap.size ≤ g8; omega) _⟩
      case measure => simp [intOf]; omega
    · obtain rfl : ng = k := by omega
      rw [← stK_zero (C := (c : Int)) (l := l)] at X8
      have X0k0 : wr.cell? ⟨w.heap.size, 0, none⟩ = some (.int .i64 (r : Int)) := (X0.cell 0).trans rfl; have X0k1 : wr.cell? ⟨w.heap.size, 1, none⟩ = some (.int .i64 (c : Int)) := (X0.cell 1).trans rfl; have X0k2 : wr.cell? ⟨w.heap.size, 2, none⟩ = some (.slice (some ⟨b, o, none⟩) l.length cap) := (X0.cell 2).trans rfl
      go_wp2_with fail
      refine (spec_boOwn _ _ b o cap l _ hpos (by omega) ((hr'.below B0).mono B0.size)).mono ?_
      rintro e w6 ⟨A5, c5, rfl, o5, n5, b6⟩
      clear X0k0 X0k1 X0k2
      have h68' : g8 < wr.heap.size := X8.lt
      have h66' : g6 < wr.heap.size := X6.lt
      have n5' : ∀ a, A5 = some a → wr.heap.size ≤ a.block := n5
      clear n5
      replace X6 := X6.below b6 X6.lt
      replace X8 := X8.below b6 X8.lt
      replace X0 := X0.below b6 X0.lt; replace X1 := X1.below b6 X1.lt; replace B0 := B0.trans (b6.mono B0.size); have hy := X0.lt; have hz := X1.lt; have hb0 := B0.size; clear b6
      go_upto_region 11 with (fail)
      obtain ⟨w7, hw7⟩ : ∃ v, v = w6.alloc (.cells #[.int .i64 (r : Int), .int .i64 (c : Int), .slice A5 l.length c5] 30) := ⟨_, rfl⟩
      have X5 : Whole w7 w6.heap.size 30 [.int .i64 (r : Int), .int .i64 (c : Int), .slice A5 l.length c5] := by rw [hw7]; exact heap_alloc_new w6 _
      have b7 : Below w6.heap.size w6 w7 := by rw [hw7]; exact (Below.refl _ _).alloc (Nat.le_refl _) _
      rewrite [← hw7]
      clear hw7
      obtain ⟨g5, rest5, rfl, X7⟩ := o5 (by rw [flat_length]; omega)
      have h5 : wr.heap.size ≤ g5 := n5' _ rfl
      have h5' : g5 < w6.heap.size := X7.lt
      replace X7 := X7.below b7 X7.lt
      replace X6 := X6.below b7 X6.lt
      replace X8 := X8.below b7 X8.lt
      replace X0 := X0.below b7 X0.lt; replace X1 := X1.below b7 X1.lt; replace B0 := B0.trans (b7.mono B0.size); have hy := X0.lt; have hz := X1.lt; have hb0 := B0.size; clear b7
      clear o5 n5'
      rw [← upA_zero (l := l) (v := alV (c : Int) l)] at X7
      generalize w6.heap.size = G5 at *
      generalize wr.heap.size = G4 at *
      clear hk hlt
      have X0k0 : w7.cell? ⟨w.heap.size, 0, none⟩ = some (.int .i64 (r : Int)) := (X0.cell 0).trans rfl; have X0k1 : w7.cell? ⟨w.heap.size, 1, none⟩ = some (.int .i64 (c : Int)) := (X0.cell 1).trans rfl; have X0k2 : w7.cell? ⟨w.heap.size, 2, none⟩ = some (.slice (some ⟨b, o, none⟩) l.length cap) := (X0.cell 2).trans rfl
      go_wp2_with fail
      clear X0k0 X0k1 X0k2
      go_loopw [33] (fun t wr => ∃ k : Nat, t = .int .i64 k ∧ k ≤ l.length ∧ Whole wr w.heap.size 30 [.int .i64 (r : Int), .int .i64 (c : Int), .slice (some ⟨b, o, none⟩) l.length cap] ∧ Whole wr (w.heap.size + 1) 30 [.int .i64 0, .int .i64 0, .slice none 0 0] ∧ Whole wr G5 30 [.int .i64 (r : Int), .int .i64 (c : Int), .slice (some ⟨g5, 0, none⟩) l.length c5] ∧ Whole wr g6 3 (ints (numL c l) ++ rest6) ∧ Whole wr g5 34 (flat (mixS l (alV (c : Int) l) (upA l k)) ++ rest5) ∧ Whole wr g8 3 (ints (stK (c : Int) l ng k)) ∧ Below w.heap.size w wr) (fun t _ => l.length - (intOf t).toNat)
      case atStart => exact ⟨0, rfl, Nat.zero_le _, X0, X1, X5, X6, X7, X8, B0⟩
      case round =>
        clear X0 X1 X5 X6 X7 X8 B0
        obtain ⟨k, rfl, hk, X0, X1, X5, X6, X7, X8, hb⟩ := hrel
        by_cases hlt : k < l.length
        · obtain ⟨hc0, hc1⟩ := cell_at2 hb hbl hc hlt
          have hget : l.getD k (0, 0) = l[k] := by rw [List.getD_eq_getElem?_getD, List.getElem?_eq_getElem hlt]; rfl
          have hs := hb.size
          go_upto_region 14 with (fail)
          obtain ⟨w9, hw9⟩ : ∃ v, v = wr.alloc (.cells #[.int .i64 l[k].1, .int .i64 l[k].2] 34) := ⟨_, rfl⟩
          have X9 : Whole w9 wr.heap.size 34 [.int .i64 l[k].1, .int .i64 l[k].2] := by rw [hw9]; exact heap_alloc_new wr _
          have b9 : Below wr.heap.size wr w9 := by rw [hw9]; exact (Below.refl _ _).alloc (Nat.le_refl _) _
          rewrite [← hw9]
          clear hw9
          have hl0 := X0.lt
          have hl5 := X5.lt
          have hl6 := X6.lt
          have hl7 := X7.lt
          have hl8 := X8.lt
          replace X0 := X0.below b9 X0.lt
          replace X1 := X1.below b9 X1.lt
          replace X5 := X5.below b9 X5.lt
          replace X6 := X6.below b9 X6.lt
          replace X7 := X7.below b9 X7.lt
          replace X8 := X8.below b9 X8.lt
          replace hb := hb.trans (b9.mono hs)
          clear b9 hs hc0 hc1
          generalize wr.heap.size = gx at *
          have e0 : w9.cell? ⟨gx, 0, none⟩ = some (.int .i64 l[k].1) := (X9.cell 0).trans rfl
          have e1 : w9.cell? ⟨gx, 1, none⟩ = some (.int .i64 l[k].2) := (X9.cell 1).trans rfl
          by_cases h66 : l[k].1 = 6
          · have hk6 : (l.getD k (0, 0)).1 = 6 := by rw [hget]; exact h66
            have hgk : gearK l k = true := by unfold gearK; rw [hk6]; rfl
            obtain ⟨m, hm, hmn⟩ := nmb_gear hG hlt hk6
            rw [hng] at hmn
            obtain ⟨s1, s2, s3⟩ := stAt_gear hlt hgk HSt.out
            rw [hm, hget] at s1
            rw [hm] at s2 s3
            have hc6 : w9.cell? ⟨g6, k, none⟩ = some (.int .i64 (m : Int)) := by rw [← hm]; exact (X6.cell k).trans ((List.getElem?_append_left (by rw [ints_length, numL_len]; exact hlt)).trans (numL_at hlt))
            have hc8 := (X8.cell m).trans (stK_at hmn)
            have HU0 := Lib.hid (fun s (hs : stAt (c : Int) l (m : Int) l.length = s) => upA_state (C := (c : Int)) (rest := rest5) (s := s) hlt hk6 (by rw [hm]; exact hs))
            have HS := Lib.hid (fun s => stK_set (n := ng) (s := s) hm)
            have HK := Lib.hid (stK_keep (n := ng) hm)
            have hTl : k < (mixS l (alV (c : Int) l) (upA l k)).length := by rw [mixS_len]; exact hlt
            have hmn' : (m : Int) < (ng : Int) := by omega
            have hm0 : (0 : Int) ≤ (m : Int) := by omega
            have hk0 : (0 : Int) ≤ (k : Int) := by omega
            have hkl' : (k : Int) < (l.length : Int) := by omega
            rw [h66] at e0
            clear h66 hget hk6 hgk hm
            rw [← s3] at HU0
            clear s3
            generalize l[k].2 = st0 at *
            by_cases hneg : stAt (c : Int) l (m : Int) k < 0
            · have s1' := s1 hneg
              have HU := Lib.hid (HU0.out _ s1')
              have hX8 := X8.set m (.int .i64 st0)
              rw [HS.out _ s1'] at hX8
              have HS1 := Lib.hid s1'
              clear s1 s2 HU0 HS HK s1'
              generalize stAt (c : Int) l (m : Int) k = sk at *
              go_upto_region 16 with (fail)
              have q8 := hc8
              have f8 := X8.frozen m
              have KS := Lib.hid (fun (w' : World) (h : Below w9.heap.size w9 w') => (⟨(h.cell (p := ⟨g6, k, none⟩) X6.lt).trans hc6, (h.cell (p := ⟨gx, 1, none⟩) X9.lt).trans e1⟩ : w'.cell? ⟨g6, k, none⟩ = some (.int .i64 (m : Int)) ∧ w'.cell? ⟨gx, 1, none⟩ = some (.int .i64 st0)))
              have KS2 := Lib.hid (fun (w' : World) (u : Value) (h : Below w9.heap.size w9 w') => (⟨(cell_far1 (j := m) (u := u) (show g6 ≠ g8 by omega)).trans (KS.out w' h).1, (cell_far1 (j := m) (u := u) (show gx ≠ g8 by omega)).trans (KS.out w' h).2⟩ : (w'.setCell ⟨g8, m, none⟩ u).cell? ⟨g6, k, none⟩ = some (.int .i64 (m : Int)) ∧ (w'.setCell ⟨g8, m, none⟩ u).cell? ⟨gx, 1, none⟩ = some (.int .i64 st0)))
              have HX := Lib.hid (⟨X0.set_far ⟨g8, m, none⟩ (.int .i64 st0) (show g8 ≠ w.heap.size by omega), X1.set_far ⟨g8, m, none⟩ (.int .i64 st0) (show g8 ≠ w.heap.size + 1 by omega), X5.set_far ⟨g8, m, none⟩ (.int .i64 st0) (show g8 ≠ G5 by omega), X6.set_far ⟨g8, m, none⟩ (.int .i64 st0) (show g8 ≠ g6 by omega), X7.set_far ⟨g8, m, none⟩ (.int .i64 st0) (show g8 ≠ g5 by omega), hX8, hb.setCell (p := ⟨g8, m, none⟩) (by show w.heap.size ≤ g8; omega) (.int .i64 st0), (cell_far1 (j := m) (u := .int .i64 st0) (show g6 ≠ g8 by omega)).trans hc6⟩ : _ ∧ _ ∧ _ ∧ _ ∧ _ ∧ _ ∧ _ ∧ _)
              clear hc6 hc8 hX8 e0 e1
              go_region_held3 (fun w' => w'.cell? ⟨g6, k, none⟩ = some (.int .i64 (m : Int)) ∧ w'.cell? ⟨gx, 1, none⟩ = some (.int .i64 st0))
                (first | exact KS2.out w9 _ (Below.refl _ _) | exact KS.out _ (by (repeat' (first | (with_reducible exact Below.refl _ _) | (with_reducible assumption) | (with_reducible refine Below.alloc ?_ ?_ _) | (with_reducible refine Below.setCell ?_ ?_ _) | (with_reducible refine Below.drew ?_) | (with_reducible refine below_drewN ?_ _) | (with_reducible refine Below.trans ?_ (Below.mono (by assumption) ?_)) | go_size))) | fail)
                (fail)
              clear KS KS2 X0 X1 X5 X6 X7 X8 X9 hb q8 f8
              obtain ⟨X0, X1, X5, X6, X7, X8, hb, hc6⟩ := HX.out
              clear HX
              have X0a : Whole (w9.setCell ⟨g8, m, none⟩ (.int .i64 st0)).drew _ _ _ := X0
              have X1a : Whole (w9.setCell ⟨g8, m, none⟩ (.int .i64 st0)).drew _ _ _ := X1
              have X5a : Whole (w9.setCell ⟨g8, m, none⟩ (.int .i64 st0)).drew _ _ _ := X5
              have X6a : Whole (w9.setCell ⟨g8, m, none⟩ (.int .i64 st0)).drew _ _ _ := X6
              have X7a : Whole (w9.setCell ⟨g8, m, none⟩ (.int .i64 st0)).drew _ _ _ := X7
              have X8a : Whole (w9.setCell ⟨g8, m, none⟩ (.int .i64 st0)).drew _ _ _ := X8
              have hba : Below w.heap.size w (w9.setCell ⟨g8, m, none⟩ (.int .i64 st0)).drew := hb.drew
              have hca : (w9.setCell ⟨g8, m, none⟩ (.int .i64 st0)).drew.cell? ⟨g6, k, none⟩ = some (.int .i64 (m : Int)) := hc6
              clear X0 X1 X5 X6 X7 X8 hb hc6
              have X0 := X0a
              have X1 := X1a
              have X5 := X5a
              have X6 := X6a
              have X7 := X7a
              have X8 := X8a
              have hb := hba
              have hc6 := hca
              clear X0a X1a X5a X6a X7a X8a hba hca
              generalize (w9.setCell ⟨g8, m, none⟩ (.int .i64 st0)).drew = wa at *
              have hc8 : wa.cell? ⟨g8, m, none⟩ = some (.int .i64 st0) := by rw [← HS1.out]; exact (X8.cell m).trans (stK_at hmn)
              clear HS1
              go_upto_region 17 with (fail)
              have q0 : ∃ u, wa.cell? ⟨g5, k * 2 + 1, none⟩ = some u := ⟨_, by rw [X7.cell, List.getElem?_append_left (by rw [flat_length]; omega)]; exact (flat_at _ k hTl).2⟩
              obtain ⟨u0, q0⟩ := q0
              have f0 := X7.frozen (k * 2 + 1)
              have d5 : wa.cell? ⟨G5, 2, none⟩ = some (.slice (some ⟨g5, 0, none⟩) l.length c5) := (X5.cell 2).trans rfl
              have KS := Lib.hid (fun (w' : World) (h : Below wa.heap.size wa w') => (⟨(h.cell (p := ⟨G5, 2, none⟩) X5.lt).trans d5, (h.cell (p := ⟨g6, k, none⟩) X6.lt).trans hc6, (h.cell (p := ⟨g8, m, none⟩) X8.lt).trans hc8⟩ : w'.cell? ⟨G5, 2, none⟩ = some (.slice (some ⟨g5, 0, none⟩) l.length c5) ∧ w'.cell? ⟨g6, k, none⟩ = some (.int .i64 (m : Int)) ∧ w'.cell? ⟨g8, m, none⟩ = some (.int .i64 st0)))
              have KS2 := Lib.hid (fun (w' : World) (u : Value) (h : Below wa.heap.size wa w') => (⟨(cell_far1 (j := k * 2 + 1) (u := u) (show G5 ≠ g5 by omega)).trans (KS.out w' h).1, (cell_far1 (j := k * 2 + 1) (u := u) (show g6 ≠ g5 by omega)).trans (KS.out w' h).2.1, (cell_far1 (j := k * 2 + 1) (u := u) (show g8 ≠ g5 by omega)).trans (KS.out w' h).2.2⟩ : (w'.setCell ⟨g5, k * 2 + 1, none⟩ u).cell? ⟨G5, 2, none⟩ = some (.slice (some ⟨g5, 0, none⟩) l.length c5) ∧ (w'.setCell ⟨g5, k * 2 + 1, none⟩ u).cell? ⟨g6, k, none⟩ = some (.int .i64 (m : Int)) ∧ (w'.setCell ⟨g5, k * 2 + 1, none⟩ u).cell? ⟨g8, m, none⟩ = some (.int .i64 st0)))
              have X7' := X7.set (k * 2 + 1) (.int .i64 st0)
              rw [HU.out] at X7'
              have HX := Lib.hid (⟨X0.set_far ⟨g5, k * 2 + 1, none⟩ (.int .i64 st0) (show g5 ≠ w.heap.size by omega), X1.set_far ⟨g5, k * 2 + 1, none⟩ (.int .i64 st0) (show g5 ≠ w.heap.size + 1 by omega), X5.set_far ⟨g5, k * 2 + 1, none⟩ (.int .i64 st0) (show g5 ≠ G5 by omega), X6.set_far ⟨g5, k * 2 + 1, none⟩ (.int .i64 st0) (show g5 ≠ g6 by omega), X7', X8.set_far ⟨g5, k * 2 + 1, none⟩ (.int .i64 st0) (show g5 ≠ g8 by omega), hb.setCell (p := ⟨g5, k * 2 + 1, none⟩) (by show w.heap.size ≤ g5; omega) (.int .i64 st0)⟩ : _ ∧ _ ∧ _ ∧ _ ∧ _ ∧ _ ∧ _)
              clear d5 hc6 hc8 X7'
              go_region_held3 (fun w' => w'.cell? ⟨G5, 2, none⟩ = some (.slice (some ⟨g5, 0, none⟩) l.length c5) ∧ w'.cell? ⟨g6, k, none⟩ = some (.int .i64 (m : Int)) ∧ w'.cell? ⟨g8, m, none⟩ = some (.int .i64 st0))
                (first | exact KS2.out wa _ (Below.refl _ _) | exact KS.out _ (by (repeat' (first | (with_reducible exact Below.refl _ _) | (with_reducible assumption) | (with_reducible refine Below.alloc ?_ ?_ _) | (with_reducible refine Below.setCell ?_ ?_ _) | (with_reducible refine Below.drew ?_) | (with_reducible refine below_drewN ?_ _) | (with_reducible refine Below.trans ?_ (Below.mono (by assumption) ?_)) | go_size))) | fail)
                (fail)
              obtain ⟨X0', X1', X5', X6', X7', X8', hb'⟩ := HX.out
              clear KS KS2 X0 X1 X5 X6 X7 X8 hb q0 f0 HX
              go_wp2
              go_roundw
              case rel => exact ⟨k + 1, by go_num, by omega, X0', X1', X5', X6', X7', X8', hb'.drew⟩
              case measure => simp [intOf]; omega
            · have s2' := s2 hneg
              have HU := Lib.hid (HU0.out _ s2')
              have hX8 := X8
              rw [← HK.out s2'] at hX8
              clear s1 s2 HU0 HS HK s2' X8
              generalize stAt (c : Int) l (m : Int) k = st at *
              go_upto_region 17 with (fail)
              have X8 := hX8
              clear X9 e0 e1 hX8
              have q0 : ∃ u, w9.cell? ⟨g5, k * 2 + 1, none⟩ = some u := ⟨_, by rw [X7.cell, List.getElem?_append_left (by rw [flat_length]; omega)]; exact (flat_at _ k hTl).2⟩
              obtain ⟨u0, q0⟩ := q0
              have f0 := X7.frozen (k * 2 + 1)
              have d5 : w9.cell? ⟨G5, 2, none⟩ = some (.slice (some ⟨g5, 0, none⟩) l.length c5) := (X5.cell 2).trans rfl
              have KS := Lib.hid (fun (w' : World) (h : Below w9.heap.size w9 w') => (⟨(h.cell (p := ⟨G5, 2, none⟩) X5.lt).trans d5, (h.cell (p := ⟨g6, k, none⟩) X6.lt).trans hc6, (h.cell (p := ⟨g8, m, none⟩) X8.lt).trans hc8⟩ : w'.cell? ⟨G5, 2, none⟩ = some (.slice (some ⟨g5, 0, none⟩) l.length c5) ∧ w'.cell? ⟨g6, k, none⟩ = some (.int .i64 (m : Int)) ∧ w'.cell? ⟨g8, m, none⟩ = some (.int .i64 st)))
              have KS2 := Lib.hid (fun (w' : World) (u : Value) (h : Below w9.heap.size w9 w') => (⟨(cell_far1 (j := k * 2 + 1) (u := u) (show G5 ≠ g5 by omega)).trans (KS.out w' h).1, (cell_far1 (j := k * 2 + 1) (u := u) (show g6 ≠ g5 by omega)).trans (KS.out w' h).2.1, (cell_far1 (j := k * 2 + 1) (u := u) (show g8 ≠ g5 by omega)).trans (KS.out w' h).2.2⟩ : (w'.setCell ⟨g5, k * 2 + 1, none⟩ u).cell? ⟨G5, 2, none⟩ = some (.slice (some ⟨g5, 0, none⟩) l.length c5) ∧ (w'.setCell ⟨g5, k * 2 + 1, none⟩ u).cell? ⟨g6, k, none⟩ = some (.int .i64 (m : Int)) ∧ (w'.setCell ⟨g5, k * 2 + 1, none⟩ u).cell? ⟨g8, m, none⟩ = some (.int .i64 st)))
              have X7' := X7.set (k * 2 + 1) (.int .i64 st)
              rw [HU.out] at X7'
              have HX := Lib.hid (⟨X0.set_far ⟨g5, k * 2 + 1, none⟩ (.int .i64 st) (show g5 ≠ w.heap.size by omega), X1.set_far ⟨g5, k * 2 + 1, none⟩ (.int .i64 st) (show g5 ≠ w.heap.size + 1 by omega), X5.set_far ⟨g5, k * 2 + 1, none⟩ (.int .i64 st) (show g5 ≠ G5 by omega), X6.set_far ⟨g5, k * 2 + 1, none⟩ (.int .i64 st) (show g5 ≠ g6 by omega), X7', X8.set_far ⟨g5, k * 2 + 1, none⟩ (.int .i64 st) (show g5 ≠ g8 by omega), hb.setCell (p := ⟨g5, k * 2 + 1, none⟩) (by show w.heap.size ≤ g5; omega) (.int .i64 st)⟩ : _ ∧ _ ∧ _ ∧ _ ∧ _ ∧ _ ∧ _)
              clear d5 hc6 hc8 X7'
              go_region_held3 (fun w' => w'.cell? ⟨G5, 2, none⟩ = some (.slice (some ⟨g5, 0, none⟩) l.length c5) ∧ w'.cell? ⟨g6, k, none⟩ = some (.int .i64 (m : Int)) ∧ w'.cell? ⟨g8, m, none⟩ = some (.int .i64 st))
                (first | exact KS2.out w9 _ (Below.refl _ _) | exact KS.out _ (by (repeat' (first | (with_reducible exact Below.refl _ _) | (with_reducible assumption) | (with_reducible refine Below.alloc ?_ ?_ _) | (with_reducible refine Below.setCell ?_ ?_ _) | (with_reducible refine Below.drew ?_) | (with_reducible refine below_drewN ?_ _) | (with_reducible refine Below.trans ?_ (Below.mono (by assumption) ?_)) | go_size))) | fail)
                (fail)
              obtain ⟨X0', X1', X5', X6', X7', X8', hb'⟩ := HX.out
              clear KS KS2 X0 X1 X5 X6 X7 X8 hb q0 f0 HX
              go_wp2
              go_roundw
              case rel => exact ⟨k + 1, by go_num, by omega, X0', X1', X5', X6', X7', X8', hb'.drew⟩
              case measure => simp [intOf]; omega
          · have hgk : gearK l k = false := by unfold gearK; rw [hget]; simpa using h66
            rw [← stK_skip hgk] at X8
            rw [← upA_no hgk] at X7
            clear hgk hget
            generalize l[k].1 = kd at *
            go_wp2_with fail
            go_roundw
            case rel => exact ⟨k + 1, by go_num, by omega, X0, X1, X5, X6, X7, X8, hb⟩
            case measure => simp [intOf]; omega
        · obtain rfl : k = l.length := by omega
          rw [upA_all] at X7
          have hl := mixS_len l (alV (c : Int) l) (gearK l)
          have X5k0 : wr.cell? ⟨G5, 0, none⟩ = some (.int .i64 (r : Int)) := (X5.cell 0).trans rfl; have X5k1 : wr.cell? ⟨G5, 1, none⟩ = some (.int .i64 (c : Int)) := (X5.cell 1).trans rfl; have X5k2 : wr.cell? ⟨G5, 2, none⟩ = some (.slice (some ⟨g5, 0, none⟩) l.length c5) := (X5.cell 2).trans rfl
          have X1k0 : wr.cell? ⟨w.heap.size + 1, 0, none⟩ = some (.int .i64 0) := (X1.cell 0).trans rfl; have X1k1 : wr.cell? ⟨w.heap.size + 1, 1, none⟩ = some (.int .i64 0) := (X1.cell 1).trans rfl; have X1k2 : wr.cell? ⟨w.heap.size + 1, 2, none⟩ = some (.slice none 0 0) := (X1.cell 2).trans rfl
          have X1f0 := X1.frozen 0; have X1f1 := X1.frozen 1; have X1f2 := X1.frozen 2
          have hap : ∀ a, some (⟨g5, 0, none⟩ : Addr) = some a → w.heap.size + 1 ≠ a.block := fun a ha => by cases ha; show w.heap.size + 1 ≠ g5; omega
          have hnw : New w (some ⟨g5, 0, none⟩) := fun a ha => by cases ha; show w.heap.size ≤ g5; omega
          have ho : Own wr (some ⟨g5, 0, none⟩) 34 (flat (mixS l (alV (c : Int) l) (gearK l))) := fun _ => ⟨g5, rest5, rfl, X7⟩
          go_wp2
          refine bodyPost_ret (v := .tuple #[.agg #[.int .i64 (r : Int), .int .i64 (c : Int), .slice (some ⟨g5, 0, none⟩) l.length c5], .bool true]) ?_ rfl ?_; (focus (simp [results, Try.results17, go_sem, *]; done))
          rw [← hl]
          exact PostB.mk (((ho.set_far _ _ hap).set_far _ _ hap).set_far _ _ hap) hnw (by (repeat' (first | (with_reducible exact Below.refl _ _) | (with_reducible assumption) | (with_reducible refine Below.alloc ?_ ?_ _) | (with_reducible refine Below.setCell ?_ ?_ _) | (with_reducible refine Below.drew ?_) | (with_reducible refine below_drewN ?_ _) | (with_reducible refine Below.trans ?_ (Below.mono (by assumption) ?_)) | (with_reducible exact Nat.le_refl _) | (simp; done) | omega | (simp at *; omega))))
end Go.Proofs.Ytdpgbgniejlilaa
