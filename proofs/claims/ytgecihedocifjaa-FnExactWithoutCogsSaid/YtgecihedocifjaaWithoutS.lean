/- WithoutCogs, the model's. -/
import Derived.Test.YtgecihedocifjaaWithout
namespace Go.Proofs.Ytgecihedocifjaa
open Go.ChangeShapes Go.WideShapes Go.ChangeAt Go.RowKit Go.Joins Go.Deep
set_option linter.unusedSimpArgs false
set_option linter.unusedVariables false
set_option maxRecDepth 100000
set_option maxHeartbeats 8000000
theorem spec_WithoutCogs_yes (r c : Nat) (b o cap : Nat) (l : List (Int × Int)) (w : World) (hG : Geo r c l.length) (hg : goodB (r : Int) (c : Int) l = true) (hn : l.length ≤ 1048576) (hr : Rd w w.heap.size (some ⟨b, o, none⟩) (flat l)) :
    Calls Try.prog 43 #[.agg #[.int .i64 (r : Int), .int .i64 (c : Int), .slice (some ⟨b, o, none⟩) l.length cap]] w (PostB w (r : Int) (c : Int) (woL (c : Int) l) true) := by
  have hpos := (goodB_parts hg).2.2
  have HG := Lib.hid hg
  have n90 := hG.n90
  have hGl := GG_len c l
  have HS := Lib.hid (gct_sum hg)
  obtain ⟨b', o', e0, hbl, hc⟩ := hr (by rw [flat_length]; omega)
  cases e0
  have hr' : Rd w w.heap.size (some ⟨b, o, none⟩) (flat l) := fun _ => ⟨b, o, rfl, hbl, hc⟩
  have HGs := Lib.hid (fun w' => spec_ggGears r c b o cap l w' hG hg)
  have HGr := Lib.hid (fun w' => spec_ggGroupsN r c (some ⟨b, o, none⟩) cap l w' hG)
  have HNm := Lib.hid (fun k hk hJ => nmb_joins (k := k) hG hk hJ)
  generalize (GG (c : Int) l).length = ng at *
  clear hg hr
  go_enter Try.func43, Try.ntmps43
  obtain ⟨v0, hv0, X0, X1, B0, hz0⟩ := two_boxes w [.int .i64 (r : Int), .int .i64 (c : Int), .slice (some ⟨b, o, none⟩) l.length cap] 31 [.int .i64 0, .int .i64 0, .slice none 0 0] 31; have HV := Lib.hid hv0; have hz : w.heap.size + 1 < v0.heap.size := (by omega); have hy : w.heap.size < v0.heap.size := (by omega); have hb0 := B0.size; clear hv0 hz0; go_wp2_with fail; rewrite [show (w.alloc (.cells ([.int .i64 (r : Int), .int .i64 (c : Int), .slice (some ⟨b, o, none⟩) l.length cap] : List Value).toArray 31)).alloc (.cells ([.int .i64 0, .int .i64 0, .slice none 0 0] : List Value).toArray 31) = v0 from HV.out]; clear HV
  refine (spec_boGood _ _ _ _ l _ hn ((hr'.below B0).mono B0.size)).mono ?_; rintro e w1 ⟨rfl, b1⟩
  rewrite [HG.out]
  replace X0 := X0.below b1 X0.lt; replace X1 := X1.below b1 X1.lt; replace B0 := B0.trans (b1.mono B0.size); have hy := X0.lt; have hz := X1.lt; have hb0 := B0.size; clear b1
  have X0k0 : w1.cell? ⟨w.heap.size, 0, none⟩ = some (.int .i64 (r : Int)) := (X0.cell 0).trans rfl; have X0k1 : w1.cell? ⟨w.heap.size, 1, none⟩ = some (.int .i64 (c : Int)) := (X0.cell 1).trans rfl; have X0k2 : w1.cell? ⟨w.heap.size, 2, none⟩ = some (.slice (some ⟨b, o, none⟩) l.length cap) := (X0.cell 2).trans rfl
  go_upto_region 3 with (fail)
  have hz0 := X0.lt
  have KS := Lib.hid (fun (w' : World) (h : Below w1.heap.size w1 w') => (⟨(h.cell (p := ⟨w.heap.size, 0, none⟩) hz0).trans X0k0, (h.cell (p := ⟨w.heap.size, 1, none⟩) hz0).trans X0k1, (h.cell (p := ⟨w.heap.size, 2, none⟩) hz0).trans X0k2⟩ : w'.cell? ⟨w.heap.size, 0, none⟩ = some (.int .i64 (r : Int)) ∧ w'.cell? ⟨w.heap.size, 1, none⟩ = some (.int .i64 (c : Int)) ∧ w'.cell? ⟨w.heap.size, 2, none⟩ = some (.slice (some ⟨b, o, none⟩) l.length cap)))
  have hr1 := (hr'.below B0).mono B0.size
  clear X0k0 X0k1 X0k2
  go_region_held3 (fun w' => w'.cell? ⟨w.heap.size, 0, none⟩ = some (.int .i64 (r : Int)) ∧ w'.cell? ⟨w.heap.size, 1, none⟩ = some (.int .i64 (c : Int)) ∧ w'.cell? ⟨w.heap.size, 2, none⟩ = some (.slice (some ⟨b, o, none⟩) l.length cap))
    (first | exact KS.out _ (by (repeat' (first | (with_reducible exact Below.refl _ _) | (with_reducible assumption) | (with_reducible refine Below.alloc ?_ ?_ _) | (with_reducible refine Below.setCell ?_ ?_ _) | (with_reducible refine Below.drew ?_) | (with_reducible refine below_drewN ?_ _) | (with_reducible refine Below.trans ?_ (Below.mono (by assumption) ?_)) | go_size))) | fail)
    ((first
      | (go_at_call 49; (with_reducible refine (HGr.out _ ?_).mono ?_); (focus exact (hr1.below (by (repeat' (first | (with_reducible exact Below.refl _ _) | (with_reducible assumption) | (with_reducible refine Below.alloc ?_ ?_ _) | (with_reducible refine Below.setCell ?_ ?_ _) | (with_reducible refine Below.drew ?_) | (with_reducible refine below_drewN ?_ _) | (with_reducible refine Below.trans ?_ (Below.mono (by assumption) ?_)) | go_size)))).mono (by (repeat' (first | (with_reducible exact Below.refl _ _) | (with_reducible assumption) | (with_reducible refine Below.alloc ?_ ?_ _) | (with_reducible refine Below.setCell ?_ ?_ _) | (with_reducible refine Below.drew ?_) | (with_reducible refine below_drewN ?_ _) | (with_reducible refine Below.trans ?_ (Below.mono (by assumption) ?_)) | go_size)) : Below w1.heap.size w1 _).size); rintro e w3 ⟨A3, c3, rfl, o3, n3, b3⟩; have bb3 : Below w1.heap.size w1 w3 := (by (repeat' (first | (with_reducible exact Below.refl _ _) | (with_reducible assumption) | (with_reducible refine Below.alloc ?_ ?_ _) | (with_reducible refine Below.setCell ?_ ?_ _) | (with_reducible refine Below.drew ?_) | (with_reducible refine below_drewN ?_ _) | (with_reducible refine Below.trans ?_ (Below.mono (by assumption) ?_)) | go_size))); have s3 : w1.heap.size ≤ w3.heap.size := bb3.size)
      | (go_at_call 74; (with_reducible refine (HGs.out _ ?_).mono ?_); (focus exact (hr1.below (by (repeat' (first | (with_reducible exact Below.refl _ _) | (with_reducible assumption) | (with_reducible refine Below.alloc ?_ ?_ _) | (with_reducible refine Below.setCell ?_ ?_ _) | (with_reducible refine Below.drew ?_) | (with_reducible refine below_drewN ?_ _) | (with_reducible refine Below.trans ?_ (Below.mono (by assumption) ?_)) | go_size)))).mono (by (repeat' (first | (with_reducible exact Below.refl _ _) | (with_reducible assumption) | (with_reducible refine Below.alloc ?_ ?_ _) | (with_reducible refine Below.setCell ?_ ?_ _) | (with_reducible refine Below.drew ?_) | (with_reducible refine below_drewN ?_ _) | (with_reducible refine Below.trans ?_ (Below.mono (by assumption) ?_)) | go_size)) : Below w1.heap.size w1 _).size); rintro e w4 ⟨P, rfl, hP, hR, b4⟩; have bb4 : Below w1.heap.size w1 w4 := (by (repeat' (first | (with_reducible exact Below.refl _ _) | (with_reducible assumption) | (with_reducible refine Below.alloc ?_ ?_ _) | (with_reducible refine Below.setCell ?_ ?_ _) | (with_reducible refine Below.drew ?_) | (with_reducible refine below_drewN ?_ _) | (with_reducible refine Below.trans ?_ (Below.mono (by assumption) ?_)) | go_size))))
      | fail))
  have hn3 : ∀ a, A3 = some a → w.heap.size + 1 < a.block := fun a ha => by have h1 := n3 a ha; have h2 : w1.drew.heap.size = w1.heap.size := rfl; omega
  obtain ⟨g3, rest3, rfl, X3⟩ := o3 (by rw [ints_length, numL_len]; exact hpos)
  have h3 : w.heap.size + 1 < g3 := hn3 _ rfl
  have hg3P : g3 < P := by have := X3.lt; omega
  replace X3 := X3.below b4 X3.lt
  have hPl := hR.lt
  have hl3 := X3.lt
  clear KS b3 bb3 b4 o3 n3 hn3 hP s3 HGr HGs hz0 hr1
  replace X0 := X0.below bb4 X0.lt; replace X1 := X1.below bb4 X1.lt; replace B0 := B0.trans (bb4.mono B0.size); have hy := X0.lt; have hz := X1.lt; have hb0 := B0.size; clear bb4
  have X0k0 : w4.cell? ⟨w.heap.size, 0, none⟩ = some (.int .i64 (r : Int)) := (X0.cell 0).trans rfl; have X0k1 : w4.cell? ⟨w.heap.size, 1, none⟩ = some (.int .i64 (c : Int)) := (X0.cell 1).trans rfl; have X0k2 : w4.cell? ⟨w.heap.size, 2, none⟩ = some (.slice (some ⟨b, o, none⟩) l.length cap) := (X0.cell 2).trans rfl
  go_wp2_with fail
  refine (spec_boOwn _ _ b o cap l _ hpos (by omega) ((hr'.below B0).mono B0.size)).mono ?_
  rintro e w6 ⟨A5, c5, rfl, o5, n5, b6⟩
  clear X0k0 X0k1 X0k2
  have n5' : ∀ a, A5 = some a → w4.heap.size ≤ a.block := n5
  clear n5
  replace X3 := X3.below b6 X3.lt
  replace hR := hR.keep b6
  replace X0 := X0.below b6 X0.lt; replace X1 := X1.below b6 X1.lt; replace B0 := B0.trans (b6.mono B0.size); have hy := X0.lt; have hz := X1.lt; have hb0 := B0.size; clear b6
  go_upto_region 5 with (fail)
  obtain ⟨w7, hw7⟩ : ∃ v, v = w6.alloc (.cells #[.int .i64 (r : Int), .int .i64 (c : Int), .slice A5 l.length c5] 31) := ⟨_, rfl⟩
  have X5 : Whole w7 w6.heap.size 31 [.int .i64 (r : Int), .int .i64 (c : Int), .slice A5 l.length c5] := by rw [hw7]; exact heap_alloc_new w6 _
  have b7 : Below w6.heap.size w6 w7 := by rw [hw7]; exact (Below.refl _ _).alloc (Nat.le_refl _) _
  rewrite [← hw7]
  clear hw7
  obtain ⟨g5, rest5, rfl, X7⟩ := o5 (by rw [flat_length]; omega)
  have h5 : w4.heap.size ≤ g5 := n5' _ rfl
  have h5' : g5 < w6.heap.size := X7.lt
  replace X7 := X7.below b7 X7.lt
  replace X3 := X3.below b7 X3.lt
  replace hR := hR.keep b7
  replace X0 := X0.below b7 X0.lt; replace X1 := X1.below b7 X1.lt; replace B0 := B0.trans (b7.mono B0.size); have hy := X0.lt; have hz := X1.lt; have hb0 := B0.size; clear b7
  clear o5 n5'
  rw [← upW_zero (C := (c : Int)) (l := l)] at X7
  generalize w6.heap.size = G5 at *
  generalize w4.heap.size = G4 at *
  have X0k0 : w7.cell? ⟨w.heap.size, 0, none⟩ = some (.int .i64 (r : Int)) := (X0.cell 0).trans rfl; have X0k1 : w7.cell? ⟨w.heap.size, 1, none⟩ = some (.int .i64 (c : Int)) := (X0.cell 1).trans rfl; have X0k2 : w7.cell? ⟨w.heap.size, 2, none⟩ = some (.slice (some ⟨b, o, none⟩) l.length cap) := (X0.cell 2).trans rfl
  go_wp2_with fail
  clear X0k0 X0k1 X0k2
  go_loopw [22] (fun t wr => ∃ k : Nat, t = .int .i64 k ∧ k ≤ l.length ∧ Whole wr (w.heap.size + 1) 31 [.int .i64 0, .int .i64 0, .slice none 0 0] ∧ Whole wr G5 31 [.int .i64 (r : Int), .int .i64 (c : Int), .slice (some ⟨g5, 0, none⟩) l.length c5] ∧ Whole wr g3 3 (ints (numL c l) ++ rest3) ∧ Whole wr g5 65 (flat (mixS l zc (upW (c : Int) l k)) ++ rest5) ∧ GRow wr P ng (gpr (c : Int) l l.length) ∧ Below w.heap.size w wr) (fun t _ => l.length - (intOf t).toNat)
  case atStart => exact ⟨0, rfl, Nat.zero_le _, X1, X5, X3, X7, hR, B0⟩
  case round =>
    clear X0 X1 X5 X3 X7 hR B0
    obtain ⟨k, rfl, hk, X1, X5, X3, X7, hR, hb⟩ := hrel
    by_cases hlt : k < l.length
    · obtain ⟨hc0, hc1⟩ := cell_at2 hb hbl hc hlt
      have hget : l.getD k (0, 0) = l[k] := by rw [List.getD_eq_getElem?_getD, List.getElem?_eq_getElem hlt]; rfl
      have hs := hb.size
      go_upto_region 8 with (fail)
      obtain ⟨w9, hw9⟩ : ∃ v, v = wr.alloc (.cells #[.int .i64 l[k].1, .int .i64 l[k].2] 65) := ⟨_, rfl⟩
      have X9 : Whole w9 wr.heap.size 65 [.int .i64 l[k].1, .int .i64 l[k].2] := by rw [hw9]; exact heap_alloc_new wr _
      have b9 : Below wr.heap.size wr w9 := by rw [hw9]; exact (Below.refl _ _).alloc (Nat.le_refl _) _
      rewrite [← hw9]
      clear hw9
      replace X1 := X1.below b9 X1.lt
      replace X5 := X5.below b9 X5.lt
      replace X3 := X3.below b9 X3.lt
      replace X7 := X7.below b9 X7.lt
      replace hR := hR.keep b9
      replace hb := hb.trans (b9.mono hs)
      clear b9 hs hc0 hc1
      generalize wr.heap.size = gx at *
      have e0 : w9.cell? ⟨gx, 0, none⟩ = some (.int .i64 l[k].1) := (X9.cell 0).trans rfl
      have e1 : w9.cell? ⟨gx, 1, none⟩ = some (.int .i64 l[k].2) := (X9.cell 1).trans rfl
      clear X9
      by_cases h77 : l[k].1 = 7
      · have hk7 : (l.getD k (0, 0)).1 = 7 := by rw [hget]; exact h77
        have hck : cogK l k = true := by unfold cogK; rw [hk7]; rfl
        obtain ⟨m, hm, hmn⟩ := HNm.out k hlt (cog_J hk7)
        have HW := Lib.hid (wo_cog hck hm)
        have hc3 : w9.cell? ⟨g3, k, none⟩ = some (.int .i64 (m : Int)) := by rw [← hm]; exact (X3.cell k).trans ((List.getElem?_append_left (by rw [ints_length, numL_len]; exact hlt)).trans (numL_at hlt))
        obtain ⟨q1, q2, q3⟩ := hR.pair hmn
        have hmn' : (m : Int) < (ng : Int) := by omega
        have hm0 : (0 : Int) ≤ (m : Int) := by omega
        have hsm := HS.out m
        have hct := gct_le (c : Int) l m
        have HY := Lib.hid (upW_yes (C := (c : Int)) hlt)
        have HN := Lib.hid (upW_no (C := (c : Int)) (l := l) (k := k))
        have ee : ((gcn (c : Int) l l.length (m : Int) 0 : Nat) : Int) + ((gcn (c : Int) l l.length (m : Int) 1 : Nat) : Int) = ((gct (c : Int) l m : Nat) : Int) := by omega
        rw [h77] at e0
        clear h77 hk7 hck hm hget
        generalize gcn (c : Int) l l.length (m : Int) 0 = n0 at *
        generalize gcn (c : Int) l l.length (m : Int) 1 = n1 at *
        have e2 : IntKind.i64.wrap ((n0 : Int) + (n1 : Int)) = ((gct (c : Int) l m : Nat) : Int) := by rw [ee]; exact IntWalk.i64_in _ (by omega)
        generalize l[k].2 = st at *
        generalize gct (c : Int) l m = gc at *
        by_cases h1 : gc ≤ 1
        · have HE := Lib.hid (HY.out (by rw [HW.out, decide_eq_true h1]))
          have h1' : (gc : Int) ≤ 1 := by omega
          have hTl : k < (mixS l zc (upW (c : Int) l k)).length := by rw [mixS_len]; exact hlt
          have HSet := flat_set (mixS l zc (upW (c : Int) l k)) k 0 0 hTl rest5
          rw [HE.out] at HSet
          have HSet' := Lib.hid HSet
          have p0 : ∃ u, w9.cell? ⟨g5, k * 2, none⟩ = some u := ⟨_, by rw [X7.cell, List.getElem?_append_left (by rw [flat_length]; omega)]; exact (flat_at _ k hTl).1⟩
          have p1 : ∃ u, w9.cell? ⟨g5, k * 2 + 1, none⟩ = some u := ⟨_, by rw [X7.cell, List.getElem?_append_left (by rw [flat_length]; omega)]; exact (flat_at _ k hTl).2⟩
          obtain ⟨u0, p0⟩ := p0
          obtain ⟨u1, p1⟩ := p1
          have f0 := X7.frozen (k * 2)
          have f1 := X7.frozen (k * 2 + 1)
          have d5 : w9.cell? ⟨G5, 2, none⟩ = some (.slice (some ⟨g5, 0, none⟩) l.length c5) := (X5.cell 2).trans rfl
          have X1' := X1.two_far (u := .int .i64 0) (u' := .int .i64 0) (j := k * 2) (j' := k * 2 + 1) (show w.heap.size + 1 ≠ g5 by omega)
          have X5' := X5.two_far (u := .int .i64 0) (u' := .int .i64 0) (j := k * 2) (j' := k * 2 + 1) (show G5 ≠ g5 by omega)
          have X3' := X3.two_far (u := .int .i64 0) (u' := .int .i64 0) (j := k * 2) (j' := k * 2 + 1) (show g3 ≠ g5 by omega)
          have X7' := (X7.set (k * 2) (.int .i64 0)).set (k * 2 + 1) (.int .i64 0)
          rw [HSet'.out] at X7'
          have hR' : GRow ((w9.setCell ⟨g5, k * 2, none⟩ (.int .i64 0)).setCell ⟨g5, k * 2 + 1, none⟩ (.int .i64 0)) P ng (gpr (c : Int) l l.length) := ⟨hR.1.two_far (show P ≠ g5 by omega), fun m' hm' => (hR.2 m' hm').two_far (show P + 1 + m' ≠ g5 by omega)⟩
          have hb' := (hb.setCell (p := ⟨g5, k * 2, none⟩) (by show w.heap.size ≤ g5; omega) (.int .i64 0)).setCell (p := ⟨g5, k * 2 + 1, none⟩) (by show w.heap.size ≤ g5; omega) (.int .i64 0)
          have HX := Lib.hid (⟨X1', X5', X3', X7', hR', hb'⟩ : _ ∧ _ ∧ _ ∧ _ ∧ _ ∧ _)
          clear X1' X5' X3' X7' hR' hb' HSet HE HY HN HW hsm hct ee h1 X1 X3 X5 X7 hR
          go_quiet (fail)
          go_wp2
          go_roundw
          case rel =>
            obtain ⟨X1', X5', X3', X7', hR', -⟩ := HX.out
            exact ⟨k + 1, by go_num, by omega, X1', X5', X3', X7', hR', ((below_drewN hb nq).setCell (p := ⟨g5, k * 2, none⟩) (by show w.heap.size ≤ g5; omega) (.int .i64 0)).setCell (p := ⟨g5, k * 2 + 1, none⟩) (by show w.heap.size ≤ g5; omega) (.int .i64 0)⟩
          case measure => simp [intOf]; omega
        · have HE := Lib.hid (HN.out (by rw [HW.out, decide_eq_false h1]))
          have h1' : ¬ (gc : Int) ≤ 1 := by omega
          clear HY HN HW hsm hct ee h1
          go_quiet (fail)
          go_wp2
          go_roundw
          case rel => exact ⟨k + 1, by go_num, by omega, X1, X5, X3, by rw [HE.out]; exact X7, hR, below_drewN hb _⟩
          case measure => simp [intOf]; omega
      · have hck : cogK l k = false := by unfold cogK; rw [hget]; simpa using h77
        have HE := Lib.hid (upW_no (C := (c : Int)) (l := l) (k := k) (by unfold wo; rw [hck, Bool.false_and]))
        clear hck hget HS HNm
        generalize l[k].1 = kd at *
        generalize l[k].2 = st at *
        have h77' : decide (kd = 7) = false := by simpa using h77
        go_quiet (fail)
        go_wp2
        go_roundw
        case rel => exact ⟨k + 1, by go_num, by omega, X1, X5, X3, by rw [HE.out]; exact X7, hR, below_drewN hb _⟩
        case measure => simp [intOf]; omega
    · obtain rfl : k = l.length := by omega
      rw [upW_all] at X7
      have hl := mixS_len l zc (wo (c : Int) l)
      have X5k0 : wr.cell? ⟨G5, 0, none⟩ = some (.int .i64 (r : Int)) := (X5.cell 0).trans rfl; have X5k1 : wr.cell? ⟨G5, 1, none⟩ = some (.int .i64 (c : Int)) := (X5.cell 1).trans rfl; have X5k2 : wr.cell? ⟨G5, 2, none⟩ = some (.slice (some ⟨g5, 0, none⟩) l.length c5) := (X5.cell 2).trans rfl
      have X1k0 : wr.cell? ⟨w.heap.size + 1, 0, none⟩ = some (.int .i64 0) := (X1.cell 0).trans rfl; have X1k1 : wr.cell? ⟨w.heap.size + 1, 1, none⟩ = some (.int .i64 0) := (X1.cell 1).trans rfl; have X1k2 : wr.cell? ⟨w.heap.size + 1, 2, none⟩ = some (.slice none 0 0) := (X1.cell 2).trans rfl
      have X1f0 := X1.frozen 0; have X1f1 := X1.frozen 1; have X1f2 := X1.frozen 2
      have hap : ∀ a, some (⟨g5, 0, none⟩ : Addr) = some a → w.heap.size + 1 ≠ a.block := fun a ha => by cases ha; show w.heap.size + 1 ≠ g5; omega
      have hnw : New w (some ⟨g5, 0, none⟩) := fun a ha => by cases ha; show w.heap.size ≤ g5; omega
      have ho : Own wr (some ⟨g5, 0, none⟩) 65 (flat (woL (c : Int) l)) := fun _ => ⟨g5, rest5, rfl, X7⟩
      have hl' : (woL (c : Int) l).length = l.length := hl
      go_wp2
      refine bodyPost_ret (v := .tuple #[.agg #[.int .i64 (r : Int), .int .i64 (c : Int), .slice (some ⟨g5, 0, none⟩) l.length c5], .bool true]) ?_ rfl ?_; (focus (simp [results, Try.results43, go_sem, *]; done))
      rw [← hl']
      exact PostB.mk (((ho.set_far _ _ hap).set_far _ _ hap).set_far _ _ hap) hnw (by (repeat' (first | (with_reducible exact Below.refl _ _) | (with_reducible assumption) | (with_reducible refine Below.alloc ?_ ?_ _) | (with_reducible refine Below.setCell ?_ ?_ _) | (with_reducible refine Below.drew ?_) | (with_reducible refine below_drewN ?_ _) | (with_reducible refine Below.trans ?_ (Below.mono (by assumption) ?_)) | (with_reducible exact Nat.le_refl _) | (simp; done) | omega | (simp at *; omega))))
end Go.Proofs.Ytgecihedocifjaa
