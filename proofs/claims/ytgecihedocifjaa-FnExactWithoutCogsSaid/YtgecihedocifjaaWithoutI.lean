/- WithoutCogs, the program's. -/
import Derived.Test.YtgecihedocifjaaWithoutS
namespace Go.Proofs.Ytgecihedocifjaa
open Go.ChangeShapes Go.WideShapes Go.ChangeAt Go.RowKit Go.Joins Go.Deep
set_option linter.unusedSimpArgs false
set_option linter.unusedVariables false
set_option maxRecDepth 100000
set_option maxHeartbeats 8000000
theorem impl_WithoutCogs_yes (r c : Nat) (A : Option Addr) (cap : Nat) (l : List (Int × Int)) (w : World) (hG : Geo r c l.length) (hg : goodB (r : Int) (c : Int) l = true) (hn : l.length ≤ 1048576) (hr : Rd w w.heap.size A (flat l)) :
    Calls Try.prog 44 #[.agg #[.int .i64 (r : Int), .int .i64 (c : Int), .slice A l.length cap]] w (PostB w (r : Int) (c : Int) (woL (c : Int) l) true) := by
  have hpos := (goodB_parts hg).2.2
  have HG := Lib.hid hg
  have n90 := hG.n90
  obtain ⟨b, o, rfl, hbl, hc⟩ := hr (by rw [flat_length]; omega)
  have hr' : Rd w w.heap.size (some ⟨b, o, none⟩) (flat l) := fun _ => ⟨b, o, rfl, hbl, hc⟩
  have hLn := srtG_len c l
  have HCell := Lib.hid (srtG_cell c l)
  have HLt := Lib.hid (srtG_lt c l)
  have HT := Lib.hid (fun t ht => gct_srt hG (t := t) ht)
  have HNew := Lib.hid (fun t j => srtG_new (t := t) (j := j) hG)
  have HSk := Lib.hid (fun t ht => dW_skip (t := t) hG ht)
  have HAll := Lib.hid (fun t ht => dWJ_all (c := c) (l := l) (t := t) ht)
  have HIn := Lib.hid (fun t x ht hx => wo_in (t := t) (x := x) hG ht hx)
  have HEnd := Lib.hid (dW_end (c := c) hG)
  clear hg hr
  go_enter Try.func44, Try.ntmps44
  obtain ⟨v0, hv0, X0, X1, B0, hz0⟩ := two_boxes w [.int .i64 (r : Int), .int .i64 (c : Int), .slice (some ⟨b, o, none⟩) l.length cap] 31 [.int .i64 0, .int .i64 0, .slice none 0 0] 31; have HV := Lib.hid hv0; have hz : w.heap.size + 1 < v0.heap.size := (by omega); have hy : w.heap.size < v0.heap.size := (by omega); have hb0 := B0.size; clear hv0 hz0; go_wp2_with fail; rewrite [show (w.alloc (.cells ([.int .i64 (r : Int), .int .i64 (c : Int), .slice (some ⟨b, o, none⟩) l.length cap] : List Value).toArray 31)).alloc (.cells ([.int .i64 0, .int .i64 0, .slice none 0 0] : List Value).toArray 31) = v0 from HV.out]; clear HV
  refine (impl_IsBoard _ _ _ _ l _ hn ((hr'.below B0).mono B0.size)).mono ?_; rintro e w1 ⟨rfl, b1⟩
  rewrite [HG.out]
  replace X0 := X0.below b1 X0.lt; replace X1 := X1.below b1 X1.lt; replace B0 := B0.trans (b1.mono B0.size); have hy := X0.lt; have hz := X1.lt; have hb0 := B0.size; clear b1
  have X0k0 : w1.cell? ⟨w.heap.size, 0, none⟩ = some (.int .i64 (r : Int)) := (X0.cell 0).trans rfl; have X0k1 : w1.cell? ⟨w.heap.size, 1, none⟩ = some (.int .i64 (c : Int)) := (X0.cell 1).trans rfl; have X0k2 : w1.cell? ⟨w.heap.size, 2, none⟩ = some (.slice (some ⟨b, o, none⟩) l.length cap) := (X0.cell 2).trans rfl
  go_wp2_with fail
  refine (Clone_any b o cap l _ hn ((hr'.below B0).mono B0.size)).mono ?_
  rintro e w2 ⟨A5, c5, rfl, o5, n5, b2⟩
  clear X0k0 X0k1 X0k2
  have n5' : ∀ a, A5 = some a → w.heap.size + 1 < a.block := fun a ha => Nat.lt_of_lt_of_le hz (n5 a ha)
  clear n5
  replace X0 := X0.below b2 X0.lt; replace X1 := X1.below b2 X1.lt; replace B0 := B0.trans (b2.mono B0.size); have hy := X0.lt; have hz := X1.lt; have hb0 := B0.size; clear b2
  have X0k0 : w2.cell? ⟨w.heap.size, 0, none⟩ = some (.int .i64 (r : Int)) := (X0.cell 0).trans rfl; have X0k1 : w2.cell? ⟨w.heap.size, 1, none⟩ = some (.int .i64 (c : Int)) := (X0.cell 1).trans rfl; have X0k2 : w2.cell? ⟨w.heap.size, 2, none⟩ = some (.slice (some ⟨b, o, none⟩) l.length cap) := (X0.cell 2).trans rfl
  go_wp2_with fail
  refine (impl_groupsOf r c _ cap l _ hG ((hr'.below B0).mono B0.size)).mono ?_
  rintro e w3 ⟨v, rfl, hL0, b3⟩
  have hL : LRow w3 w2.heap.size v (srtG c l) := hL0
  clear hL0
  have h5lt : ∀ a, A5 = some a → a.block < w2.heap.size := fun a ha => o5.lt (by rw [flat_length]; omega) ha
  have o5' := o5.keep b3
  clear X0k0 X0k1 X0k2
  replace X0 := X0.below b3 X0.lt; replace X1 := X1.below b3 X1.lt; replace B0 := B0.trans (b3.mono B0.size); have hy := X0.lt; have hz := X1.lt; have hb0 := B0.size; clear b3
  obtain ⟨g5, rest5, rfl, X7⟩ := o5' (by rw [flat_length]; omega)
  have h5 : w.heap.size + 1 < g5 := n5' _ rfl
  have h5' : g5 < w2.heap.size := h5lt _ rfl
  clear o5 o5' n5' h5lt
  obtain ⟨A3, c3, rfl⟩ := hL.shape
  rw [← dW_zero (c := c) (l := l)] at X7
  generalize w2.heap.size = base at *
  go_wp2_with fail
  go_loopw [19] (fun t wr => ∃ k : Nat, t = .int .i64 k ∧ k ≤ (srtG c l).length ∧ Whole wr w.heap.size 31 [.int .i64 (r : Int), .int .i64 (c : Int), .slice (some ⟨b, o, none⟩) l.length cap] ∧ Whole wr (w.heap.size + 1) 31 [.int .i64 0, .int .i64 0, .slice none 0 0] ∧ Whole wr g5 65 (flat (mixS l zc (dW c l k)) ++ rest5) ∧ LRow wr base (.slice A3 (srtG c l).length c3) (srtG c l) ∧ Below w.heap.size w wr) (fun t _ => (srtG c l).length - (intOf t).toNat)
  case atStart => exact ⟨0, rfl, Nat.zero_le _, X0, X1, X7, hL, B0⟩
  case round =>
    clear X0 X1 X7 hL B0 hy hz hb0
    obtain ⟨k, rfl, hk, X0, X1, X7, hL, hb⟩ := hrel
    by_cases hlt : k < (srtG c l).length
    · obtain ⟨go, cap0, A4, c4, e4, hh, ho4, hb4, hgo⟩ := hL.at_ hlt
      have eA : A3 = some ⟨go, 0, none⟩ := by injection e4
      subst eA
      clear e4
      have hqn := HCell.out k hlt
      have hqx := HLt.out k hlt
      have hs := hb.size
      have X0k0 : wr.cell? ⟨w.heap.size, 0, none⟩ = some (.int .i64 (r : Int)) := (X0.cell 0).trans rfl; have X0k1 : wr.cell? ⟨w.heap.size, 1, none⟩ = some (.int .i64 (c : Int)) := (X0.cell 1).trans rfl; have X0k2 : wr.cell? ⟨w.heap.size, 2, none⟩ = some (.slice (some ⟨b, o, none⟩) l.length cap) := (X0.cell 2).trans rfl
      go_wp2_with fail
      refine (impl_gearsAmongN (r : Int) (c : Int) _ cap l A4 c4 (srtG c l)[k] _ ((hr'.below hb).mono hs) (by omega) hqx ho4.rd).mono ?_
      rintro e w4 ⟨A6, c6, rfl, o6, n6, b4⟩
      clear X0k0 X0k1 X0k2
      replace X0 := X0.below b4 X0.lt
      replace X1 := X1.below b4 X1.lt
      replace X7 := X7.below b4 X7.lt
      replace hL := hL.keep b4
      replace ho4 := ho4.keep b4
      replace hb := hb.trans (b4.mono hs)
      clear b4 hh hgo n6 hs o6
      rewrite [HT.out k hlt]
      have HSk' := Lib.hid (HSk.out k hlt)
      have HAll' := Lib.hid (HAll.out k hlt)
      have HIn' := Lib.hid (fun x hx => HIn.out k x hlt hx)
      have HNew' := Lib.hid (fun j hj => HNew.out k j hlt hj)
      generalize gct (c : Int) l k = gc at *
      by_cases h1 : gc ≤ 1
      · have h1' : ¬ (1 : Int) < (gc : Int) := by omega
        rw [← dWJ_start (q := (srtG c l)[k])] at X7
        clear HSk'
        go_wp2_with fail
        go_loopw [30] (fun t wr => ∃ j : Nat, t = .int .i64 j ∧ j ≤ (srtG c l)[k].length ∧ Whole wr w.heap.size 31 [.int .i64 (r : Int), .int .i64 (c : Int), .slice (some ⟨b, o, none⟩) l.length cap] ∧ Whole wr (w.heap.size + 1) 31 [.int .i64 0, .int .i64 0, .slice none 0 0] ∧ Whole wr g5 65 (flat (mixS l zc (dWJ c l k j (srtG c l)[k])) ++ rest5) ∧ Own wr A4 3 (ints (nI (srtG c l)[k])) ∧ LRow wr base (.slice (some ⟨go, 0, none⟩) (srtG c l).length c3) (srtG c l) ∧ Below w.heap.size w wr) (fun t _ => (srtG c l)[k].length - (intOf t).toNat)
        case atStart => exact ⟨0, rfl, Nat.zero_le _, X0, X1, X7, ho4, hL, hb⟩
        case round =>
          clear X0 X1 X7 hL hb ho4
          obtain ⟨j, rfl, hj, X0, X1, X7, ho4, hL, hb⟩ := hrel
          by_cases hjl : j < (srtG c l)[k].length
          · obtain ⟨hyl, hyv, hyq⟩ := HNew'.out j hjl
            obtain ⟨g4, rest4, rfl, X4⟩ := ho4 (by rw [ints_length, nI_length]; omega)
            have h4 : base ≤ g4 := hb4 _ rfl
            have hcj := row_num X4 hjl
            have hTl : (srtG c l)[k][j] < (mixS l zc (dWJ c l k j (srtG c l)[k])).length := by rw [mixS_len]; exact hyl
            have hT := dWJ_at hyl hyv hyq hTl
            have hmem : (srtG c l)[k][j] ∈ (srtG c l)[k] := List.getElem_mem hjl
            have HW := Lib.hid (HIn'.out _ hmem)
            have HY := Lib.hid (dWJ_yes (c := c) (t := k) hjl hyl)
            have HN := Lib.hid (dWJ_no (c := c) (l := l) (t := k) hjl)
            have hget : l.getD (srtG c l)[k][j] (0, 0) = l[(srtG c l)[k][j]] := by rw [List.getD_eq_getElem?_getD, List.getElem?_eq_getElem hyl]; rfl
            have HSet := Lib.hid (flat_set (mixS l zc (dWJ c l k j (srtG c l)[k])) (srtG c l)[k][j] 0 0 hTl rest5)
            have q0 : wr.cell? ⟨g5, (srtG c l)[k][j] * 2, none⟩ = some (.int .i64 l[(srtG c l)[k][j]].1) := by rw [X7.cell, List.getElem?_append_left (by rw [flat_length]; omega), (flat_at _ _ hTl).1, hT]
            have q1 : wr.cell? ⟨g5, (srtG c l)[k][j] * 2 + 1, none⟩ = some (.int .i64 l[(srtG c l)[k][j]].2) := by rw [X7.cell, List.getElem?_append_left (by rw [flat_length]; omega), (flat_at _ _ hTl).2, hT]
            have hck : cogK l (srtG c l)[k][j] = decide (l[(srtG c l)[k][j]].1 = 7) := by unfold cogK; rw [hget]
            have HCk := Lib.hid hck
            clear hT hmem hget hck HIn' HNew' HAll' hyv hyq hqx
            generalize l[(srtG c l)[k][j]].2 = st at *
            generalize l[(srtG c l)[k][j]].1 = kd at *
            generalize hyy : (srtG c l)[k][j] = y at *
            by_cases h7 : kd = 7
            · subst h7
              have HE := HY.out (by rw [HW.out, HCk.out, decide_eq_true h1]; rfl)
              have f0 := X7.frozen (y * 2)
              have f1 := X7.frozen (y * 2 + 1)
              have X0' := X0.two_far (u := .int .i64 0) (u' := .int .i64 0) (j := y * 2) (j' := y * 2 + 1) (show w.heap.size ≠ g5 by omega)
              have X1' := X1.two_far (u := .int .i64 0) (u' := .int .i64 0) (j := y * 2) (j' := y * 2 + 1) (show w.heap.size + 1 ≠ g5 by omega)
              have X4' := X4.two_far (u := .int .i64 0) (u' := .int .i64 0) (j := y * 2) (j' := y * 2 + 1) (show g4 ≠ g5 by omega)
              have X7' := (X7.set (y * 2) (.int .i64 0)).set (y * 2 + 1) (.int .i64 0)
              rw [HSet.out, HE] at X7'
              have hL' := hL.setTwo (j := y * 2) (j' := y * 2 + 1) (u := .int .i64 0) (u' := .int .i64 0) h5'
              have hb' := (hb.setCell (p := ⟨g5, y * 2, none⟩) (by show w.heap.size ≤ g5; omega) (.int .i64 0)).setCell (p := ⟨g5, y * 2 + 1, none⟩) (by show w.heap.size ≤ g5; omega) (.int .i64 0)
              have HX := Lib.hid (⟨X0', X1', X7', X4', hL', hb'⟩ : _ ∧ _ ∧ _ ∧ _ ∧ _ ∧ _)
              clear X0' X1' X7' X4' hL' hb' HE HY HN HW HCk HSet X0 X1 X7 X4 hL hb
              go_wp2_with fail
              obtain ⟨X0', X1', X7', X4', hL', hb'⟩ := HX.out
              go_roundw
              case rel => exact ⟨j + 1, by go_num, by omega, X0', X1', X7', fun _ => ⟨g4, rest4, rfl, X4'⟩, hL', hb'⟩
              case measure => simp [intOf]; omega
            · have HE := Lib.hid (HN.out (by rw [HW.out, HCk.out, decide_eq_false h7, Bool.false_and]))
              clear HY HN HW HCk HSet
              go_wp2
              go_roundw
              case rel => exact ⟨j + 1, by go_num, by omega, X0, X1, by rw [HE.out]; exact X7, fun _ => ⟨g4, rest4, rfl, X4⟩, hL, hb⟩
              case measure => simp [intOf]; omega
          · obtain rfl : j = (srtG c l)[k].length := by omega
            rw [HAll'.out] at X7
            go_wp2
            go_roundw
            case rel => exact ⟨k + 1, by go_num, by omega, X0, X1, X7, hL, hb⟩
            case measure => simp [intOf]; omega
      · have h1' : (1 : Int) < (gc : Int) := by omega
        rw [← HSk'.out h1] at X7
        clear HSk' HAll' HIn' HNew'
        go_wp2
        go_roundw
        case rel => exact ⟨k + 1, by go_num, by omega, X0, X1, X7, hL, hb⟩
        case measure => simp [intOf]; omega
    · obtain rfl : k = (srtG c l).length := by omega
      rw [HEnd.out] at X7
      have hl : (woL (c : Int) l).length = l.length := mixS_len l zc (wo (c : Int) l)
      have X0k0 : wr.cell? ⟨w.heap.size, 0, none⟩ = some (.int .i64 (r : Int)) := (X0.cell 0).trans rfl; have X0k1 : wr.cell? ⟨w.heap.size, 1, none⟩ = some (.int .i64 (c : Int)) := (X0.cell 1).trans rfl; have X0k2 : wr.cell? ⟨w.heap.size, 2, none⟩ = some (.slice (some ⟨b, o, none⟩) l.length cap) := (X0.cell 2).trans rfl
      have X1k0 : wr.cell? ⟨w.heap.size + 1, 0, none⟩ = some (.int .i64 0) := (X1.cell 0).trans rfl; have X1k1 : wr.cell? ⟨w.heap.size + 1, 1, none⟩ = some (.int .i64 0) := (X1.cell 1).trans rfl; have X1k2 : wr.cell? ⟨w.heap.size + 1, 2, none⟩ = some (.slice none 0 0) := (X1.cell 2).trans rfl
      have X1f0 := X1.frozen 0; have X1f1 := X1.frozen 1; have X1f2 := X1.frozen 2
      have hap : ∀ a, some (⟨g5, 0, none⟩ : Addr) = some a → w.heap.size + 1 ≠ a.block := fun a ha => by cases ha; show w.heap.size + 1 ≠ g5; omega
      have hnw : New w (some ⟨g5, 0, none⟩) := fun a ha => by cases ha; show w.heap.size ≤ g5; omega
      have ho : Own wr (some ⟨g5, 0, none⟩) 65 (flat (woL (c : Int) l)) := fun _ => ⟨g5, rest5, rfl, X7⟩
      go_wp2
      refine bodyPost_ret (v := .tuple #[.agg #[.int .i64 (r : Int), .int .i64 (c : Int), .slice (some ⟨g5, 0, none⟩) l.length c5], .bool true]) ?_ rfl ?_; (focus (simp [results, Try.results44, go_sem, *]; done))
      rw [← hl]
      exact PostB.mk (((ho.set_far _ _ hap).set_far _ _ hap).set_far _ _ hap) hnw (by (repeat' (first | (with_reducible exact Below.refl _ _) | (with_reducible assumption) | (with_reducible refine Below.alloc ?_ ?_ _) | (with_reducible refine Below.setCell ?_ ?_ _) | (with_reducible refine Below.drew ?_) | (with_reducible refine below_drewN ?_ _) | (with_reducible refine Below.trans ?_ (Below.mono (by assumption) ?_)) | (with_reducible exact Nat.le_refl _) | (simp; done) | omega | (simp at *; omega))))
end Go.Proofs.Ytgecihedocifjaa
