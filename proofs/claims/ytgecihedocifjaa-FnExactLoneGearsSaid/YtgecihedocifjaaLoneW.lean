/- LoneGears, program and model. -/
import Derived.Test.YtgecihedocifjaaLone
namespace Go.Proofs.Ytgecihedocifjaa
open Go.ChangeShapes Go.WideShapes Go.ChangeAt Go.RowKit Go.Joins Go.Deep
set_option linter.unusedSimpArgs false
set_option linter.unusedVariables false
set_option maxRecDepth 100000
set_option maxHeartbeats 4000000
theorem spec_LoneGears (R C : Int) (A : Option Addr) (cap : Nat) (l : List (Int × Int)) (w : World) (hn : l.length ≤ 1048576) (hr : Rd w w.heap.size A (flat l)) :
    Calls Try.prog 35 #[.agg #[.int .i64 R, .int .i64 C, .slice A l.length cap]] w (PostL w (loneB R C l) (goodB R C l)) := by
  rcases Bool.eq_false_or_eq_true (goodB R C l) with hg | hg
  · have hpos := (goodB_parts hg).2.2
    obtain ⟨r, c, rfl, rfl, hG⟩ := geo_of hg
    obtain ⟨b, o, rfl, hbl, hc⟩ := hr (by rw [flat_length]; omega)
    have hr' : Rd w w.heap.size (some ⟨b, o, none⟩) (flat l) := fun _ => ⟨b, o, rfl, hbl, hc⟩
    rw [show loneB (r : Int) (c : Int) l = nI (loneTo (c : Int) l l.length) by unfold loneB; rw [hg]; rfl, hg]
    have HG := Lib.hid hg
    have HS := Lib.hid (gct_sum hg)
    have n90 := hG.n90
    have hGl := GG_len c l
    have HGs := Lib.hid (fun w' => spec_ggGears r c b o cap l w' hG hg)
    have HNm := Lib.hid (fun k hk h6 => nmb_gear (k := k) hG hk h6)
    have HGr := Lib.hid (fun w' => spec_ggGroupsN r c (some ⟨b, o, none⟩) cap l w' hG)
    generalize (GG (c : Int) l).length = ng at *
    clear hg hr
    go_enter Try.func35, Try.ntmps35
    obtain ⟨v0, hv0⟩ : ∃ v, v = w.alloc (.cells #[.int .i64 (r : Int), .int .i64 (c : Int), .slice (some ⟨b, o, none⟩) l.length cap] 31) := ⟨_, rfl⟩
    have X0 : Whole v0 w.heap.size 31 [.int .i64 (r : Int), .int .i64 (c : Int), .slice (some ⟨b, o, none⟩) l.length cap] := by rw [hv0]; exact heap_alloc_new w _
    have hb : Below w.heap.size w v0 := by rw [hv0]; exact (Below.refl _ _).alloc (Nat.le_refl _) _
    have HV := Lib.hid hv0.symm
    clear hv0
    go_upto_region 1 with (fail)
    rewrite [HV.out]
    clear HV
    have X0k0 : v0.cell? ⟨w.heap.size, 0, none⟩ = some (.int .i64 (r : Int)) := (X0.cell 0).trans rfl; have X0k1 : v0.cell? ⟨w.heap.size, 1, none⟩ = some (.int .i64 (c : Int)) := (X0.cell 1).trans rfl; have X0k2 : v0.cell? ⟨w.heap.size, 2, none⟩ = some (.slice (some ⟨b, o, none⟩) l.length cap) := (X0.cell 2).trans rfl
    go_wp2_with fail
    refine (spec_boGood _ _ _ _ l _ hn ((hr'.below hb).mono hb.size)).mono ?_; rintro e w1 ⟨rfl, b1⟩
    rewrite [HG.out]
    clear X0k0 X0k1 X0k2
    replace X0 := X0.below b1 X0.lt
    replace hb := hb.trans (b1.mono hb.size)
    clear b1
    have X0k0 : w1.cell? ⟨w.heap.size, 0, none⟩ = some (.int .i64 (r : Int)) := (X0.cell 0).trans rfl; have X0k1 : w1.cell? ⟨w.heap.size, 1, none⟩ = some (.int .i64 (c : Int)) := (X0.cell 1).trans rfl; have X0k2 : w1.cell? ⟨w.heap.size, 2, none⟩ = some (.slice (some ⟨b, o, none⟩) l.length cap) := (X0.cell 2).trans rfl
    go_upto_region 3 with (fail)
    have hz0 := X0.lt
    have KS := Lib.hid (fun (w' : World) (h : Below w1.heap.size w1 w') => (⟨(h.cell (p := ⟨w.heap.size, 0, none⟩) hz0).trans X0k0, (h.cell (p := ⟨w.heap.size, 1, none⟩) hz0).trans X0k1, (h.cell (p := ⟨w.heap.size, 2, none⟩) hz0).trans X0k2⟩ : w'.cell? ⟨w.heap.size, 0, none⟩ = some (.int .i64 (r : Int)) ∧ w'.cell? ⟨w.heap.size, 1, none⟩ = some (.int .i64 (c : Int)) ∧ w'.cell? ⟨w.heap.size, 2, none⟩ = some (.slice (some ⟨b, o, none⟩) l.length cap)))
    have hr1 := (hr'.below hb).mono hb.size
    clear X0k0 X0k1 X0k2
    go_region_held3 (fun w' => w'.cell? ⟨w.heap.size, 0, none⟩ = some (.int .i64 (r : Int)) ∧ w'.cell? ⟨w.heap.size, 1, none⟩ = some (.int .i64 (c : Int)) ∧ w'.cell? ⟨w.heap.size, 2, none⟩ = some (.slice (some ⟨b, o, none⟩) l.length cap))
      (first | exact KS.out _ (by (repeat' (first | (with_reducible exact Below.refl _ _) | (with_reducible assumption) | (with_reducible refine Below.alloc ?_ ?_ _) | (with_reducible refine Below.setCell ?_ ?_ _) | (with_reducible refine Below.drew ?_) | (with_reducible refine below_drewN ?_ _) | (with_reducible refine Below.trans ?_ (Below.mono (by assumption) ?_)) | go_size))) | fail)
      ((first
        | (go_at_call 49; (with_reducible refine (HGr.out _ ?_).mono ?_); (focus exact (hr1.below (by (repeat' (first | (with_reducible exact Below.refl _ _) | (with_reducible assumption) | (with_reducible refine Below.alloc ?_ ?_ _) | (with_reducible refine Below.setCell ?_ ?_ _) | (with_reducible refine Below.drew ?_) | (with_reducible refine below_drewN ?_ _) | (with_reducible refine Below.trans ?_ (Below.mono (by assumption) ?_)) | go_size)))).mono (by (repeat' (first | (with_reducible exact Below.refl _ _) | (with_reducible assumption) | (with_reducible refine Below.alloc ?_ ?_ _) | (with_reducible refine Below.setCell ?_ ?_ _) | (with_reducible refine Below.drew ?_) | (with_reducible refine below_drewN ?_ _) | (with_reducible refine Below.trans ?_ (Below.mono (by assumption) ?_)) | go_size)) : Below w1.heap.size w1 _).size); rintro e w3 ⟨A3, c3, rfl, o3, n3, b3⟩; have bb3 : Below w1.heap.size w1 w3 := (by (repeat' (first | (with_reducible exact Below.refl _ _) | (with_reducible assumption) | (with_reducible refine Below.alloc ?_ ?_ _) | (with_reducible refine Below.setCell ?_ ?_ _) | (with_reducible refine Below.drew ?_) | (with_reducible refine below_drewN ?_ _) | (with_reducible refine Below.trans ?_ (Below.mono (by assumption) ?_)) | go_size))); have s3 : w1.heap.size ≤ w3.heap.size := bb3.size)
        | (go_at_call 74; (with_reducible refine (HGs.out _ ?_).mono ?_); (focus exact (hr1.below (by (repeat' (first | (with_reducible exact Below.refl _ _) | (with_reducible assumption) | (with_reducible refine Below.alloc ?_ ?_ _) | (with_reducible refine Below.setCell ?_ ?_ _) | (with_reducible refine Below.drew ?_) | (with_reducible refine below_drewN ?_ _) | (with_reducible refine Below.trans ?_ (Below.mono (by assumption) ?_)) | go_size)))).mono (by (repeat' (first | (with_reducible exact Below.refl _ _) | (with_reducible assumption) | (with_reducible refine Below.alloc ?_ ?_ _) | (with_reducible refine Below.setCell ?_ ?_ _) | (with_reducible refine Below.drew ?_) | (with_reducible refine below_drewN ?_ _) | (with_reducible refine Below.trans ?_ (Below.mono (by assumption) ?_)) | go_size)) : Below w1.heap.size w1 _).size); rintro e w4 ⟨P, rfl, hP, hR, b4⟩; have bb4 : Below w1.heap.size w1 w4 := (by (repeat' (first | (with_reducible exact Below.refl _ _) | (with_reducible assumption) | (with_reducible refine Below.alloc ?_ ?_ _) | (with_reducible refine Below.setCell ?_ ?_ _) | (with_reducible refine Below.drew ?_) | (with_reducible refine below_drewN ?_ _) | (with_reducible refine Below.trans ?_ (Below.mono (by assumption) ?_)) | go_size))))
        | fail))
    have hn3 : ∀ a, A3 = some a → w.heap.size < a.block := fun a ha => by have h1 := n3 a ha; have h2 : w1.drew.heap.size = w1.heap.size := rfl; omega
    replace X0 := X0.below bb4 X0.lt
    replace hb := hb.trans (bb4.mono hb.size)
    obtain ⟨g3, rest3, rfl, X3⟩ := o3 (by rw [ints_length, numL_len]; exact hpos)
    have h3 : w.heap.size < g3 := hn3 _ rfl
    have hg3P : g3 < P := by have := X3.lt; omega
    replace X3 := X3.below b4 X3.lt
    have hPl := hR.lt
    have hl0 := X0.lt
    have hl3 := X3.lt
    clear KS b3 bb3 b4 bb4 o3 n3 hn3 hP s3 HGr HGs hz0 hr1
    go_upto_region 5 with (fail)
    have X0k0 : w4.cell? ⟨w.heap.size, 0, none⟩ = some (.int .i64 (r : Int)) := (X0.cell 0).trans rfl; have X0k1 : w4.cell? ⟨w.heap.size, 1, none⟩ = some (.int .i64 (c : Int)) := (X0.cell 1).trans rfl; have X0k2 : w4.cell? ⟨w.heap.size, 2, none⟩ = some (.slice (some ⟨b, o, none⟩) l.length cap) := (X0.cell 2).trans rfl
    go_wp2_with fail
    clear X0k0 X0k1 X0k2
    go_loopw [6, 19] (fun v j wr => ∃ k : Nat, j = .int .i64 k ∧ k ≤ l.length ∧ IRow wr w4.heap.size v (nI (loneTo (c : Int) l k)) ∧ Below w4.heap.size w4 wr) (fun _ j _ => l.length - (intOf j).toNat)
    case atStart => exact ⟨0, rfl, Nat.zero_le _, IRow.nil, Below.refl _ _⟩
    case round =>
      obtain ⟨k, rfl, hk, hrow, hbb⟩ := hrel
      have hloc := hb.trans (hbb.mono hb.size)
      by_cases hlt : k < l.length
      · obtain ⟨hc0, hc1⟩ := cell_at2 hloc hbl hc hlt
        have hget : l.getD k (0, 0) = l[k] := by rw [List.getD_eq_getElem?_getD, List.getElem?_eq_getElem hlt]; rfl
        have X3' := X3.below hbb hl3
        have hR' := hR.below hbb hPl
        have hc3 : wr.cell? ⟨g3, k, none⟩ = some (.int .i64 (nmb (c : Int) l k)) := (X3'.cell k).trans ((List.getElem?_append_left (by rw [ints_length, numL_len]; exact hlt)).trans (numL_at hlt))
        have hle := loneTo_le (c : Int) l k
        have hs := hbb.size
        go_upto_region 8 with (fail)
        obtain ⟨w9, hw9⟩ : ∃ v, v = wr.alloc (.cells #[.int .i64 l[k].1, .int .i64 l[k].2] 65) := ⟨_, rfl⟩
        have X9 : Whole w9 wr.heap.size 65 [.int .i64 l[k].1, .int .i64 l[k].2] := by rw [hw9]; exact heap_alloc_new wr _
        have b9 : Below wr.heap.size wr w9 := by rw [hw9]; exact (Below.refl _ _).alloc (Nat.le_refl _) _
        rewrite [← hw9]
        clear hw9
        have e0 : w9.cell? ⟨wr.heap.size, 0, none⟩ = some (.int .i64 l[k].1) := (X9.cell 0).trans rfl
        have e1 : w9.cell? ⟨wr.heap.size, 1, none⟩ = some (.int .i64 l[k].2) := (X9.cell 1).trans rfl
        have hrow9 := hrow.keep b9
        have hbb9 := hbb.trans (b9.mono hs)
        have hc39 := (b9.cell (p := ⟨g3, k, none⟩) X3'.lt).trans hc3
        have hR9 := hR'.keep b9
        have hs9 := hbb9.size
        clear hc0 hc1 hrow hbb hc3 X3' hR' b9 X9
        by_cases h66 : l[k].1 = 6
        · have hk6 : (l.getD k (0, 0)).1 = 6 := by rw [hget]; exact h66
          have hgk : gearK l k = true := by unfold gearK; rw [hk6]; rfl
          obtain ⟨m, hm, hmn⟩ := HNm.out k hlt hk6
          have HL := Lib.hid (lone_gear hgk hm)
          rw [hm] at hc39
          rw [h66] at e0
          obtain ⟨q1, q2, q3⟩ := hR9.pair hmn
          have hmn' : (m : Int) < (ng : Int) := by omega
          have hm0 : (0 : Int) ≤ (m : Int) := by omega
          have hsm := HS.out m
          have hct := gct_le (c : Int) l m
          have HY := Lib.hid (loneTo_yes (C := (c : Int)) (l := l) (k := k))
          have HN := Lib.hid (loneTo_no (C := (c : Int)) (l := l) (k := k))
          have ee : ((gcn (c : Int) l l.length (m : Int) 0 : Nat) : Int) + ((gcn (c : Int) l l.length (m : Int) 1 : Nat) : Int) = ((gct (c : Int) l m : Nat) : Int) := by omega
          clear h66 hk6 hgk hm hget hR9
          generalize gcn (c : Int) l l.length (m : Int) 0 = n0 at *
          generalize gcn (c : Int) l l.length (m : Int) 1 = n1 at *
          have e2 : IntKind.i64.wrap ((n0 : Int) + (n1 : Int)) = ((gct (c : Int) l m : Nat) : Int) := by rw [ee]; exact IntWalk.i64_in _ (by omega)
          generalize l[k].2 = st at *
          by_cases h1 : gct (c : Int) l m = 1
          · have HE := Lib.hid (HY.out (by rw [HL.out, decide_eq_true h1]))
            rw [h1] at e2
            clear HY HN HL hsm hct ee
            have hl9 : (nI (loneTo (c : Int) l k)).length ≤ 1048576 := by rw [nI_length]; omega
            go_quiet (fail)
            go_wp2_with (first | (at_builtin; refine wpList_push (x0 := (k : Int)) hrow9 hl9 hs9 rfl _ _ rfl rfl rfl ?_; intro v6 w6 hrow6 hg6 hb6 hl6) | fail)
            go_roundw
            case rel => exact ⟨k + 1, by go_num, by omega, by rw [HE.out, nI_append]; exact hrow6, (below_drewN hbb9 _).trans hb6⟩
            case measure => simp [intOf]; omega
          · have HE := Lib.hid (HN.out (by rw [HL.out, decide_eq_false h1]))
            have h1' : ¬ ((gct (c : Int) l m : Nat) : Int) = 1 := by omega
            generalize gct (c : Int) l m = gc at *
            clear HY HN HL hsm hct ee
            go_quiet (fail)
            go_wp2
            go_roundw
            case rel => exact ⟨k + 1, by go_num, by omega, by rw [HE.out]; exact hrow9, below_drewN hbb9 _⟩
            case measure => simp [intOf]; omega
        · have hgk : gearK l k = false := by unfold gearK; rw [hget]; simpa using h66
          have HE := Lib.hid (loneTo_no (C := (c : Int)) (l := l) (k := k) (by unfold lone; rw [hgk, Bool.false_and]))
          clear hgk hget HS HNm
          generalize l[k].1 = kd at *
          generalize l[k].2 = st at *
          have h66' : decide (kd = 6) = false := by simpa using h66
          go_quiet (fail)
          go_wp2
          go_roundw
          case rel => exact ⟨k + 1, by go_num, by omega, by rw [HE.out]; exact hrow9, below_drewN hbb9 _⟩
          case measure => simp [intOf]; omega
      · obtain rfl : k = l.length := by omega
        obtain ⟨A7, c7, rfl, o7, n7⟩ := hrow.shape
        go_wp2
        go_returns
        exact PostL.mk o7 (fun a ha => Nat.le_trans hb.size (n7 a ha)) hloc
  · rw [show loneB R C l = [] by unfold loneB; rw [hg]; rfl, hg]
    have HG := Lib.hid hg
    clear hg
    go_enter Try.func35, Try.ntmps35
    go_wp2_with fail
    refine (spec_boGood _ _ _ _ l _ hn ((hr.below (by (repeat' (first | (with_reducible exact Below.refl _ _) | (with_reducible assumption) | (with_reducible refine Below.alloc ?_ ?_ _) | (with_reducible refine Below.setCell ?_ ?_ _) | (with_reducible refine Below.drew ?_) | (with_reducible refine below_drewN ?_ _) | (with_reducible refine Below.trans ?_ (Below.mono (by assumption) ?_)) | (with_reducible exact Nat.le_refl _) | (simp; done) | omega | (simp at *; omega))) : Below w.heap.size w _)).mono (by go_size))).mono ?_; rintro e w1 ⟨rfl, b1⟩
    rewrite [HG.out]
    go_wp2
    go_returns
    exact PostL.none_ (by (repeat' (first | (with_reducible exact Below.refl _ _) | (with_reducible assumption) | (with_reducible refine Below.alloc ?_ ?_ _) | (with_reducible refine Below.setCell ?_ ?_ _) | (with_reducible refine Below.drew ?_) | (with_reducible refine below_drewN ?_ _) | (with_reducible refine Below.trans ?_ (Below.mono (by assumption) ?_)) | (with_reducible exact Nat.le_refl _) | (simp; done) | omega | (simp at *; omega))))
theorem impl_LoneGears (R C : Int) (A : Option Addr) (cap : Nat) (l : List (Int × Int)) (w : World) (hn : l.length ≤ 1048576) (hr : Rd w w.heap.size A (flat l)) :
    Calls Try.prog 36 #[.agg #[.int .i64 R, .int .i64 C, .slice A l.length cap]] w (PostL w (loneB R C l) (goodB R C l)) := by
  rcases Bool.eq_false_or_eq_true (goodB R C l) with hg | hg
  · obtain ⟨r, c, rfl, rfl, hG⟩ := geo_of hg
    rw [show loneB (r : Int) (c : Int) l = nI (loneTo (c : Int) l l.length) by unfold loneB; rw [hg]; rfl, hg, ← lsR_all hG]
    have HG := Lib.hid hg
    have n90 := hG.n90
    have hLn := srtG_len c l
    have HCell := Lib.hid (srtG_cell c l)
    have HLt := Lib.hid (srtG_lt c l)
    have HY := Lib.hid (fun t ht => lsR_yes0 (t := t) hG ht)
    have HN := Lib.hid (fun t ht => lsR_no (t := t) hG ht)
    clear hg
    go_enter Try.func36, Try.ntmps36
    obtain ⟨v0, hv0⟩ : ∃ v, v = w.alloc (.cells #[.int .i64 (r : Int), .int .i64 (c : Int), .slice A l.length cap] 31) := ⟨_, rfl⟩; have X0 : Whole v0 w.heap.size 31 [.int .i64 (r : Int), .int .i64 (c : Int), .slice A l.length cap] := (by rw [hv0]; exact heap_alloc_new w _); have hb : Below w.heap.size w v0 := (by rw [hv0]; exact (Below.refl _ _).alloc (Nat.le_refl _) _); have HV := Lib.hid hv0.symm; clear hv0; go_upto_region 1 with (fail); rewrite [HV.out]; clear HV; have X0k0 : v0.cell? ⟨w.heap.size, 0, none⟩ = some (.int .i64 (r : Int)) := (X0.cell 0).trans rfl; have X0k1 : v0.cell? ⟨w.heap.size, 1, none⟩ = some (.int .i64 (c : Int)) := (X0.cell 1).trans rfl; have X0k2 : v0.cell? ⟨w.heap.size, 2, none⟩ = some (.slice A l.length cap) := (X0.cell 2).trans rfl
    go_wp2_with fail
    refine (impl_IsBoard _ _ _ _ l _ hn ((hr.below hb).mono hb.size)).mono ?_; rintro e w1 ⟨rfl, b1⟩
    rewrite [HG.out]
    (clear X0k0 X0k1 X0k2; replace X0 := X0.below b1 X0.lt; replace hb := hb.trans (b1.mono hb.size); clear b1; have X0k0 : w1.cell? ⟨w.heap.size, 0, none⟩ = some (.int .i64 (r : Int)) := (X0.cell 0).trans rfl; have X0k1 : w1.cell? ⟨w.heap.size, 1, none⟩ = some (.int .i64 (c : Int)) := (X0.cell 1).trans rfl; have X0k2 : w1.cell? ⟨w.heap.size, 2, none⟩ = some (.slice A l.length cap) := (X0.cell 2).trans rfl)
    go_wp2_with fail
    refine (impl_groupsOf r c A cap l _ hG ((hr.below hb).mono hb.size)).mono ?_
    rintro e w3 ⟨v, rfl, hL0, b3⟩
    have hL : LRow w3 w1.heap.size v (srtG c l) := hL0
    clear hL0
    clear X0k0 X0k1 X0k2
    replace X0 := X0.below b3 X0.lt
    replace hb := hb.trans (b3.mono hb.size)
    have hl0 := X0.lt
    clear b3
    obtain ⟨A3, c3, rfl⟩ := hL.shape
    have HLR := Lib.hid (fun (w' : World) (h : Below w3.heap.size w3 w') => hL.keep h)
    clear hL
    go_wp2_with fail
    go_loopw [4, 14] (fun v j wr => ∃ k : Nat, j = .int .i64 k ∧ k ≤ (srtG c l).length ∧ IRow wr w3.heap.size v (nI (lsR (c : Int) l k)) ∧ Below w3.heap.size w3 wr) (fun _ j _ => (srtG c l).length - (intOf j).toNat)
    case atStart => exact ⟨0, rfl, Nat.zero_le _, IRow.nil, Below.refl _ _⟩
    case round =>
      obtain ⟨k, rfl, hk, hrow, hbb⟩ := hrel
      have hloc := hb.trans (hbb.mono hb.size)
      have hle := lsR_len (c : Int) l k
      by_cases hlt : k < (srtG c l).length
      · obtain ⟨go, cap0, A4, c4, e4, hh, ho4, hb4, hgo⟩ := (HLR.out wr hbb).at_ hlt
        have eA : A3 = some ⟨go, 0, none⟩ := by injection e4
        subst eA
        clear e4
        have hqn := HCell.out k hlt
        have hqx := HLt.out k hlt
        have hs := hloc.size
        have hs3 := hbb.size
        have X0' := X0.below hbb hl0
        have X0'k0 : wr.cell? ⟨w.heap.size, 0, none⟩ = some (.int .i64 (r : Int)) := (X0'.cell 0).trans rfl; have X0'k1 : wr.cell? ⟨w.heap.size, 1, none⟩ = some (.int .i64 (c : Int)) := (X0'.cell 1).trans rfl; have X0'k2 : wr.cell? ⟨w.heap.size, 2, none⟩ = some (.slice A l.length cap) := (X0'.cell 2).trans rfl
        go_wp2_with fail
        refine (impl_gearsAmongN (r : Int) (c : Int) _ cap l A4 c4 (srtG c l)[k] _ ((hr.below hloc).mono hs) (by omega) hqx ho4.rd).mono ?_
        rintro e w4 ⟨A6, c6, rfl, o6, n6, b4⟩
        clear X0'k0 X0'k1 X0'k2
        have hrow4 := hrow.keep b4
        have hbb4 := hbb.trans (b4.mono hs3)
        have hs4 := hbb4.size
        clear b4 hh ho4 hb4 hgo n6 hqx hrow hbb X0' hloc hs hs3
        have HYk := Lib.hid (HY.out k hlt)
        have HNk := Lib.hid (HN.out k hlt)
        generalize ((srtG c l)[k]).filter (gearK l) = gs at *
        by_cases h1 : gs.length = 1
        · have HE := HYk.out h1
          rw [List.getD_eq_getElem?_getD, List.getElem?_eq_getElem (show 0 < gs.length by omega)] at HE
          have HE' := Lib.hid (show nI (lsR (c : Int) l (k + 1)) = nI (lsR (c : Int) l k) ++ [((gs[0] : Nat) : Int)] from HE)
          clear HE HYk HNk
          obtain ⟨g6, rest6, rfl, X6⟩ := o6 (by rw [ints_length, nI_length]; omega)
          have hc6 := row_num X6 (show 0 < gs.length by omega)
          have hl9 : (nI (lsR (c : Int) l k)).length ≤ 1048576 := by rw [nI_length]; omega
          generalize gs[0] = y at *
          rewrite [h1]
          clear h1
          go_wp2_with (first | (at_builtin; refine wpList_push (x0 := (y : Int)) hrow4 hl9 hs4 rfl _ _ rfl rfl rfl ?_; intro v6 w6 hrow6 hg6 hb6 hl6) | fail)
          go_roundw
          case rel => exact ⟨k + 1, by go_num, by omega, by rw [HE'.out]; exact hrow6, hbb4.trans hb6⟩
          case measure => simp [intOf]; omega
        · have HE := Lib.hid (HNk.out h1)
          have h1' : ¬ (gs.length : Int) = 1 := by omega
          clear HYk HNk h1
          go_wp2
          go_roundw
          case rel => exact ⟨k + 1, by go_num, by omega, by rw [HE.out]; exact hrow4, hbb4⟩
          case measure => simp [intOf]; omega
      · obtain rfl : k = (srtG c l).length := by omega
        have HD := Lib.hid (lsR_nodup (c : Int) l (srtG c l).length)
        have HM := Lib.hid (lsR_lt (C := (c : Int)) (l := l) (t := (srtG c l).length))
        generalize lsR (c : Int) l (srtG c l).length = q at *
        go_wp2_with (first | (go_at_call 75; refine (sort_any (n := l.length) hrow HD.out HM.out (by omega) hbb.size).mono ?_; rintro e w2 ⟨rfl, hrow2, hb2⟩) | fail)
        obtain ⟨A7, c7, rfl, o7, n7⟩ := hrow2.shape
        go_returns
        exact PostL.mk o7 (fun a ha => Nat.le_trans hb.size (n7 a ha)) (hloc.trans (hb2.mono hb.size))
  · rw [show loneB R C l = [] by unfold loneB; rw [hg]; rfl, hg]
    have HG := Lib.hid hg
    clear hg
    go_enter Try.func36, Try.ntmps36
    go_wp2_with fail
    refine (impl_IsBoard _ _ _ _ l _ hn ((hr.below (by (repeat' (first | (with_reducible exact Below.refl _ _) | (with_reducible assumption) | (with_reducible refine Below.alloc ?_ ?_ _) | (with_reducible refine Below.setCell ?_ ?_ _) | (with_reducible refine Below.drew ?_) | (with_reducible refine below_drewN ?_ _) | (with_reducible refine Below.trans ?_ (Below.mono (by assumption) ?_)) | (with_reducible exact Nat.le_refl _) | (simp; done) | omega | (simp at *; omega))) : Below w.heap.size w _)).mono (by go_size))).mono ?_; rintro e w1 ⟨rfl, b1⟩
    rewrite [HG.out]
    go_wp2
    go_returns
    exact PostL.none_ (by (repeat' (first | (with_reducible exact Below.refl _ _) | (with_reducible assumption) | (with_reducible refine Below.alloc ?_ ?_ _) | (with_reducible refine Below.setCell ?_ ?_ _) | (with_reducible refine Below.drew ?_) | (with_reducible refine below_drewN ?_ _) | (with_reducible refine Below.trans ?_ (Below.mono (by assumption) ?_)) | (with_reducible exact Nat.le_refl _) | (simp; done) | omega | (simp at *; omega))))
end Go.Proofs.Ytgecihedocifjaa
