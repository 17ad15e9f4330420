/- MixedGroups, program and model. -/
import Derived.Test.YtgecihedocifjaaMixed
namespace Go.Proofs.Ytgecihedocifjaa
open Go.ChangeShapes Go.WideShapes Go.ChangeAt Go.RowKit Go.Joins Go.Deep
set_option linter.unusedSimpArgs false
set_option linter.unusedVariables false
set_option maxRecDepth 100000
set_option maxHeartbeats 4000000
theorem spec_MixedGroups (R C : Int) (A : Option Addr) (cap : Nat) (l : List (Int × Int)) (w : World) (hn : l.length ≤ 1048576) (hr : Rd w w.heap.size A (flat l)) :
    Calls Try.prog 37 #[.agg #[.int .i64 R, .int .i64 C, .slice A l.length cap]] w (PostL w (mixB R C l) (goodB R C l)) := by
  rcases Bool.eq_false_or_eq_true (goodB R C l) with hg | hg
  · have hpos := (goodB_parts hg).2.2
    obtain ⟨r, c, rfl, rfl, hG⟩ := geo_of hg
    rw [show mixB (r : Int) (c : Int) l = nI (mixTo (c : Int) l (GG (c : Int) l).length) by unfold mixB; rw [hg]; rfl, hg]
    have HG := Lib.hid hg
    have n90 := hG.n90
    have hGl := GG_len c l
    have HGs := Lib.hid (fun w' => spec_ggGearsA r c A cap l w' hG hg)
    generalize (GG (c : Int) l).length = ng at *
    clear hg
    go_enter Try.func37, Try.ntmps37
    obtain ⟨v0, hv0⟩ : ∃ v, v = w.alloc (.cells #[.int .i64 (r : Int), .int .i64 (c : Int), .slice A l.length cap] 31) := ⟨_, rfl⟩; have X0 : Whole v0 w.heap.size 31 [.int .i64 (r : Int), .int .i64 (c : Int), .slice A l.length cap] := (by rw [hv0]; exact heap_alloc_new w _); have hb : Below w.heap.size w v0 := (by rw [hv0]; exact (Below.refl _ _).alloc (Nat.le_refl _) _); have HV := Lib.hid hv0.symm; clear hv0; go_upto_region 1 with (fail); rewrite [HV.out]; clear HV; have X0k0 : v0.cell? ⟨w.heap.size, 0, none⟩ = some (.int .i64 (r : Int)) := (X0.cell 0).trans rfl; have X0k1 : v0.cell? ⟨w.heap.size, 1, none⟩ = some (.int .i64 (c : Int)) := (X0.cell 1).trans rfl; have X0k2 : v0.cell? ⟨w.heap.size, 2, none⟩ = some (.slice A l.length cap) := (X0.cell 2).trans rfl
    go_wp2_with fail
    refine (spec_boGood _ _ _ _ l _ hn ((hr.below hb).mono hb.size)).mono ?_; rintro e w1 ⟨rfl, b1⟩
    rewrite [HG.out]
    (clear X0k0 X0k1 X0k2; replace X0 := X0.below b1 X0.lt; replace hb := hb.trans (b1.mono hb.size); clear b1; have X0k0 : w1.cell? ⟨w.heap.size, 0, none⟩ = some (.int .i64 (r : Int)) := (X0.cell 0).trans rfl; have X0k1 : w1.cell? ⟨w.heap.size, 1, none⟩ = some (.int .i64 (c : Int)) := (X0.cell 1).trans rfl; have X0k2 : w1.cell? ⟨w.heap.size, 2, none⟩ = some (.slice A l.length cap) := (X0.cell 2).trans rfl)
    go_wp2_with fail
    refine (HGs.out _ ((hr.below hb).mono hb.size)).mono ?_
    rintro e w3 ⟨P, rfl, hP, hR, b3⟩
    clear X0k0 X0k1 X0k2
    replace hb := hb.trans (b3.mono hb.size)
    have hPl := hR.lt'
    clear b3 X0 HGs
    go_wp2_with fail
    go_loopw [4, 13] (fun v j wr => ∃ k : Nat, j = .int .i64 k ∧ k ≤ ng ∧ IRow wr w3.heap.size v (nI (mixTo (c : Int) l k)) ∧ Below w3.heap.size w3 wr) (fun _ j _ => ng - (intOf j).toNat)
    case atStart => exact ⟨0, rfl, Nat.zero_le _, IRow.nil, Below.refl _ _⟩
    case round =>
      obtain ⟨k, rfl, hk, hrow, hbb⟩ := hrel
      have hloc := hb.trans (hbb.mono hb.size)
      have hle := mixTo_le (c : Int) l k
      have hs := hbb.size
      by_cases hlt : k < ng
      · obtain ⟨q1, q2, q3⟩ := (hR.below hbb hPl).pair hlt
        have HY := Lib.hid (mixTo_yes (C := (c : Int)) (l := l) (k := k))
        have HN := Lib.hid (mixTo_no (C := (c : Int)) (l := l) (k := k))
        have HM := Lib.hid (show mixG (c : Int) l k = (decide (0 < gcn (c : Int) l l.length (k : Int) 0) && decide (0 < gcn (c : Int) l l.length (k : Int) 1)) from rfl)
        have hl9 : (nI (mixTo (c : Int) l k)).length ≤ 1048576 := by rw [nI_length]; omega
        generalize gcn (c : Int) l l.length (k : Int) 0 = n0 at *
        generalize gcn (c : Int) l l.length (k : Int) 1 = n1 at *
        by_cases h0 : 0 < n0
        · have h0' : (0 : Int) < (n0 : Int) := by omega
          by_cases h1 : 0 < n1
          · have h1' : (0 : Int) < (n1 : Int) := by omega
            have HE := Lib.hid (HY.out (by rw [HM.out, decide_eq_true h0, decide_eq_true h1]; rfl))
            clear HY HN HM h0 h1
            go_wp2_with (first | (at_builtin; refine wpList_push (x0 := (k : Int)) hrow hl9 hs rfl _ _ rfl rfl rfl ?_; intro v6 w6 hrow6 hg6 hb6 hl6) | fail)
            go_roundw
            case rel => exact ⟨k + 1, by go_num, by omega, by rw [HE.out, nI_append]; exact hrow6, hbb.trans hb6⟩
            case measure => simp [intOf]; omega
          · have h1' : ¬ (0 : Int) < (n1 : Int) := by omega
            have HE := Lib.hid (HN.out (by rw [HM.out, decide_eq_false h1, Bool.and_false]))
            clear HY HN HM h0 h1
            go_wp2
            go_roundw
            case rel => exact ⟨k + 1, by go_num, by omega, by rw [HE.out]; exact hrow, hbb⟩
            case measure => simp [intOf]; omega
        · have h0' : ¬ (0 : Int) < (n0 : Int) := by omega
          have HE := Lib.hid (HN.out (by rw [HM.out, decide_eq_false h0, Bool.false_and]))
          clear HY HN HM h0
          go_wp2
          go_roundw
          case rel => exact ⟨k + 1, by go_num, by omega, by rw [HE.out]; exact hrow, hbb⟩
          case measure => simp [intOf]; omega
      · obtain rfl : ng = k := by omega
        obtain ⟨A7, c7, rfl, o7, n7⟩ := hrow.shape
        go_wp2
        go_returns
        exact PostL.mk o7 (fun a ha => Nat.le_trans hb.size (n7 a ha)) hloc
  · rw [show mixB R C l = [] by unfold mixB; rw [hg]; rfl, hg]
    have HG := Lib.hid hg
    clear hg
    go_enter Try.func37, Try.ntmps37
    go_wp2_with fail
    refine (spec_boGood _ _ _ _ l _ hn ((hr.below (by (repeat' (first | (with_reducible exact Below.refl _ _) | (with_reducible assumption) | (with_reducible refine Below.alloc ?_ ?_ _) | (with_reducible refine Below.setCell ?_ ?_ _) | (with_reducible refine Below.drew ?_) | (with_reducible refine below_drewN ?_ _) | (with_reducible refine Below.trans ?_ (Below.mono (by assumption) ?_)) | (with_reducible exact Nat.le_refl _) | (simp; done) | omega | (simp at *; omega))) : Below w.heap.size w _)).mono (by go_size))).mono ?_; rintro e w1 ⟨rfl, b1⟩
    rewrite [HG.out]
    go_wp2
    go_returns
    exact PostL.none_ (by (repeat' (first | (with_reducible exact Below.refl _ _) | (with_reducible assumption) | (with_reducible refine Below.alloc ?_ ?_ _) | (with_reducible refine Below.setCell ?_ ?_ _) | (with_reducible refine Below.drew ?_) | (with_reducible refine below_drewN ?_ _) | (with_reducible refine Below.trans ?_ (Below.mono (by assumption) ?_)) | (with_reducible exact Nat.le_refl _) | (simp; done) | omega | (simp at *; omega))))
theorem impl_MixedGroups (R C : Int) (A : Option Addr) (cap : Nat) (l : List (Int × Int)) (w : World) (hn : l.length ≤ 1048576) (hr : Rd w w.heap.size A (flat l)) :
    Calls Try.prog 38 #[.agg #[.int .i64 R, .int .i64 C, .slice A l.length cap]] w (PostL w (mixB R C l) (goodB R C l)) := by
  rcases Bool.eq_false_or_eq_true (goodB R C l) with hg | hg
  · have hpos := (goodB_parts hg).2.2
    obtain ⟨r, c, rfl, rfl, hG⟩ := geo_of hg
    obtain ⟨b, o, rfl, hbl, hc⟩ := hr (by rw [flat_length]; omega)
    have hr' : Rd w w.heap.size (some ⟨b, o, none⟩) (flat l) := fun _ => ⟨b, o, rfl, hbl, hc⟩
    rw [show mixB (r : Int) (c : Int) l = nI (mixTo (c : Int) l (GG (c : Int) l).length) by unfold mixB; rw [hg]; rfl, hg, ← srtG_length]
    have HG := Lib.hid hg
    have n90 := hG.n90
    have hLn := srtG_len c l
    have HCell := Lib.hid (srtG_cell c l)
    have HLt := Lib.hid (srtG_lt c l)
    have HMx := Lib.hid (fun t ht => mix_any (t := t) hG hg ht)
    have hmf : ∀ (fn : Fn) (first cap : Array Value) (w : World), (Instr.makeFunc fn first cap).run Try.prog w = .ok (.func fn first cap) w := fun _ _ _ _ => rfl
    clear hg hr
    go_enter Try.func38, Try.ntmps38
    obtain ⟨v0, hv0⟩ : ∃ v, v = w.alloc (.cells #[.int .i64 (r : Int), .int .i64 (c : Int), .slice (some ⟨b, o, none⟩) l.length cap] 31) := ⟨_, rfl⟩
    have X0 : Whole v0 w.heap.size 31 [.int .i64 (r : Int), .int .i64 (c : Int), .slice (some ⟨b, o, none⟩) l.length cap] := by rw [hv0]; exact heap_alloc_new w _
    have hb : Below w.heap.size w v0 := by rw [hv0]; exact (Below.refl _ _).alloc (Nat.le_refl _) _
    have HV := Lib.hid hv0.symm
    clear hv0
    go_upto_region 1 with (fail)
    rewrite [HV.out]
    clear HV
    have X0k0 : v0.cell? ⟨w.heap.size, 0, none⟩ = some (.int .i64 (r : Int)) := (X0.cell 0).trans rfl; have X0k1 : v0.cell? ⟨w.heap.size, 1, none⟩ = some (.int .i64 (c : Int)) := (X0.cell 1).trans rfl; have X0k2 : v0.cell? ⟨w.heap.size, 2, none⟩ = some (.slice (some ⟨b, o, none⟩) l.length cap) := (X0.cell 2).trans rfl
    go_wp2_with fail
    refine (impl_IsBoard _ _ _ _ l _ hn ((hr'.below hb).mono hb.size)).mono ?_; rintro e w1 ⟨rfl, b1⟩
    rewrite [HG.out]
    clear X0k0 X0k1 X0k2
    replace X0 := X0.below b1 X0.lt
    replace hb := hb.trans (b1.mono hb.size)
    clear b1
    have X0k0 : w1.cell? ⟨w.heap.size, 0, none⟩ = some (.int .i64 (r : Int)) := (X0.cell 0).trans rfl; have X0k1 : w1.cell? ⟨w.heap.size, 1, none⟩ = some (.int .i64 (c : Int)) := (X0.cell 1).trans rfl; have X0k2 : w1.cell? ⟨w.heap.size, 2, none⟩ = some (.slice (some ⟨b, o, none⟩) l.length cap) := (X0.cell 2).trans rfl
    go_wp2_with fail
    refine (impl_groupsOf r c _ cap l _ hG ((hr'.below hb).mono hb.size)).mono ?_
    rintro e w3 ⟨v, rfl, hL0, b3⟩
    have hL : LRow w3 w1.heap.size v (srtG c l) := hL0
    clear hL0
    clear X0k0 X0k1 X0k2
    replace X0 := X0.below b3 X0.lt
    replace hb := hb.trans (b3.mono hb.size)
    have hl0 := X0.lt
    clear b3
    obtain ⟨A3, c3, rfl⟩ := hL.shape
    have HLR := Lib.hid (fun (w' : World) (h : Below w3.heap.size w3 w') => hL.keep h)
    clear hL
    go_wp2_with fail
    go_loopw [4, 15] (fun v j wr => ∃ k : Nat, j = .int .i64 k ∧ k ≤ (srtG c l).length ∧ IRow wr w3.heap.size v (nI (mixTo (c : Int) l k)) ∧ Below w3.heap.size w3 wr) (fun _ j _ => (srtG c l).length - (intOf j).toNat)
    case atStart => exact ⟨0, rfl, Nat.zero_le _, IRow.nil, Below.refl _ _⟩
    case round =>
      obtain ⟨k, rfl, hk, hrow, hbb⟩ := hrel
      have hloc := hb.trans (hbb.mono hb.size)
      have hle := mixTo_le (c : Int) l k
      by_cases hlt : k < (srtG c l).length
      · obtain ⟨go, cap0, A4, c4, e4, hh, ho4, hb4, hgo⟩ := (HLR.out wr hbb).at_ hlt
        have eA : A3 = some ⟨go, 0, none⟩ := by injection e4
        subst eA
        clear e4
        have hqn := HCell.out k hlt
        have hqx := HLt.out k hlt
        have hs := hloc.size
        have hs3 := hbb.size
        have X0' := X0.below hbb hl0
        have X0'k0 : wr.cell? ⟨w.heap.size, 0, none⟩ = some (.int .i64 (r : Int)) := (X0'.cell 0).trans rfl; have X0'k1 : wr.cell? ⟨w.heap.size, 1, none⟩ = some (.int .i64 (c : Int)) := (X0'.cell 1).trans rfl; have X0'k2 : wr.cell? ⟨w.heap.size, 2, none⟩ = some (.slice (some ⟨b, o, none⟩) l.length cap) := (X0'.cell 2).trans rfl
        go_wp2_with fail
        refine (impl_gearsAmongN (r : Int) (c : Int) _ cap l A4 c4 (srtG c l)[k] _ ((hr'.below hloc).mono hs) (by omega) hqx ho4.rd).mono ?_
        rintro e w4 ⟨A6, c6, rfl, o6, n6, b4⟩
        clear X0'k0 X0'k1 X0'k2
        have hrow4 := hrow.keep b4
        have hbb4 := hbb.trans (b4.mono hs3)
        have hs4 := hbb4.size
        have hHM := HMx.out k hlt
        have HY := Lib.hid (mixTo_yes (C := (c : Int)) (l := l) (k := k))
        have HN := Lib.hid (mixTo_no (C := (c : Int)) (l := l) (k := k))
        have hgx : ∀ x ∈ ((srtG c l)[k]).filter (gearK l), x < l.length := fun x hx => hqx x (List.mem_filter.1 hx).1
        have hgn : (((srtG c l)[k]).filter (gearK l)).length ≤ 90 := by have := List.length_filter_le (gearK l) (srtG c l)[k]; omega
        clear b4 hh ho4 hb4 hgo n6 hqx hrow hbb X0' hloc hs hs3
        generalize ((srtG c l)[k]).filter (gearK l) = gs at *
        go_upto_region 9 with (fail)
        obtain ⟨w5, hw5⟩ : ∃ v, v = w4.alloc (.cells #[.slice A6 gs.length c6] 26) := ⟨_, rfl⟩
        have X5 : Whole w5 w4.heap.size 26 [.slice A6 gs.length c6] := by rw [hw5]; exact heap_alloc_new w4 _
        have b5 : Below w4.heap.size w4 w5 := by rw [hw5]; exact (Below.refl _ _).alloc (Nat.le_refl _) _
        rewrite [← hw5]
        clear hw5
        have o65 := o6.keep b5
        have hrow5 := hrow4.keep b5
        have hbb5 := hbb4.trans (b5.mono hs4)
        have hloc5 := hb.trans (hbb5.mono hb.size)
        have hs5 := hbb5.size
        have X05 := X0.below hbb5 hl0
        have hcnt := impl_ContainsOther A6 c6 gs w.heap.size w4.heap.size (oth l (gs.getD 0 0)) w5 hgn o65 (fun y hy w' hb' => by
          obtain ⟨g6, rest6, rfl, X6⟩ := o65 (by rw [ints_length, nI_length]; exact List.length_pos_of_mem hy)
          have hp : 0 < gs.length := List.length_pos_of_mem hy
          have e0 : gs.getD 0 0 = gs[0] := by rw [List.getD_eq_getElem?_getD, List.getElem?_eq_getElem hp]; rfl
          have hy0 : gs[0] < l.length := hgx _ (List.getElem_mem hp)
          have hyl := hgx y hy
          have hlw := hloc5.trans (hb'.mono hloc5.size)
          obtain ⟨a0, a1⟩ := cell_at2 hlw hbl hc hyl
          obtain ⟨a2, a3⟩ := cell_at2 hlw hbl hc hy0
          have hcl := impl_isOther (r : Int) (c : Int) w.heap.size w4.heap.size b o cap gs.length c6 g6 y gs[0] l w' hyl hy0 n90 hp (((X05.below hb' X05.lt).cell 2).trans rfl) (((X5.below hb' X5.lt).cell 0).trans rfl) (row_num (X6.below hb' X6.lt) hp) a0 a1 a2 a3
          have eT : oth l (gs.getD 0 0) y = decide (¬ (l[y].1 = l[gs[0]].1 ∧ l[y].2 = l[gs[0]].2)) := by
            rw [e0]
            unfold oth
            rw [List.getD_eq_getElem?_getD, List.getD_eq_getElem?_getD, List.getElem?_eq_getElem hyl, List.getElem?_eq_getElem hy0]
            rfl
          rw [eT]
          exact hcl)
        rw [hHM] at hcnt
        have X5k := (X5.cell 0).trans rfl
        have X5k' : w5.cell? ⟨w4.heap.size, 0, none⟩ = some (.slice A6 gs.length c6) := X5k
        clear X5k hHM o65 o6 hrow4 hbb4 b5 X05
        go_wp2_with fail
        refine hcnt.mono ?_; rintro e w6 ⟨rfl, b6⟩
        have hrow6 := hrow5.keep b6
        have hbb6 := hbb5.trans (b6.mono hs5)
        have hs6 := hbb6.size
        clear hcnt X5k' hrow5 hbb5 b6 hs5 X5 hgx
        have hl9 : (nI (mixTo (c : Int) l k)).length ≤ 1048576 := by rw [nI_length]; omega
        rcases Bool.eq_false_or_eq_true (mixG (c : Int) l k) with hm | hm
        · have HE := Lib.hid (HY.out hm)
          rewrite [hm]
          clear HY HN hm
          go_wp2_with (first | (at_builtin; refine wpList_push (x0 := (k : Int)) hrow6 hl9 hs6 rfl _ _ rfl rfl rfl ?_; intro v7 w7 hrow7 hg7 hb7 hl7) | fail)
          go_roundw
          case rel => exact ⟨k + 1, by go_num, by omega, by rw [HE.out, nI_append]; exact hrow7, hbb6.trans hb7⟩
          case measure => simp [intOf]; omega
        · have HE := Lib.hid (HN.out hm)
          rewrite [hm]
          clear HY HN hm
          go_wp2
          go_roundw
          case rel => exact ⟨k + 1, by go_num, by omega, by rw [HE.out]; exact hrow6, hbb6⟩
          case measure => simp [intOf]; omega
      · obtain rfl : k = (srtG c l).length := by omega
        obtain ⟨A7, c7, rfl, o7, n7⟩ := hrow.shape
        go_wp2
        go_returns
        exact PostL.mk o7 (fun a ha => Nat.le_trans hb.size (n7 a ha)) hloc
  · rw [show mixB R C l = [] by unfold mixB; rw [hg]; rfl, hg]
    have HG := Lib.hid hg
    clear hg
    go_enter Try.func38, Try.ntmps38
    go_wp2_with fail
    refine (impl_IsBoard _ _ _ _ l _ hn ((hr.below (by (repeat' (first | (with_reducible exact Below.refl _ _) | (with_reducible assumption) | (with_reducible refine Below.alloc ?_ ?_ _) | (with_reducible refine Below.setCell ?_ ?_ _) | (with_reducible refine Below.drew ?_) | (with_reducible refine below_drewN ?_ _) | (with_reducible refine Below.trans ?_ (Below.mono (by assumption) ?_)) | (with_reducible exact Nat.le_refl _) | (simp; done) | omega | (simp at *; omega))) : Below w.heap.size w _)).mono (by go_size))).mono ?_; rintro e w1 ⟨rfl, b1⟩
    rewrite [HG.out]
    go_wp2
    go_returns
    exact PostL.none_ (by (repeat' (first | (with_reducible exact Below.refl _ _) | (with_reducible assumption) | (with_reducible refine Below.alloc ?_ ?_ _) | (with_reducible refine Below.setCell ?_ ?_ _) | (with_reducible refine Below.drew ?_) | (with_reducible refine below_drewN ?_ _) | (with_reducible refine Below.trans ?_ (Below.mono (by assumption) ?_)) | (with_reducible exact Nat.le_refl _) | (simp; done) | omega | (simp at *; omega))))
end Go.Proofs.Ytgecihedocifjaa
