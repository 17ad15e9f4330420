/- LargestGroup, program and model. -/
import Derived.BigQuiet
import Derived.Test.YtgecihedocifjaaGearsW
namespace Go.Proofs.Ytgecihedocifjaa
open Go.ChangeShapes Go.WideShapes Go.ChangeAt Go.RowKit Go.Joins Go.Deep
set_option linter.unusedSimpArgs false
set_option linter.unusedVariables false
set_option maxRecDepth 100000
set_option maxHeartbeats 4000000
def gct (C : Int) (l : List (Int × Int)) (m : Nat) : Nat := ((List.range l.length).filter fun x => gearK l x && decide (nmb C l x = (m : Int))).length
theorem gcn_sum {C : Int} {l : List (Int × Int)} {m : Int} (h : ∀ y, y < l.length → (l.getD y (0, 0)).2 = 0 ∨ (l.getD y (0, 0)).2 = 1) : ∀ k, k ≤ l.length → gcn C l k m 0 + gcn C l k m 1 = ((List.range k).filter fun x => gearK l x && decide (nmb C l x = m)).length := by
  intro k
  induction k with
  | zero => intro _; rfl
  | succ k ih =>
    intro hk
    rw [gcn_step, gcn_step, List.range_succ, List.filter_append, List.length_append, ← ih (by omega)]
    have e : (List.filter (fun x => gearK l x && decide (nmb C l x = m)) [k]).length = if gearK l k && decide (nmb C l k = m) then 1 else 0 := by
      by_cases q : (gearK l k && decide (nmb C l k = m)) = true
      · rw [if_pos q]; simp only [List.filter_cons, q, if_true]; rfl
      · rw [if_neg q]; simp only [List.filter_cons, q]; rfl
    rw [e]
    rcases h k (by omega) with q | q
    · rw [q]; simp; omega
    · rw [q]; simp; omega
theorem gct_sum {r c : Int} {l : List (Int × Int)} (hg : goodB r c l = true) (m : Nat) : gcn c l l.length (m : Int) 0 + gcn c l l.length (m : Int) 1 = gct c l m := gcn_sum (good_state hg) _ (Nat.le_refl _)
theorem gct_le (C : Int) (l : List (Int × Int)) (m : Nat) : gct C l m ≤ l.length := by
  unfold gct
  have := List.length_filter_le (fun x => gearK l x && decide (nmb C l x = (m : Int))) (List.range l.length)
  rw [List.length_range] at this
  exact this
theorem gct_srt {r c t : Nat} {l : List (Int × Int)} (hG : Geo r c l.length) (ht : t < (srtG c l).length) : (((srtG c l)[t]).filter (gearK l)).length = gct (c : Int) l t := by
  rw [gs_eq hG ht]
  rfl
/-- The first place with the greatest number, and that number. -/
def lgT (t : Nat → Nat) : Nat → Nat × Nat
  | 0 => (0, 0)
  | k + 1 => if (lgT t k).2 < t k then (k, t k) else lgT t k
theorem lgT_yes {t : Nat → Nat} {k : Nat} (h : (lgT t k).2 < t k) : lgT t (k + 1) = (k, t k) := by
  show (if _ then _ else _) = _
  rw [if_pos h]
theorem lgT_no {t : Nat → Nat} {k : Nat} (h : ¬ (lgT t k).2 < t k) : lgT t (k + 1) = lgT t k := by
  show (if _ then _ else _) = _
  rw [if_neg h]
theorem lgT_one {t : Nat → Nat} : lgT t 1 = (0, t 0) := by
  show (if 0 < t 0 then (0, t 0) else (0, 0)) = _
  split
  · rfl
  · rw [show t 0 = 0 by omega]
theorem lgT_le {t : Nat → Nat} {B : Nat} (h : ∀ k, t k ≤ B) : ∀ k, (lgT t k).1 ≤ k ∧ (lgT t k).2 ≤ B
  | 0 => ⟨Nat.le_refl _, Nat.zero_le _⟩
  | k + 1 => by
    have ih := lgT_le h k
    show (if (lgT t k).2 < t k then (k, t k) else lgT t k).1 ≤ k + 1 ∧ (if (lgT t k).2 < t k then (k, t k) else lgT t k).2 ≤ B
    split
    · exact ⟨by show k ≤ k + 1; omega, h k⟩
    · exact ⟨by omega, ih.2⟩
def lgP (C : Int) (l : List (Int × Int)) : Nat × Nat := lgT (gct C l) (GG C l).length
def okL (R C : Int) (l : List (Int × Int)) : Bool := goodB R C l && decide (0 < (GG C l).length)
def lgA (R C : Int) (l : List (Int × Int)) : Int := selI (goodB R C l) ((lgP C l).1 : Int)
def lgM (R C : Int) (l : List (Int × Int)) : Int := selI (goodB R C l) ((lgP C l).2 : Int)
theorem spec_LargestGroup (R C : Int) (A : Option Addr) (cap : Nat) (l : List (Int × Int)) (w : World) (hn : l.length ≤ 1048576) (hr : Rd w w.heap.size A (flat l)) :
    Calls Try.prog 41 #[.agg #[.int .i64 R, .int .i64 C, .slice A l.length cap]] w (fun e w' => e = .returned (.tuple #[.int .i64 (lgA R C l), .int .i64 (lgM R C l), .bool (okL R C l)]) ∧ Below w.heap.size w w') := by
  rcases Bool.eq_false_or_eq_true (goodB R C l) with hg | hg
  · have hpos := (goodB_parts hg).2.2
    obtain ⟨r, c, rfl, rfl, hG⟩ := geo_of hg
    rw [show lgA (r : Int) (c : Int) l = ((lgP (c : Int) l).1 : Int) by unfold lgA; rw [hg]; rfl, show lgM (r : Int) (c : Int) l = ((lgP (c : Int) l).2 : Int) by unfold lgM; rw [hg]; rfl, show okL (r : Int) (c : Int) l = decide (0 < (GG (c : Int) l).length) by unfold okL; rw [hg, Bool.true_and]]
    have HG := Lib.hid hg
    have HS := Lib.hid (gct_sum hg)
    have n90 := hG.n90
    have hle := gct_le (c : Int) l
    have hGl := GG_len c l
    have HGs := Lib.hid (fun w' => spec_ggGearsA r c A cap l w' hG hg)
    unfold lgP
    generalize (GG (c : Int) l).length = ng at *
    clear hg
    go_enter Try.func41, Try.ntmps41
    obtain ⟨v0, hv0⟩ : ∃ v, v = w.alloc (.cells #[.int .i64 (r : Int), .int .i64 (c : Int), .slice A l.length cap] 31) := ⟨_, rfl⟩; have X0 : Whole v0 w.heap.size 31 [.int .i64 (r : Int), .int .i64 (c : Int), .slice A l.length cap] := (by rw [hv0]; exact heap_alloc_new w _); have hb : Below w.heap.size w v0 := (by rw [hv0]; exact (Below.refl _ _).alloc (Nat.le_refl _) _); have HV := Lib.hid hv0.symm; clear hv0; go_upto_region 1 with (fail); rewrite [HV.out]; clear HV; have X0k0 : v0.cell? ⟨w.heap.size, 0, none⟩ = some (.int .i64 (r : Int)) := (X0.cell 0).trans rfl; have X0k1 : v0.cell? ⟨w.heap.size, 1, none⟩ = some (.int .i64 (c : Int)) := (X0.cell 1).trans rfl; have X0k2 : v0.cell? ⟨w.heap.size, 2, none⟩ = some (.slice A l.length cap) := (X0.cell 2).trans rfl
    go_wp2_with fail
    refine (spec_boGood _ _ _ _ l _ hn ((hr.below hb).mono hb.size)).mono ?_; rintro e w1 ⟨rfl, b1⟩
    rewrite [HG.out]
    (clear X0k0 X0k1 X0k2; replace X0 := X0.below b1 X0.lt; replace hb := hb.trans (b1.mono hb.size); clear b1; have X0k0 : w1.cell? ⟨w.heap.size, 0, none⟩ = some (.int .i64 (r : Int)) := (X0.cell 0).trans rfl; have X0k1 : w1.cell? ⟨w.heap.size, 1, none⟩ = some (.int .i64 (c : Int)) := (X0.cell 1).trans rfl; have X0k2 : w1.cell? ⟨w.heap.size, 2, none⟩ = some (.slice A l.length cap) := (X0.cell 2).trans rfl)
    go_wp2_with fail
    refine (HGs.out _ ((hr.below hb).mono hb.size)).mono ?_
    rintro e w3 ⟨P, rfl, hP, hR, b3⟩
    clear X0k0 X0k1 X0k2
    have hb3 := hb.trans (b3.mono hb.size)
    clear b3 hb X0
    clear HGs
    go_wp2_with fail
    go_loopw [5, 6, 15] (fun bst mst j wr => ∃ k : Nat, j = .int .i64 k ∧ k ≤ ng ∧ bst = .int .i64 (if k = 0 then -1 else ((lgT (gct (c : Int) l) k).1 : Int)) ∧ mst = .int .i64 (if k = 0 then -1 else ((lgT (gct (c : Int) l) k).2 : Int)) ∧ GRow wr P ng (gpr (c : Int) l l.length) ∧ Below w.heap.size w wr) (fun _ _ j _ => ng - (intOf j).toNat)
    case atStart => exact ⟨0, rfl, Nat.zero_le _, rfl, rfl, hR, hb3⟩
    case round =>
      clear hR hb3
      obtain ⟨k, rfl, hk, rfl, rfl, hR, hb⟩ := hrel
      by_cases hlt : k < ng
      · obtain ⟨q1, q2, q3⟩ := hR.pair hlt
        have hs := HS.out k
        have ht := hle k
        have hm := (lgT_le hle k)
        have HY := Lib.hid (lgT_yes (t := gct (c : Int) l) (k := k))
        have HN := Lib.hid (lgT_no (t := gct (c : Int) l) (k := k))
        have HO := Lib.hid (lgT_one (t := gct (c : Int) l))
        have e1 : ((gcn (c : Int) l l.length (k : Int) 0 : Nat) : Int) + ((gcn (c : Int) l l.length (k : Int) 1 : Nat) : Int) = ((gct (c : Int) l k : Nat) : Int) := by omega
        generalize gcn (c : Int) l l.length (k : Int) 0 = n0 at *
        generalize gcn (c : Int) l l.length (k : Int) 1 = n1 at *
        have e2 : IntKind.i64.wrap ((n0 : Int) + (n1 : Int)) = ((gct (c : Int) l k : Nat) : Int) := by rw [e1]; exact IntWalk.i64_in _ (by omega)
        by_cases hbig : (if k = 0 then (-1 : Int) else ((lgT (gct (c : Int) l) k).2 : Int)) < ((gct (c : Int) l k : Nat) : Int)
        · have e3 : lgT (gct (c : Int) l) (k + 1) = (k, gct (c : Int) l k) := by
            by_cases q : k = 0
            · subst q; exact HO.out
            · rw [if_neg q] at hbig; exact HY.out (by omega)
          have HE := Lib.hid e3
          clear HY HN HO e3 hm hs
          generalize (if k = 0 then (-1 : Int) else ((lgT (gct (c : Int) l) k).2 : Int)) = mo at *
          generalize gct (c : Int) l k = tk at *
          go_upto_region 7 with (fail)
          go_quiet (fail)
          go_upto_region 9 with (fail)
          go_quiet (fail)
          go_wp2
          go_roundw
          case rel => exact ⟨k + 1, by go_num, by omega, by rw [if_neg (by omega), HE.out], by rw [if_neg (by omega), HE.out], hR, below_drewN hb _⟩
          case measure => simp [intOf]; omega
        · have hk0 : ¬ k = 0 := fun q => by rw [if_pos q] at hbig; omega
          rw [if_neg hk0] at hbig
          have HE := Lib.hid (HN.out (by omega))
          clear HY HN HO hm hs
          rw [if_neg hk0, if_neg hk0]
          generalize gct (c : Int) l k = tk at *
          have hbig' : ¬ ((lgT (gct (c : Int) l) k).2 : Int) < (tk : Int) := hbig
          go_upto_region 7 with (fail)
          go_quiet (fail)
          go_wp2
          go_roundw
          case rel => exact ⟨k + 1, by go_num, by omega, by rw [if_neg (by omega), HE.out], by rw [if_neg (by omega), HE.out], hR, below_drewN hb _⟩
          case measure => simp [intOf]; omega
      · obtain rfl : ng = k := by omega
        by_cases h0 : ng = 0
        · subst h0
          go_wp2
          go_returns
          exact ⟨rfl, hb⟩
        · rw [if_neg h0, if_neg h0]
          have h0' : (decide (0 < ng)) = true := by simp; omega
          go_wp2
          go_returns
          exact ⟨ret_eq (by simp; omega), hb⟩
  · rw [show lgA R C l = 0 by unfold lgA; rw [hg]; rfl, show lgM R C l = 0 by unfold lgM; rw [hg]; rfl, show okL R C l = false by unfold okL; rw [hg, Bool.false_and]]
    have HG := Lib.hid hg
    clear hg
    go_enter Try.func41, Try.ntmps41
    go_wp2_with fail
    refine (spec_boGood _ _ _ _ l _ hn ((hr.below (by (repeat' (first | (with_reducible exact Below.refl _ _) | (with_reducible assumption) | (with_reducible refine Below.alloc ?_ ?_ _) | (with_reducible refine Below.setCell ?_ ?_ _) | (with_reducible refine Below.drew ?_) | (with_reducible refine below_drewN ?_ _) | (with_reducible refine Below.trans ?_ (Below.mono (by assumption) ?_)) | (with_reducible exact Nat.le_refl _) | (simp; done) | omega | (simp at *; omega))) : Below w.heap.size w _)).mono (by go_size))).mono ?_; rintro e w1 ⟨rfl, b1⟩
    rewrite [HG.out]
    go_wp2
    go_returns
    exact ⟨rfl, by (repeat' (first | (with_reducible exact Below.refl _ _) | (with_reducible assumption) | (with_reducible refine Below.alloc ?_ ?_ _) | (with_reducible refine Below.setCell ?_ ?_ _) | (with_reducible refine Below.drew ?_) | (with_reducible refine below_drewN ?_ _) | (with_reducible refine Below.trans ?_ (Below.mono (by assumption) ?_)) | (with_reducible exact Nat.le_refl _) | (simp; done) | omega | (simp at *; omega)))⟩
theorem srtG_length (c : Nat) (l : List (Int × Int)) : (srtG c l).length = (GG (c : Int) l).length := by unfold srtG; rw [List.length_map]
theorem srtG_lt (c : Nat) (l : List (Int × Int)) (t : Nat) (ht : t < (srtG c l).length) : ∀ x ∈ (srtG c l)[t], x < l.length := fun x hx => by
  have e : (srtG c l)[t] = sortN l.length ((GG (c : Int) l)[t]'(by unfold srtG at ht; rwa [List.length_map] at ht)) := by simp only [srtG, List.getElem_map]
  rw [e, mem_sortN] at hx
  exact hx.1
theorem impl_LargestGroup (R C : Int) (A : Option Addr) (cap : Nat) (l : List (Int × Int)) (w : World) (hn : l.length ≤ 1048576) (hr : Rd w w.heap.size A (flat l)) :
    Calls Try.prog 42 #[.agg #[.int .i64 R, .int .i64 C, .slice A l.length cap]] w (fun e w' => e = .returned (.tuple #[.int .i64 (lgA R C l), .int .i64 (lgM R C l), .bool (okL R C l)]) ∧ Below w.heap.size w w') := by
  rcases Bool.eq_false_or_eq_true (goodB R C l) with hg | hg
  · have hpos := (goodB_parts hg).2.2
    obtain ⟨r, c, rfl, rfl, hG⟩ := geo_of hg
    rw [show lgA (r : Int) (c : Int) l = ((lgP (c : Int) l).1 : Int) by unfold lgA; rw [hg]; rfl, show lgM (r : Int) (c : Int) l = ((lgP (c : Int) l).2 : Int) by unfold lgM; rw [hg]; rfl, show okL (r : Int) (c : Int) l = decide (0 < (GG (c : Int) l).length) by unfold okL; rw [hg, Bool.true_and]]
    unfold lgP
    rw [← srtG_length]
    have HG := Lib.hid hg
    have n90 := hG.n90
    have hle := gct_le (c : Int) l
    have hLn := srtG_len c l
    have HT := Lib.hid (fun t ht => gct_srt hG (t := t) ht)
    have HCell := Lib.hid (srtG_cell c l)
    have HLt := Lib.hid (srtG_lt c l)
    clear hg
    go_enter Try.func42, Try.ntmps42
    obtain ⟨v0, hv0⟩ : ∃ v, v = w.alloc (.cells #[.int .i64 (r : Int), .int .i64 (c : Int), .slice A l.length cap] 31) := ⟨_, rfl⟩; have X0 : Whole v0 w.heap.size 31 [.int .i64 (r : Int), .int .i64 (c : Int), .slice A l.length cap] := (by rw [hv0]; exact heap_alloc_new w _); have hb : Below w.heap.size w v0 := (by rw [hv0]; exact (Below.refl _ _).alloc (Nat.le_refl _) _); have HV := Lib.hid hv0.symm; clear hv0; go_upto_region 1 with (fail); rewrite [HV.out]; clear HV; have X0k0 : v0.cell? ⟨w.heap.size, 0, none⟩ = some (.int .i64 (r : Int)) := (X0.cell 0).trans rfl; have X0k1 : v0.cell? ⟨w.heap.size, 1, none⟩ = some (.int .i64 (c : Int)) := (X0.cell 1).trans rfl; have X0k2 : v0.cell? ⟨w.heap.size, 2, none⟩ = some (.slice A l.length cap) := (X0.cell 2).trans rfl
    go_wp2_with fail
    refine (impl_IsBoard _ _ _ _ l _ hn ((hr.below hb).mono hb.size)).mono ?_; rintro e w1 ⟨rfl, b1⟩
    rewrite [HG.out]
    (clear X0k0 X0k1 X0k2; replace X0 := X0.below b1 X0.lt; replace hb := hb.trans (b1.mono hb.size); clear b1; have X0k0 : w1.cell? ⟨w.heap.size, 0, none⟩ = some (.int .i64 (r : Int)) := (X0.cell 0).trans rfl; have X0k1 : w1.cell? ⟨w.heap.size, 1, none⟩ = some (.int .i64 (c : Int)) := (X0.cell 1).trans rfl; have X0k2 : w1.cell? ⟨w.heap.size, 2, none⟩ = some (.slice A l.length cap) := (X0.cell 2).trans rfl)
    go_wp2_with fail
    refine (impl_groupsOf r c A cap l _ hG ((hr.below hb).mono hb.size)).mono ?_
    rintro e w3 ⟨v, rfl, hL0, b3⟩
    have hL : LRow w3 w1.heap.size v (srtG c l) := hL0
    clear hL0
    clear X0k0 X0k1 X0k2
    replace X0 := X0.below b3 X0.lt
    replace hb := hb.trans (b3.mono hb.size)
    clear b3
    obtain ⟨A3, c3, rfl⟩ := hL.shape
    generalize w1.heap.size = base at *
    go_wp2_with fail
    go_loopw [6, 7, 18] (fun bst mst j wr => ∃ k : Nat, j = .int .i64 k ∧ k ≤ (srtG c l).length ∧ bst = .int .i64 ((lgT (gct (c : Int) l) k).1 : Int) ∧ mst = .int .i64 ((lgT (gct (c : Int) l) k).2 : Int) ∧ Whole wr w.heap.size 31 [.int .i64 (r : Int), .int .i64 (c : Int), .slice A l.length cap] ∧ LRow wr base (.slice A3 (srtG c l).length c3) (srtG c l) ∧ Below w.heap.size w wr) (fun _ _ j _ => (srtG c l).length - (intOf j).toNat)
    case atStart => exact ⟨0, rfl, Nat.zero_le _, rfl, rfl, X0, hL, hb⟩
    case round =>
      clear X0 hL hb
      obtain ⟨k, rfl, hk, rfl, rfl, X0, hL, hb⟩ := hrel
      by_cases hlt : k < (srtG c l).length
      · obtain ⟨go, cap0, A4, c4, e4, hh, ho4, hb4, hgo⟩ := hL.at_ hlt
        have eA : A3 = some ⟨go, 0, none⟩ := by injection e4
        subst eA
        clear e4
        have hqn := HCell.out k hlt
        have hqx := HLt.out k hlt
        have hs := hb.size
        have X0k0 : wr.cell? ⟨w.heap.size, 0, none⟩ = some (.int .i64 (r : Int)) := (X0.cell 0).trans rfl; have X0k1 : wr.cell? ⟨w.heap.size, 1, none⟩ = some (.int .i64 (c : Int)) := (X0.cell 1).trans rfl; have X0k2 : wr.cell? ⟨w.heap.size, 2, none⟩ = some (.slice A l.length cap) := (X0.cell 2).trans rfl
        go_wp2_with fail
        refine (impl_gearsAmongN (r : Int) (c : Int) _ cap l A4 c4 (srtG c l)[k] _ ((hr.below hb).mono hs) (by omega) hqx ho4.rd).mono ?_
        rintro e w4 ⟨A6, c6, rfl, o6, n6, b4⟩
        clear X0k0 X0k1 X0k2
        replace X0 := X0.below b4 X0.lt
        replace hL := hL.keep b4
        replace hb := hb.trans (b4.mono hs)
        clear b4 hh ho4 hb4 hgo n6 hs o6 hqx
        rewrite [HT.out k hlt]
        have ht := hle k
        have hm := (lgT_le hle k)
        have HY := Lib.hid (lgT_yes (t := gct (c : Int) l) (k := k))
        have HN := Lib.hid (lgT_no (t := gct (c : Int) l) (k := k))
        generalize gct (c : Int) l k = tk at *
        by_cases hbig : (lgT (gct (c : Int) l) k).2 < tk
        · have HE := Lib.hid (HY.out hbig)
          have hbig' : ((lgT (gct (c : Int) l) k).2 : Int) < (tk : Int) := by omega
          clear HY HN hbig
          go_wp2
          go_roundw
          case rel => exact ⟨k + 1, by go_num, by omega, by rw [HE.out], by rw [HE.out], X0, hL, hb⟩
          case measure => simp [intOf]; omega
        · have HE := Lib.hid (HN.out hbig)
          have hbig' : ¬ ((lgT (gct (c : Int) l) k).2 : Int) < (tk : Int) := by omega
          clear HY HN hbig
          go_wp2
          go_roundw
          case rel => exact ⟨k + 1, by go_num, by omega, by rw [HE.out], by rw [HE.out], X0, hL, hb⟩
          case measure => simp [intOf]; omega
      · obtain rfl : k = (srtG c l).length := by omega
        go_wp2
        go_returns
        exact ⟨ret_eq (by simp), hb⟩
  · rw [show lgA R C l = 0 by unfold lgA; rw [hg]; rfl, show lgM R C l = 0 by unfold lgM; rw [hg]; rfl, show okL R C l = false by unfold okL; rw [hg, Bool.false_and]]
    have HG := Lib.hid hg
    clear hg
    go_enter Try.func42, Try.ntmps42
    go_wp2_with fail
    refine (impl_IsBoard _ _ _ _ l _ hn ((hr.below (by (repeat' (first | (with_reducible exact Below.refl _ _) | (with_reducible assumption) | (with_reducible refine Below.alloc ?_ ?_ _) | (with_reducible refine Below.setCell ?_ ?_ _) | (with_reducible refine Below.drew ?_) | (with_reducible refine below_drewN ?_ _) | (with_reducible refine Below.trans ?_ (Below.mono (by assumption) ?_)) | (with_reducible exact Nat.le_refl _) | (simp; done) | omega | (simp at *; omega))) : Below w.heap.size w _)).mono (by go_size))).mono ?_; rintro e w1 ⟨rfl, b1⟩
    rewrite [HG.out]
    go_wp2
    go_returns
    exact ⟨rfl, by (repeat' (first | (with_reducible exact Below.refl _ _) | (with_reducible assumption) | (with_reducible refine Below.alloc ?_ ?_ _) | (with_reducible refine Below.setCell ?_ ?_ _) | (with_reducible refine Below.drew ?_) | (with_reducible refine below_drewN ?_ _) | (with_reducible refine Below.trans ?_ (Below.mono (by assumption) ?_)) | (with_reducible exact Nat.le_refl _) | (simp; done) | omega | (simp at *; omega)))⟩
end Go.Proofs.Ytgecihedocifjaa
