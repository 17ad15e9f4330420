/- TurnGear, the program's, at a gear. -/
import Derived.Test.YtkgbbondafcjpaaTurnI
namespace Go.Proofs.Ytkgbbondafcjpaa
open Go.ChangeShapes Go.WideShapes Go.ChangeAt Go.RowKit Go.Joins Go.Deep
set_option linter.unusedSimpArgs false
set_option linter.unusedVariables false
set_option maxRecDepth 100000
set_option maxHeartbeats 8000000
theorem impl_TurnGear_yes (R C : Int) (A : Option Addr) (cap : Nat) (l : List (Int × Int)) (i j : Int) (w : World) (hk : okT R C l i j = true) (hn : l.length ≤ 1048576) (hr : Rd w w.heap.size A (flat l)) : Calls Try.prog 28 #[.agg #[.int .i64 R, .int .i64 C, .slice A l.length cap], .int .i64 i, .int .i64 j] w (PostB w R C (tnS l (isIn C l (nmb C l (atI C i j)))) true) := by
  have hh := okT_join hk
  have HH := Lib.hid hh
  obtain ⟨hg, hi, hJ⟩ := okJ_parts hh
  obtain ⟨-, -, hkl, h90⟩ := at_bound hg hi
  obtain ⟨r, c, rfl, rfl, hGeo⟩ := geo_of hg
  obtain ⟨b, o, rfl, hbl, hc⟩ := hr (by rw [flat_length]; omega)
  have hr' : Rd w w.heap.size (some ⟨b, o, none⟩) (flat l) := fun _ => ⟨b, o, rfl, hbl, hc⟩
  have hk6 : l[atI (c : Int) i j].1 = 6 := by
    unfold okT gearK at hk
    rw [Bool.and_eq_true, decide_eq_true_eq, List.getD_eq_getElem?_getD, List.getElem?_eq_getElem hkl] at hk
    exact hk.2
  have HGood := Lib.hid (fun k (hk : k < l.length) => (goodB_iff.1 hg).2.2 _ (List.getElem_mem hk))
  have HJ := Lib.hid hJ
  rw [← inTake_all]
  clear hh hg hi hk hr hJ
  go_enter Try.func28, Try.ntmps28
  obtain ⟨v0, hv0, X0, X1, B0, hz0⟩ := two_boxes w [.int .i64 (r : Int), .int .i64 (c : Int), .slice (some ⟨b, o, none⟩) l.length cap] 31 [.int .i64 0, .int .i64 0, .slice none 0 0] 31; have HV := Lib.hid hv0; have hz : w.heap.size + 1 < v0.heap.size := (by omega); have hy : w.heap.size < v0.heap.size := (by omega); have hb0 := B0.size; clear hv0 hz0; go_wp2_with fail; rewrite [show (w.alloc (.cells ([.int .i64 (r : Int), .int .i64 (c : Int), .slice (some ⟨b, o, none⟩) l.length cap] : List Value).toArray 31)).alloc (.cells ([.int .i64 0, .int .i64 0, .slice none 0 0] : List Value).toArray 31) = v0 from HV.out]; clear HV
  refine (impl_joiningIndex _ _ _ _ l _ _ _ hn ((hr'.below B0).mono B0.size)).mono ?_; rintro e w1 ⟨rfl, b1⟩
  rewrite [HH.out, show selI true (atI (c : Int) i j : Int) = (atI (c : Int) i j : Int) from rfl]
  replace X0 := X0.below b1 X0.lt; replace X1 := X1.below b1 X1.lt; replace B0 := B0.trans (b1.mono B0.size); have hy := X0.lt; have hz := X1.lt; have hb0 := B0.size; clear b1
  obtain ⟨hc0, hc1⟩ := cell_at2 B0 hbl hc hkl
  rw [hk6] at hc0
  have X0k0 : w1.cell? ⟨w.heap.size, 0, none⟩ = some (.int .i64 (r : Int)) := (X0.cell 0).trans rfl; have X0k1 : w1.cell? ⟨w.heap.size, 1, none⟩ = some (.int .i64 (c : Int)) := (X0.cell 1).trans rfl; have X0k2 : w1.cell? ⟨w.heap.size, 2, none⟩ = some (.slice (some ⟨b, o, none⟩) l.length cap) := (X0.cell 2).trans rfl
  generalize atI (c : Int) i j = k0 at *
  clear hk6
  generalize l[k0].2 = st at *
  go_wp2_with fail
  refine (Clone_any b o cap l _ hn ((hr'.below B0).mono B0.size)).mono ?_
  rintro e w2 ⟨A5, c5, rfl, o5, n5, b2⟩
  clear hc0 hc1
  clear X0k0 X0k1 X0k2
  have n5' : ∀ a, A5 = some a → w.heap.size + 1 < a.block := fun a ha => Nat.lt_of_lt_of_le hz (n5 a ha)
  clear n5
  replace X0 := X0.below b2 X0.lt; replace X1 := X1.below b2 X1.lt; replace B0 := B0.trans (b2.mono B0.size); have hy := X0.lt; have hz := X1.lt; have hb0 := B0.size; clear b2
  have X0k0 : w2.cell? ⟨w.heap.size, 0, none⟩ = some (.int .i64 (r : Int)) := (X0.cell 0).trans rfl; have X0k1 : w2.cell? ⟨w.heap.size, 1, none⟩ = some (.int .i64 (c : Int)) := (X0.cell 1).trans rfl; have X0k2 : w2.cell? ⟨w.heap.size, 2, none⟩ = some (.slice (some ⟨b, o, none⟩) l.length cap) := (X0.cell 2).trans rfl
  go_upto_region 5 with (fail)
  have hyb : w.heap.size < w.heap.size + 1 := Nat.lt_succ_self _
  have hr2 := (hr'.below B0).mono B0.size
  have KS := Lib.hid (fun (w' : World) (h : Below w2.heap.size w2 w') => (⟨(h.cell (p := ⟨w.heap.size, 0, none⟩) hy).trans X0k0, (h.cell (p := ⟨w.heap.size, 1, none⟩) hy).trans X0k1, (h.cell (p := ⟨w.heap.size, 2, none⟩) hy).trans X0k2⟩ : w'.cell? ⟨w.heap.size, 0, none⟩ = some (.int .i64 (r : Int)) ∧ w'.cell? ⟨w.heap.size, 1, none⟩ = some (.int .i64 (c : Int)) ∧ w'.cell? ⟨w.heap.size, 2, none⟩ = some (.slice (some ⟨b, o, none⟩) l.length cap)))
  clear X0k0 X0k1 X0k2
  have hgl := grpL_len (c : Int) l k0
  go_region_held3 (fun w' => w'.cell? ⟨w.heap.size, 0, none⟩ = some (.int .i64 (r : Int)) ∧ w'.cell? ⟨w.heap.size, 1, none⟩ = some (.int .i64 (c : Int)) ∧ w'.cell? ⟨w.heap.size, 2, none⟩ = some (.slice (some ⟨b, o, none⟩) l.length cap))
    (first | exact KS.out _ (by (repeat' (first | (with_reducible exact Below.refl _ _) | (with_reducible assumption) | (with_reducible refine Below.alloc ?_ ?_ _) | (with_reducible refine Below.setCell ?_ ?_ _) | (with_reducible refine Below.drew ?_) | (with_reducible refine below_drewN ?_ _) | (with_reducible refine Below.trans ?_ (Below.mono (by assumption) ?_)) | go_size))) | fail)
    ((first
      | (go_at_call 55; (with_reducible refine (impl_groupWithN r c _ cap l k0 _ hGeo ?_ hkl HJ.out).mono ?_); (focus exact (hr2.below (by (repeat' (first | (with_reducible exact Below.refl _ _) | (with_reducible assumption) | (with_reducible refine Below.alloc ?_ ?_ _) | (with_reducible refine Below.setCell ?_ ?_ _) | (with_reducible refine Below.drew ?_) | (with_reducible refine below_drewN ?_ _) | (with_reducible refine Below.trans ?_ (Below.mono (by assumption) ?_)) | go_size)))).mono (by (repeat' (first | (with_reducible exact Below.refl _ _) | (with_reducible assumption) | (with_reducible refine Below.alloc ?_ ?_ _) | (with_reducible refine Below.setCell ?_ ?_ _) | (with_reducible refine Below.drew ?_) | (with_reducible refine below_drewN ?_ _) | (with_reducible refine Below.trans ?_ (Below.mono (by assumption) ?_)) | go_size)) : Below w2.heap.size w2 _).size); rintro e w3 ⟨A3, c3, rfl, o3, n3, b3⟩; have bb3 : Below w2.heap.size w2 w3 := (by (repeat' (first | (with_reducible exact Below.refl _ _) | (with_reducible assumption) | (with_reducible refine Below.alloc ?_ ?_ _) | (with_reducible refine Below.setCell ?_ ?_ _) | (with_reducible refine Below.drew ?_) | (with_reducible refine below_drewN ?_ _) | (with_reducible refine Below.trans ?_ (Below.mono (by assumption) ?_)) | go_size))); have s3 : w2.heap.size ≤ w3.heap.size := bb3.size)
      | (go_at_call 61; (with_reducible refine (impl_gearsAmongN (r : Int) (c : Int) _ cap l A3 c3 (grpL (c : Int) l k0) _ ?_ (by omega) (grpL_lt _ _ _) ?_).mono ?_); (focus exact (hr2.below (by (repeat' (first | (with_reducible exact Below.refl _ _) | (with_reducible assumption) | (with_reducible refine Below.alloc ?_ ?_ _) | (with_reducible refine Below.setCell ?_ ?_ _) | (with_reducible refine Below.drew ?_) | (with_reducible refine below_drewN ?_ _) | (with_reducible refine Below.trans ?_ (Below.mono (by assumption) ?_)) | go_size)))).mono (by (repeat' (first | (with_reducible exact Below.refl _ _) | (with_reducible assumption) | (with_reducible refine Below.alloc ?_ ?_ _) | (with_reducible refine Below.setCell ?_ ?_ _) | (with_reducible refine Below.drew ?_) | (with_reducible refine below_drewN ?_ _) | (with_reducible refine Below.trans ?_ (Below.mono (by assumption) ?_)) | go_size)) : Below w2.heap.size w2 _).size); (focus exact (o3.rd.below (by (repeat' (first | (with_reducible exact Below.refl _ _) | (with_reducible assumption) | (with_reducible refine Below.alloc ?_ ?_ _) | (with_reducible refine Below.setCell ?_ ?_ _) | (with_reducible refine Below.drew ?_) | (with_reducible refine below_drewN ?_ _) | (with_reducible refine Below.trans ?_ (Below.mono (by assumption) ?_)) | go_size)))).mono (by (repeat' (first | (with_reducible exact Below.refl _ _) | (with_reducible assumption) | (with_reducible refine Below.alloc ?_ ?_ _) | (with_reducible refine Below.setCell ?_ ?_ _) | (with_reducible refine Below.drew ?_) | (with_reducible refine below_drewN ?_ _) | (with_reducible refine Below.trans ?_ (Below.mono (by assumption) ?_)) | go_size)) : Below w3.heap.size w3 _).size); rintro e w4 ⟨A4, c4, rfl, o4, n4, b4⟩; have bb4 : Below w2.heap.size w2 w4 := (by (repeat' (first | (with_reducible exact Below.refl _ _) | (with_reducible assumption) | (with_reducible refine Below.alloc ?_ ?_ _) | (with_reducible refine Below.setCell ?_ ?_ _) | (with_reducible refine Below.drew ?_) | (with_reducible refine below_drewN ?_ _) | (with_reducible refine Below.trans ?_ (Below.mono (by assumption) ?_)) | go_size))))
      | fail))
  rewrite [show (grpL (c : Int) l k0).filter (gearK l) = gearsOf (c : Int) l k0 from rfl]
  rw [show (grpL (c : Int) l k0).filter (gearK l) = gearsOf (c : Int) l k0 from rfl] at o4
  have n4' : ∀ a, A4 = some a → w2.heap.size ≤ a.block := fun a ha => Nat.le_trans s3 (n4 a ha)
  clear KS b3 b4 n3 n4 o3 hyb s3 bb3
  have o5' := o5.keep bb4
  have h5lt : ∀ a, A5 = some a → a.block < w2.heap.size := fun a ha => o5.lt (by rw [flat_length]; omega) ha
  replace X0 := X0.below bb4 X0.lt; replace X1 := X1.below bb4 X1.lt; replace B0 := B0.trans (bb4.mono B0.size); have hy := X0.lt; have hz := X1.lt; have hb0 := B0.size; clear bb4
  obtain ⟨g5, rest5, rfl, X7⟩ := o5' (by rw [flat_length]; omega)
  have h5 := n5' _ rfl
  have h5' := h5lt _ rfl
  clear o5 o5' n5' h5lt
  rw [← inTake_zero (l := l) (gs := gearsOf (c : Int) l k0)] at X7
  have hgn := gearsOf_len (c : Int) l k0
  have HAt := Lib.hid (fun j => gearsOf_at (C := (c : Int)) (l := l) (k := k0) (j := j))
  have HSt := Lib.hid (fun j => inTake_step (l := l) (gs := gearsOf (c : Int) l k0) (j := j))
  generalize gearsOf (c : Int) l k0 = gs at *
  generalize w2.heap.size = base at *
  go_wp2_with fail
  go_loopw [41] (fun t wr => ∃ k : Nat, t = .int .i64 k ∧ k ≤ gs.length ∧ Whole wr w.heap.size 31 [.int .i64 (r : Int), .int .i64 (c : Int), .slice (some ⟨b, o, none⟩) l.length cap] ∧ Whole wr (w.heap.size + 1) 31 [.int .i64 0, .int .i64 0, .slice none 0 0] ∧ Whole wr g5 65 (flat (tnS l (inTake gs k)) ++ rest5) ∧ Own wr A4 3 (ints (nI gs)) ∧ Below w.heap.size w wr) (fun t _ => gs.length - (intOf t).toNat)
  case atStart => exact ⟨0, rfl, Nat.zero_le _, X0, X1, X7, o4, B0⟩
  case round =>
    clear X0 X1 X7 o4 B0 hy hz hb0
    obtain ⟨k, rfl, hk, X0, X1, X7, o4, hb⟩ := hrel
    by_cases hlt : k < gs.length
    · obtain ⟨hyl, hyg, hyn⟩ := HAt.out k hlt
      have hstep := HSt.out k hlt hyl
      obtain ⟨g4, rest4, rfl, X4⟩ := o4 (by rw [ints_length, nI_length]; omega)
      have h4 := n4' _ rfl
      have hck := row_num X4 hlt
      have hTl : gs[k] < (tnS l (inTake gs k)).length := by rw [tnS_len]; exact hyl
      have hget : l.getD gs[k] (0, 0) = l[gs[k]] := by rw [List.getD_eq_getElem?_getD, List.getElem?_eq_getElem hyl]; rfl
      have hT : (tnS l (inTake gs k))[gs[k]] = l[gs[k]] := by
        rw [tnS_at hTl, hget]
        have : inTake gs k gs[k] = false := by unfold inTake; simpa using hyn
        rw [this]
        rfl
      have h6 : l[gs[k]].1 = 6 := by unfold gearK at hyg; rw [hget] at hyg; simpa using hyg
      have hgood := HGood.out gs[k] hyl
      rw [hget, h6] at hstep
      have HSet := flat_set (tnS l (inTake gs k)) gs[k] 6 (1 - l[gs[k]].2) hTl rest5
      rw [hstep] at HSet
      have q0 : wr.cell? ⟨g5, gs[k] * 2, none⟩ = some (.int .i64 6) := by rw [X7.cell, List.getElem?_append_left (by rw [flat_length]; omega), (flat_at _ gs[k] hTl).1, hT, h6]
      have q1 : wr.cell? ⟨g5, gs[k] * 2 + 1, none⟩ = some (.int .i64 l[gs[k]].2) := by rw [X7.cell, List.getElem?_append_left (by rw [flat_length]; omega), (flat_at _ gs[k] hTl).2, hT]
      rw [h6] at hgood
      have hgt : (good 6 l[gs[k]].2 && turning 6) = true := by rw [hgood]; rfl
      have HSet' := Lib.hid HSet
      have hs := hb.size
      clear hTl hT hget h6 hstep hyg hyn HSet
      generalize l[gs[k]].2 = st' at *
      generalize gs[k] = y at *
      go_wp2_with fail
      refine (impl_TurnCell _ _ _).mono ?_; rintro e w5 ⟨rfl, b5⟩
      rewrite [hgt, show selI true (6 : Int) = 6 from rfl, show selI true (1 - st') = 1 - st' from rfl]
      have X0' := (X0.below b5 X0.lt).two_far (u := .int .i64 6) (u' := .int .i64 (1 - st')) (j := y * 2) (j' := y * 2 + 1) (show w.heap.size ≠ g5 by omega)
      have X1' := (X1.below b5 X1.lt).two_far (u := .int .i64 6) (u' := .int .i64 (1 - st')) (j := y * 2) (j' := y * 2 + 1) (show w.heap.size + 1 ≠ g5 by omega)
      have X4' := (X4.below b5 X4.lt).two_far (u := .int .i64 6) (u' := .int .i64 (1 - st')) (j := y * 2) (j' := y * 2 + 1) (show g4 ≠ g5 from fun e => by subst e; have h1 : base ≤ g4 := h4; have h2 : g4 < base := h5'; omega)
      have X75 := X7.below b5 X7.lt
      have X7' := (X75.set (y * 2) (.int .i64 6)).set (y * 2 + 1) (.int .i64 (1 - st'))
      rw [HSet'.out] at X7'
      have hq0 : w5.cell? ⟨g5, y * 2, none⟩ = some (.int .i64 6) := (b5.cell (p := ⟨g5, y * 2, none⟩) X7.lt).trans q0
      have hq1 : w5.cell? ⟨g5, y * 2 + 1, none⟩ = some (.int .i64 st') := (b5.cell (p := ⟨g5, y * 2 + 1, none⟩) X7.lt).trans q1
      have hf0 := X75.frozen (y * 2)
      have hf1 := X75.frozen (y * 2 + 1)
      have hb' := ((hb.trans (b5.mono hs)).setCell (p := ⟨g5, y * 2, none⟩) (by show w.heap.size ≤ g5; have h2 : w.heap.size + 1 < g5 := h5; omega) (.int .i64 6)).setCell (p := ⟨g5, y * 2 + 1, none⟩) (by show w.heap.size ≤ g5; have h2 : w.heap.size + 1 < g5 := h5; omega) (.int .i64 (1 - st'))
      clear q0 q1 X0 X1 X4 X7 X75 hb b5 hck
      go_wp2_with fail
      go_roundw
      case rel => exact ⟨k + 1, by go_num, by omega, X0', X1', X7', fun _ => ⟨g4, rest4, rfl, X4'⟩, hb'⟩
      case measure => simp [intOf]; omega
    · obtain rfl : k = gs.length := by omega
      have hl := tnS_len l (inTake gs gs.length)
      have X0k0 : wr.cell? ⟨w.heap.size, 0, none⟩ = some (.int .i64 (r : Int)) := (X0.cell 0).trans rfl; have X0k1 : wr.cell? ⟨w.heap.size, 1, none⟩ = some (.int .i64 (c : Int)) := (X0.cell 1).trans rfl; have X0k2 : wr.cell? ⟨w.heap.size, 2, none⟩ = some (.slice (some ⟨b, o, none⟩) l.length cap) := (X0.cell 2).trans rfl
      have X1k0 : wr.cell? ⟨w.heap.size + 1, 0, none⟩ = some (.int .i64 0) := (X1.cell 0).trans rfl; have X1k1 : wr.cell? ⟨w.heap.size + 1, 1, none⟩ = some (.int .i64 0) := (X1.cell 1).trans rfl; have X1k2 : wr.cell? ⟨w.heap.size + 1, 2, none⟩ = some (.slice none 0 0) := (X1.cell 2).trans rfl
      have X1f0 := X1.frozen 0; have X1f1 := X1.frozen 1; have X1f2 := X1.frozen 2
      have hap : ∀ a, some (⟨g5, 0, none⟩ : Addr) = some a → w.heap.size + 1 ≠ a.block := fun a ha => by cases ha; show w.heap.size + 1 ≠ g5; have h2 : w.heap.size + 1 < g5 := h5; omega
      have hnw : New w (some ⟨g5, 0, none⟩) := fun a ha => by cases ha; show w.heap.size ≤ g5; have h2 : w.heap.size + 1 < g5 := h5; omega
      have ho : Own wr (some ⟨g5, 0, none⟩) 65 (flat (tnS l (inTake gs gs.length))) := fun _ => ⟨g5, rest5, rfl, X7⟩
      go_wp2
      refine bodyPost_ret (v := .tuple #[.agg #[.int .i64 (r : Int), .int .i64 (c : Int), .slice (some ⟨g5, 0, none⟩) l.length c5], .bool true]) ?_ rfl ?_; (focus (simp [results, Try.results28, go_sem, *]; done))
      rw [← hl]
      exact PostB.mk (((ho.set_far _ _ hap).set_far _ _ hap).set_far _ _ hap) hnw (by (repeat' (first | (with_reducible exact Below.refl _ _) | (with_reducible assumption) | (with_reducible refine Below.alloc ?_ ?_ _) | (with_reducible refine Below.setCell ?_ ?_ _) | (with_reducible refine Below.drew ?_) | (with_reducible refine below_drewN ?_ _) | (with_reducible refine Below.trans ?_ (Below.mono (by assumption) ?_)) | (with_reducible exact Nat.le_refl _) | (simp; done) | omega | (simp at *; omega))))
end Go.Proofs.Ytkgbbondafcjpaa
