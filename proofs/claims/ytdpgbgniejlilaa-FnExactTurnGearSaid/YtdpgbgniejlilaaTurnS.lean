/- The model's turned group. -/
import Derived.Test.YtdpgbgniejlilaaAmong
namespace Go.Proofs.Ytdpgbgniejlilaa
open Go.ChangeShapes Go.WideShapes Go.ChangeAt Go.RowKit Go.Joins Go.Deep
set_option linter.unusedSimpArgs false
set_option linter.unusedVariables false
set_option maxRecDepth 100000
set_option maxHeartbeats 4000000
def isIn (C : Int) (l : List (Int × Int)) (gn : Int) (x : Nat) : Bool := decide (nmb C l x = gn) && gearK l x
def upTo (C : Int) (l : List (Int × Int)) (gn : Int) (k : Nat) (x : Nat) : Bool := decide (x < k) && isIn C l gn x
theorem upTo_zero {C : Int} {l : List (Int × Int)} {gn : Int} : tnS l (upTo C l gn 0) = l := by
  rw [show tnS l (upTo C l gn 0) = tnS l (fun _ => false) from tnS_congr fun x _ => by simp [upTo]]
  exact tnS_none
theorem upTo_yes {C : Int} {l : List (Int × Int)} {gn : Int} {k : Nat} (hk : k < l.length) (h : isIn C l gn k = true) : (tnS l (upTo C l gn k)).set k ((l.getD k (0, 0)).1, 1 - (l.getD k (0, 0)).2) = tnS l (upTo C l gn (k + 1)) := by
  refine tnS_set hk fun x _ => ?_
  unfold upTo
  by_cases e : x = k
  · subst e; simp [h]
  · have e1 : decide (x < k + 1) = decide (x < k) := by rw [decide_eq_decide]; omega
    have e2 : (x == k) = false := by simp [e]
    rw [e1, e2, Bool.or_false]
theorem upTo_no {C : Int} {l : List (Int × Int)} {gn : Int} {k : Nat} (h : isIn C l gn k = false) : tnS l (upTo C l gn (k + 1)) = tnS l (upTo C l gn k) := by
  refine tnS_congr fun x _ => ?_
  unfold upTo
  by_cases e : x = k
  · subst e; simp [h]
  · have e1 : decide (x < k + 1) = decide (x < k) := by rw [decide_eq_decide]; omega
    rw [e1]
theorem upTo_all {C : Int} {l : List (Int × Int)} {gn : Int} : tnS l (upTo C l gn l.length) = tnS l (isIn C l gn) :=
  tnS_congr fun x hx => by unfold upTo; rw [decide_eq_true hx, Bool.true_and]
theorem Whole.two_far {w : World} {g g' j j' : Nat} {t : TypeId} {xs : List Value} {u u' : Value} (h : Whole w g t xs) (hne : g ≠ g') : Whole ((w.setCell ⟨g', j, none⟩ u).setCell ⟨g', j', none⟩ u') g t xs :=
  (Below.heap_setCell (w.setCell ⟨g', j, none⟩ u) ⟨g', j', none⟩ u' g hne).trans ((Below.heap_setCell w ⟨g', j, none⟩ u g hne).trans h)
theorem spec_ggTurn (r c b o cap : Nat) (l : List (Int × Int)) (gn : Int) (w : World) (hG : Geo r c l.length) (hgd : goodB (r : Int) (c : Int) l = true) (hr : Rd w w.heap.size (some ⟨b, o, none⟩) (flat l)) :
    Calls Try.prog 33 #[.agg #[.int .i64 (r : Int), .int .i64 (c : Int), .slice (some ⟨b, o, none⟩) l.length cap], .int .i64 gn] w (PostD w (r : Int) (c : Int) (tnS l (isIn (c : Int) l gn))) := by
  have hpos := (goodB_parts hgd).2.2
  have n90 := hG.n90
  have HGood := Lib.hid (fun k (hk : k < l.length) => (goodB_iff.1 hgd).2.2 _ (List.getElem_mem hk))
  obtain ⟨b', o', e0, hbl, hc⟩ := hr (by rw [flat_length]; omega)
  cases e0
  clear hgd
  go_enter Try.func33, Try.ntmps33
  obtain ⟨v0, hv0, X0, X1, B0, hz0⟩ := two_boxes w [.int .i64 (r : Int), .int .i64 (c : Int), .slice (some ⟨b, o, none⟩) l.length cap] 30 [.int .i64 0, .int .i64 0, .slice none 0 0] 30; have HV := Lib.hid hv0; have hz : w.heap.size + 1 < v0.heap.size := (by omega); have hy : w.heap.size < v0.heap.size := (by omega); have hb0 := B0.size; clear hv0 hz0; go_wp2_with fail; rewrite [show (w.alloc (.cells ([.int .i64 (r : Int), .int .i64 (c : Int), .slice (some ⟨b, o, none⟩) l.length cap] : List Value).toArray 30)).alloc (.cells ([.int .i64 0, .int .i64 0, .slice none 0 0] : List Value).toArray 30) = v0 from HV.out]; clear HV
  refine (spec_boOwn _ _ b o cap l _ hpos (by omega) ((hr.below B0).mono B0.size)).mono ?_
  rintro e w1 ⟨A5, c5, rfl, o5, n5, b1⟩
  have n5' : ∀ a, A5 = some a → w.heap.size + 1 < a.block := fun a ha => Nat.lt_of_lt_of_le hz (n5 a ha)
  clear n5
  replace X0 := X0.below b1 X0.lt; replace X1 := X1.below b1 X1.lt; replace B0 := B0.trans (b1.mono B0.size); have hy := X0.lt; have hz := X1.lt; have hb0 := B0.size; clear b1
  go_upto_region 2 with (fail)
  obtain ⟨w2, hw2⟩ : ∃ v, v = w1.alloc (.cells #[.int .i64 (r : Int), .int .i64 (c : Int), .slice A5 l.length c5] 30) := ⟨_, rfl⟩
  have X5 : Whole w2 w1.heap.size 30 [.int .i64 (r : Int), .int .i64 (c : Int), .slice A5 l.length c5] := by rw [hw2]; exact heap_alloc_new w1 _
  have b2 : Below w1.heap.size w1 w2 := by rw [hw2]; exact (Below.refl _ _).alloc (Nat.le_refl _) _
  rewrite [← hw2]
  clear hw2
  have hG5 : w.heap.size + 1 < w1.heap.size := hz
  have o5' := o5.keep b2
  clear o5
  replace X0 := X0.below b2 X0.lt; replace X1 := X1.below b2 X1.lt; replace B0 := B0.trans (b2.mono B0.size); have hy := X0.lt; have hz := X1.lt; have hb0 := B0.size; clear b2
  have X0k0 : w2.cell? ⟨w.heap.size, 0, none⟩ = some (.int .i64 (r : Int)) := (X0.cell 0).trans rfl; have X0k1 : w2.cell? ⟨w.heap.size, 1, none⟩ = some (.int .i64 (c : Int)) := (X0.cell 1).trans rfl; have X0k2 : w2.cell? ⟨w.heap.size, 2, none⟩ = some (.slice (some ⟨b, o, none⟩) l.length cap) := (X0.cell 2).trans rfl
  have hr2 : Rd w w.heap.size (some ⟨b, o, none⟩) (flat l) := fun _ => ⟨b, o, rfl, hbl, hc⟩
  go_wp2_with fail
  refine (spec_ggGroups r c _ cap l _ hG ((hr2.below B0).mono B0.size)).mono ?_
  rintro e w3 hP
  obtain ⟨A6, c6, rfl, o6, n6, b3⟩ := hP.value
  clear hP
  clear X0k0 X0k1 X0k2
  have n6' : ∀ a, A6 = some a → w.heap.size + 1 < a.block := fun a ha => Nat.lt_of_lt_of_le hz (n6 a ha)
  have hG5' : w1.heap.size < w2.heap.size := X5.lt
  have X5' := X5.below b3 X5.lt
  have o5 := o5'.keep b3
  clear n6 X5 o5'
  replace X0 := X0.below b3 X0.lt; replace X1 := X1.below b3 X1.lt; replace B0 := B0.trans (b3.mono B0.size); have hy := X0.lt; have hz := X1.lt; have hb0 := B0.size; clear b3
  obtain ⟨g5, rest5, rfl, X7⟩ := o5 (by rw [flat_length]; omega)
  obtain ⟨g6, rest6, rfl, X6⟩ := o6 (by rw [ints_length, numL_len]; exact hpos)
  have h5 := n5' _ rfl
  have h6 := n6' _ rfl
  clear o5 o6 n5' n6' hG5'
  rewrite [numL_len]
  rw [← upTo_zero (C := (c : Int)) (l := l) (gn := gn)] at X7
  generalize w1.heap.size = G5 at *
  have hne5 : g5 ≠ G5 := fun e => by
    subst e
    unfold Whole at X7 X5'
    rw [X7] at X5'
    injection X5' with X5'
    injection X5' with _ ht
    exact absurd ht (by decide)
  have hne6 : g5 ≠ g6 := fun e => by
    subst e
    unfold Whole at X7 X6
    rw [X7] at X6
    injection X6 with X6
    injection X6 with _ ht
    exact absurd ht (by decide)
  go_wp2_with fail
  go_loopw [13] (fun t wr => ∃ k : Nat, t = .int .i64 k ∧ k ≤ l.length ∧ Whole wr w.heap.size 30 [.int .i64 (r : Int), .int .i64 (c : Int), .slice (some ⟨b, o, none⟩) l.length cap] ∧ Whole wr (w.heap.size + 1) 30 [.int .i64 0, .int .i64 0, .slice none 0 0] ∧ Whole wr G5 30 [.int .i64 (r : Int), .int .i64 (c : Int), .slice (some ⟨g5, 0, none⟩) l.length c5] ∧ Whole wr g5 34 (flat (tnS l (upTo (c : Int) l gn k)) ++ rest5) ∧ Whole wr g6 3 (ints (numL c l) ++ rest6) ∧ Below w.heap.size w wr) (fun t _ => l.length - (intOf t).toNat)
  case atStart => exact ⟨0, rfl, Nat.zero_le _, X0, X1, X5', X7, X6, B0⟩
  case round =>
    clear X0 X1 X5' X7 X6 B0 hy hz hb0
    obtain ⟨k, rfl, hk, X0, X1, X5, X7, X6, hb⟩ := hrel
    by_cases hlt : k < l.length
    · obtain ⟨hc0, hc1⟩ := cell_at2 hb hbl hc hlt
      have hck : wr.cell? ⟨g6, k, none⟩ = some (.int .i64 (nmb (c : Int) l k)) := by rw [X6.cell k, List.getElem?_append_left (by rw [ints_length, numL_len]; exact hlt)]; exact numL_at hlt
      have hgood := HGood.out k hlt
      have hget : l.getD k (0, 0) = l[k] := by rw [List.getD_eq_getElem?_getD, List.getElem?_eq_getElem hlt]; rfl
      have HIn := Lib.hid (show isIn (c : Int) l gn k = (decide (nmb (c : Int) l k = gn) && decide (l[k].1 = 6)) by unfold isIn gearK; rw [hget])
      have HY := Lib.hid (upTo_yes (C := (c : Int)) (gn := gn) hlt)
      have HN := Lib.hid (upTo_no (C := (c : Int)) (l := l) (gn := gn) (k := k))
      rw [hget] at HY
      have HL := Lib.hid (tnS_len l (upTo (c : Int) l gn k))
      have hs := hb.size
      clear hget
      have X0k0 : wr.cell? ⟨w.heap.size, 0, none⟩ = some (.int .i64 (r : Int)) := (X0.cell 0).trans rfl; have X0k1 : wr.cell? ⟨w.heap.size, 1, none⟩ = some (.int .i64 (c : Int)) := (X0.cell 1).trans rfl; have X0k2 : wr.cell? ⟨w.heap.size, 2, none⟩ = some (.slice (some ⟨b, o, none⟩) l.length cap) := (X0.cell 2).trans rfl
      have X5k0 : wr.cell? ⟨G5, 0, none⟩ = some (.int .i64 (r : Int)) := (X5.cell 0).trans rfl; have X5k1 : wr.cell? ⟨G5, 1, none⟩ = some (.int .i64 (c : Int)) := (X5.cell 1).trans rfl; have X5k2 : wr.cell? ⟨G5, 2, none⟩ = some (.slice (some ⟨g5, 0, none⟩) l.length c5) := (X5.cell 2).trans rfl
      generalize l[k].1 = kd at *
      generalize l[k].2 = st at *
      by_cases hnm : nmb (c : Int) l k = gn
      · by_cases h66 : kd = 6
        · subst h66
          have HE := Lib.hid (HY.out (by rw [HIn.out, decide_eq_true hnm]; rfl))
          rw [hnm] at hck
          clear HY HN HIn hnm
          go_upto_region 6 with (fail)
          have hTl : k < (tnS l (upTo (c : Int) l gn k)).length := by rw [HL.out]; exact hlt
          have HSet := Lib.hid (flat_set (tnS l (upTo (c : Int) l gn k)) k 6 (1 - st) hTl rest5)
          have q0 : (flat (tnS l (upTo (c : Int) l gn k)) ++ rest5)[k * 2]? = some (.int .i64 (tnS l (upTo (c : Int) l gn k))[k].1) := by rw [List.getElem?_append_left (by rw [flat_length]; omega)]; exact (flat_at _ k hTl).1
          have q1 : (flat (tnS l (upTo (c : Int) l gn k)) ++ rest5)[k * 2 + 1]? = some (.int .i64 (tnS l (upTo (c : Int) l gn k))[k].2) := by rw [List.getElem?_append_left (by rw [flat_length]; omega)]; exact (flat_at _ k hTl).2
          generalize (tnS l (upTo (c : Int) l gn k))[k].1 = u0 at *
          generalize (tnS l (upTo (c : Int) l gn k))[k].2 = u1 at *
          have Q0 := Lib.hid q0
          have Q1 := Lib.hid q1
          clear q0 q1
          have hz0 := X0.lt
          have hz5 := X5.lt
          have hbl' : b < wr.heap.size := Nat.lt_of_lt_of_le hbl hs
          have KS := Lib.hid (fun (w' : World) (h : Below wr.heap.size wr w') => (⟨(h.cell (p := ⟨G5, 2, none⟩) hz5).trans X5k2, (h.cell (p := ⟨w.heap.size, 2, none⟩) hz0).trans X0k2, (h.cell (p := ⟨b, o + k * 2, none⟩) hbl').trans hc0, (h.cell (p := ⟨b, o + k * 2 + 1, none⟩) hbl').trans hc1⟩ : w'.cell? ⟨G5, 2, none⟩ = some (.slice (some ⟨g5, 0, none⟩) l.length c5) ∧ w'.cell? ⟨w.heap.size, 2, none⟩ = some (.slice (some ⟨b, o, none⟩) l.length cap) ∧ w'.cell? ⟨b, o + k * 2, none⟩ = some (.int .i64 6) ∧ w'.cell? ⟨b, o + k * 2 + 1, none⟩ = some (.int .i64 st)))
          have KS2 := Lib.hid (fun (w' : World) (u u' : Value) (h : Below wr.heap.size wr w') => (⟨(cell_two_far (j := k * 2) (j' := k * 2 + 1) (u := u) (u' := u') (show G5 ≠ g5 from fun e => hne5 e.symm)).trans (KS.out w' h).1, (cell_two_far (j := k * 2) (j' := k * 2 + 1) (u := u) (u' := u') (show w.heap.size ≠ g5 by omega)).trans (KS.out w' h).2.1, (cell_two_far (j := k * 2) (j' := k * 2 + 1) (u := u) (u' := u') (show b ≠ g5 by omega)).trans (KS.out w' h).2.2.1, (cell_two_far (j := k * 2) (j' := k * 2 + 1) (u := u) (u' := u') (show b ≠ g5 by omega)).trans (KS.out w' h).2.2.2⟩ : ((w'.setCell ⟨g5, k * 2, none⟩ u).setCell ⟨g5, k * 2 + 1, none⟩ u').cell? ⟨G5, 2, none⟩ = some (.slice (some ⟨g5, 0, none⟩) l.length c5) ∧ ((w'.setCell ⟨g5, k * 2, none⟩ u).setCell ⟨g5, k * 2 + 1, none⟩ u').cell? ⟨w.heap.size, 2, none⟩ = some (.slice (some ⟨b, o, none⟩) l.length cap) ∧ ((w'.setCell ⟨g5, k * 2, none⟩ u).setCell ⟨g5, k * 2 + 1, none⟩ u').cell? ⟨b, o + k * 2, none⟩ = some (.int .i64 6) ∧ ((w'.setCell ⟨g5, k * 2, none⟩ u).setCell ⟨g5, k * 2 + 1, none⟩ u').cell? ⟨b, o + k * 2 + 1, none⟩ = some (.int .i64 st)))
          clear X0k0 X0k1 X0k2 X5k0 X5k1 X5k2 hc0 hc1
          go_region_held3 (fun w' => w'.cell? ⟨G5, 2, none⟩ = some (.slice (some ⟨g5, 0, none⟩) l.length c5) ∧ w'.cell? ⟨w.heap.size, 2, none⟩ = some (.slice (some ⟨b, o, none⟩) l.length cap) ∧ w'.cell? ⟨b, o + k * 2, none⟩ = some (.int .i64 6) ∧ w'.cell? ⟨b, o + k * 2 + 1, none⟩ = some (.int .i64 st))
            (first | exact KS2.out w5 _ _ bb5 | exact KS.out _ (by (repeat' (first | (with_reducible exact Below.refl _ _) | (with_reducible assumption) | (with_reducible refine Below.alloc ?_ ?_ _) | (with_reducible refine Below.setCell ?_ ?_ _) | (with_reducible refine Below.drew ?_) | (with_reducible refine below_drewN ?_ _) | (with_reducible refine Below.trans ?_ (Below.mono (by assumption) ?_)) | go_size))) | fail)
            ((first | (go_at_call 50; (with_reducible refine (spec_paTurn 6 st hgood _).mono ?_); rintro e w5 ⟨rfl, b5⟩; have bb5 : Below wr.heap.size wr w5 := (by (repeat' (first | (with_reducible exact Below.refl _ _) | (with_reducible assumption) | (with_reducible refine Below.alloc ?_ ?_ _) | (with_reducible refine Below.setCell ?_ ?_ _) | (with_reducible refine Below.drew ?_) | (with_reducible refine below_drewN ?_ _) | (with_reducible refine Below.trans ?_ (Below.mono (by assumption) ?_)) | go_size))); have X75 := X7.below bb5 X7.lt; have hq0 := (X75.cell (k * 2)).trans Q0.out; have hq1 := (X75.cell (k * 2 + 1)).trans Q1.out; have hf0 := X75.frozen (k * 2); have hf1 := X75.frozen (k * 2 + 1)) | fail))
          have X0' := (X0.below bb5 X0.lt).two_far (u := .int .i64 6) (u' := .int .i64 (1 - st)) (j := k * 2) (j' := k * 2 + 1) (show w.heap.size ≠ g5 by omega)
          have X1' := (X1.below bb5 X1.lt).two_far (u := .int .i64 6) (u' := .int .i64 (1 - st)) (j := k * 2) (j' := k * 2 + 1) (show w.heap.size + 1 ≠ g5 by omega)
          have X5' := (X5.below bb5 X5.lt).two_far (u := .int .i64 6) (u' := .int .i64 (1 - st)) (j := k * 2) (j' := k * 2 + 1) (show G5 ≠ g5 from fun e => hne5 e.symm)
          have X6' := (X6.below bb5 X6.lt).two_far (u := .int .i64 6) (u' := .int .i64 (1 - st)) (j := k * 2) (j' := k * 2 + 1) (show g6 ≠ g5 from fun e => hne6 e.symm)
          have X7' := (X75.set (k * 2) (.int .i64 6)).set (k * 2 + 1) (.int .i64 (1 - st))
          rw [HSet.out, HE.out] at X7'
          have hb' := ((hb.trans (bb5.mono hs)).setCell (p := ⟨g5, k * 2, none⟩) (by show w.heap.size ≤ g5; omega) (.int .i64 6)).setCell (p := ⟨g5, k * 2 + 1, none⟩) (by show w.heap.size ≤ g5; omega) (.int .i64 (1 - st))
          clear KS KS2 X0 X1 X5 X6 X7 X75 hb hq0 hq1 hf0 hf1 bb5 b5
          go_wp2
          go_roundw
          case rel => exact ⟨k + 1, by go_num, by omega, X0', X1', X5', X7', X6', hb'⟩
          case measure => simp [intOf]; omega
        · have HE := Lib.hid (HN.out (by rw [HIn.out, decide_eq_false h66, Bool.and_false]))
          rw [hnm] at hck
          clear HY HN HIn hnm
          go_wp2_with fail
          go_roundw
          case rel => exact ⟨k + 1, by go_num, by omega, X0, X1, X5, by rw [HE.out]; exact X7, X6, hb⟩
          case measure => simp [intOf]; omega
      · have HE := Lib.hid (HN.out (by rw [HIn.out, decide_eq_false hnm, Bool.false_and]))
        clear HY HN HIn
        generalize nmb (c : Int) l k = nk at *
        go_wp2_with fail
        go_roundw
        case rel => exact ⟨k + 1, by go_num, by omega, X0, X1, X5, by rw [HE.out]; exact X7, X6, hb⟩
        case measure => simp [intOf]; omega
    · obtain rfl : k = l.length := by omega
      rw [upTo_all] at X7
      have hl := tnS_len l (isIn (c : Int) l gn)
      have X5k0 : wr.cell? ⟨G5, 0, none⟩ = some (.int .i64 (r : Int)) := (X5.cell 0).trans rfl; have X5k1 : wr.cell? ⟨G5, 1, none⟩ = some (.int .i64 (c : Int)) := (X5.cell 1).trans rfl; have X5k2 : wr.cell? ⟨G5, 2, none⟩ = some (.slice (some ⟨g5, 0, none⟩) l.length c5) := (X5.cell 2).trans rfl
      have X1k0 : wr.cell? ⟨w.heap.size + 1, 0, none⟩ = some (.int .i64 0) := (X1.cell 0).trans rfl; have X1k1 : wr.cell? ⟨w.heap.size + 1, 1, none⟩ = some (.int .i64 0) := (X1.cell 1).trans rfl; have X1k2 : wr.cell? ⟨w.heap.size + 1, 2, none⟩ = some (.slice none 0 0) := (X1.cell 2).trans rfl
      have X1f0 := X1.frozen 0; have X1f1 := X1.frozen 1; have X1f2 := X1.frozen 2
      go_wp2
      refine bodyPost_ret (v := .agg #[.int .i64 (r : Int), .int .i64 (c : Int), .slice (some ⟨g5, 0, none⟩) l.length c5]) ?_ rfl ?_; (focus (simp [results, Try.results33, go_sem, *]; done))
      have ho : Own wr (some ⟨g5, 0, none⟩) 34 (flat (tnS l (isIn (c : Int) l gn))) := fun _ => ⟨g5, rest5, rfl, X7⟩
      have hap : ∀ a, some (⟨g5, 0, none⟩ : Addr) = some a → w.heap.size + 1 ≠ a.block := fun a ha => by cases ha; show w.heap.size + 1 ≠ g5; omega
      have hnw : New w (some ⟨g5, 0, none⟩) := fun a ha => by cases ha; show w.heap.size ≤ g5; omega
      rw [← hl]
      exact PostD.mk (((ho.set_far _ _ hap).set_far _ _ hap).set_far _ _ hap) hnw (by (repeat' (first | (with_reducible exact Below.refl _ _) | (with_reducible assumption) | (with_reducible refine Below.alloc ?_ ?_ _) | (with_reducible refine Below.setCell ?_ ?_ _) | (with_reducible refine Below.drew ?_) | (with_reducible refine below_drewN ?_ _) | (with_reducible refine Below.trans ?_ (Below.mono (by assumption) ?_)) | (with_reducible exact Nat.le_refl _) | (simp; done) | omega | (simp at *; omega))))
end Go.Proofs.Ytdpgbgniejlilaa
