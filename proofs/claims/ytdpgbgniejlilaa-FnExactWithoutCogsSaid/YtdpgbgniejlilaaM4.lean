/- Contracts of the program and of the model, walked, part 4 of 5. No condition but what each says. -/
import Derived.Test.YtdpgbgniejlilaaM3
import Derived.Test.YtdpgbgniejlilaaM1
import Derived.Deep.RegionHeld3
import Derived.Deep.DeepCutAuto
import Derived.Deep.RegionLaw
import Derived.Test.YtdpgbgniejlilaaM2
namespace Go.Proofs.Ytdpgbgniejlilaa
open Go.ChangeShapes Go.WideShapes Go.ChangeAt Go.RowKit Go.Joins Go.Deep
set_option linter.unusedSimpArgs false
set_option linter.unusedVariables false
set_option maxRecDepth 100000
set_option maxHeartbeats 2000000
def gearK (l : List (Int × Int)) (x : Nat) : Bool := decide ((l.getD x (0, 0)).1 = 6)
theorem among_yes {l : List (Int × Int)} {q : List Nat} {k : Nat} (h : k < q.length) (hg : gearK l q[k] = true) : (q.take (k + 1)).filter (gearK l) = (q.take k).filter (gearK l) ++ [q[k]] := by
  rw [List.take_succ_eq_append_getElem h, List.filter_append]
  simp [hg]
theorem among_no {l : List (Int × Int)} {q : List Nat} {k : Nat} (h : k < q.length) (hg : gearK l q[k] = false) : (q.take (k + 1)).filter (gearK l) = (q.take k).filter (gearK l) := by
  rw [List.take_succ_eq_append_getElem h, List.filter_append]
  simp [hg]
theorem among_len (l : List (Int × Int)) (q : List Nat) (k : Nat) : ((q.take k).filter (gearK l)).length ≤ q.length := by
  have h1 := List.length_filter_le (gearK l) (q.take k)
  rw [List.length_take] at h1
  omega
theorem impl_gearsAmong (R C : Int) (A : Option Addr) (cap : Nat) (l : List (Int × Int)) (A1 : Option Addr) (cap1 : Nat) (q : List Nat) (w : World) (hr : Rd w w.heap.size A (flat l)) (hq : q.length ≤ 1048576) (hx : ∀ x ∈ q, x < l.length) (h1 : Rd w w.heap.size A1 (ints (nI q))) :
    Calls Try.prog 42 #[.agg #[.int .i64 R, .int .i64 C, .slice A l.length cap], .slice A1 q.length cap1] w (PostI w (nI (q.filter (gearK l)))) := by
  go_enter Try.func42, Try.ntmps42
  obtain ⟨v0, hv0⟩ : ∃ v, v = w.alloc (.cells #[.int .i64 R, .int .i64 C, .slice A l.length cap] 30) := ⟨_, rfl⟩
  have X0 : Whole v0 w.heap.size 30 [.int .i64 R, .int .i64 C, .slice A l.length cap] := by rw [hv0]; exact heap_alloc_new w _
  have hb : Below w.heap.size w v0 := by rw [hv0]; exact (Below.refl _ _).alloc (Nat.le_refl _) _
  have hs : w.heap.size + 1 ≤ v0.heap.size := X0.lt
  have HV := Lib.hid hv0.symm
  clear hv0
  go_upto_region 1 with (fail)
  rewrite [HV.out]
  clear HV
  go_wp2_with fail
  go_loopw [10, 5] (fun t v wr => ∃ k : Nat, t = .int .i64 k ∧ k ≤ q.length ∧ IRow wr (w.heap.size + 1) v (nI ((q.take k).filter (gearK l))) ∧ Whole wr w.heap.size 30 [.int .i64 R, .int .i64 C, .slice A l.length cap] ∧ Below w.heap.size w wr ∧ w.heap.size + 1 ≤ wr.heap.size) (fun t _ _ => q.length - (intOf t).toNat)
  case atStart => exact ⟨0, rfl, Nat.zero_le _, IRow.nil, X0, hb, hs⟩
  case round =>
    clear X0 hb hs
    obtain ⟨k, rfl, hk, hrow, X0, hb, hs⟩ := hrel
    by_cases hlt : k < q.length
    · obtain ⟨b1, o1, rfl, hbl1, hc1⟩ := h1 (by rw [ints_length, nI_length]; omega)
      have hck : wr.cell? ⟨b1, o1 + k, none⟩ = some (.int .i64 (q[k] : Int)) := (hb.cell (p := ⟨b1, o1 + k, none⟩) hbl1).trans (hc1 k _ (nI_at q k hlt))
      have hxl := hx _ (List.getElem_mem hlt)
      obtain ⟨b, o, rfl, hbl, hc⟩ := hr (by rw [flat_length]; omega)
      obtain ⟨hd0, hd1⟩ := cell_at2 hb hbl hc hxl
      have HY := Lib.hid (among_yes (l := l) hlt)
      have HN := Lib.hid (among_no (l := l) hlt)
      have hle := among_len l q k
      have hl5 : (nI ((q.take k).filter (gearK l))).length ≤ 1048576 := by rw [nI_length]; omega
      have hgk : gearK l q[k] = decide (l[q[k]].1 = 6) := by unfold gearK; rw [List.getD_eq_getElem?_getD, List.getElem?_eq_getElem hxl]; rfl
      have X0k0 : wr.cell? ⟨w.heap.size, 0, none⟩ = some (.int .i64 R) := (X0.cell 0).trans rfl; have X0k1 : wr.cell? ⟨w.heap.size, 1, none⟩ = some (.int .i64 C) := (X0.cell 1).trans rfl; have X0k2 : wr.cell? ⟨w.heap.size, 2, none⟩ = some (.slice (some ⟨b, o, none⟩) l.length cap) := (X0.cell 2).trans rfl
      clear hr hc hc1
      generalize l[q[k]].1 = kd at *
      generalize l[q[k]].2 = st at *
      generalize hyy : q[k] = y at *
      by_cases h6 : kd = 6
      · subst h6
        have HE := Lib.hid (HY.out (by rw [hgk]; rfl))
        clear HY HN hgk
        go_wp2_with (first | (at_builtin; refine wpList_push (x0 := (y : Int)) hrow hl5 hs rfl _ _ rfl rfl rfl ?_; intro v6 w6 hrow6 hg6 hb6 hl6; have hX6 := X0.below hb6 (Nat.lt_succ_self _); have hb7 := hb.trans (hb6.mono (Nat.le_succ _)); have hs6 := Nat.le_trans hs hb6.size) | fail)
        go_roundw
        case rel => exact ⟨k + 1, by go_num, by omega, by rw [HE.out, nI_append]; exact hrow6, hX6, hb7, hs6⟩
        case measure => simp [intOf]; omega
      · have HE := Lib.hid (HN.out (by rw [hgk]; exact decide_eq_false h6))
        clear HY HN hgk
        go_wp2_with fail
        go_roundw
        case rel => exact ⟨k + 1, by go_num, by omega, by rw [HE.out]; exact hrow, X0, hb, hs⟩
        case measure => simp [intOf]; omega
    · obtain rfl : k = q.length := by omega
      rw [List.take_length] at hrow
      go_wp2
      go_returns
      exact PostI.of_irow hrow (Nat.le_succ _) hb
def tnS (l : List (Int × Int)) (S : Nat → Bool) : List (Int × Int) := (List.range l.length).map fun x => if S x then ((l.getD x (0, 0)).1, 1 - (l.getD x (0, 0)).2) else l.getD x (0, 0)
theorem tnS_len (l : List (Int × Int)) (S : Nat → Bool) : (tnS l S).length = l.length := by simp [tnS]
theorem tnS_congr {l : List (Int × Int)} {S T : Nat → Bool} (h : ∀ x, x < l.length → S x = T x) : tnS l S = tnS l T := by
  unfold tnS
  exact List.map_congr_left fun x hx => by rw [h x (List.mem_range.1 hx)]
theorem tnS_at {l : List (Int × Int)} {S : Nat → Bool} {x : Nat} (h : x < (tnS l S).length) : (tnS l S)[x] = if S x then ((l.getD x (0, 0)).1, 1 - (l.getD x (0, 0)).2) else l.getD x (0, 0) := by
  simp [tnS]
theorem tnS_none {l : List (Int × Int)} : tnS l (fun _ => false) = l := by
  apply List.ext_getElem (tnS_len _ _)
  intro i h1 h2
  rw [tnS_at h1]
  simp only [Bool.false_eq_true, if_false]
  rw [List.getD_eq_getElem?_getD, List.getElem?_eq_getElem h2]
  rfl
theorem tnS_set {l : List (Int × Int)} {S T : Nat → Bool} {k : Nat} (hk : k < l.length) (hT : ∀ x, x < l.length → T x = (S x || x == k)) :
    (tnS l S).set k ((l.getD k (0, 0)).1, 1 - (l.getD k (0, 0)).2) = tnS l T := by
  apply List.ext_getElem (by rw [List.length_set, tnS_len, tnS_len])
  intro i h1 h2
  rw [List.getElem_set]
  have hi : i < l.length := by rw [tnS_len] at h2; exact h2
  by_cases e : k = i
  · subst e
    rw [if_pos rfl, tnS_at h2, hT k hk]
    simp
  · rw [if_neg e, tnS_at (by rw [tnS_len]; exact hi), tnS_at h2, hT i hi]
    have : (i == k) = false := by simp; omega
    rw [this, Bool.or_false]
theorem cell_two_far {w : World} {g j j' b o : Nat} {u u' : Value} (hne : b ≠ g) : ((w.setCell ⟨g, j, none⟩ u).setCell ⟨g, j', none⟩ u').cell? ⟨b, o, none⟩ = w.cell? ⟨b, o, none⟩ := by
  have h1 := Below.heap_setCell (w.setCell ⟨g, j, none⟩ u) ⟨g, j', none⟩ u' b hne
  have h2 := Below.heap_setCell w ⟨g, j, none⟩ u b hne
  simp only [World.cell?]
  rw [h1, h2]
end Go.Proofs.Ytdpgbgniejlilaa
namespace Go.Proofs.Ytdpgbgniejlilaa
open Go.ChangeShapes Go.WideShapes Go.ChangeAt Go.RowKit Go.Joins Go.Deep
set_option linter.unusedSimpArgs false
set_option linter.unusedVariables false
set_option maxRecDepth 100000
set_option maxHeartbeats 4000000
def isIn (C : Int) (l : List (Int × Int)) (gn : Int) (x : Nat) : Bool := decide (nmb C l x = gn) && gearK l x
def upTo (C : Int) (l : List (Int × Int)) (gn : Int) (k : Nat) (x : Nat) : Bool := decide (x < k) && isIn C l gn x
theorem upTo_zero {C : Int} {l : List (Int × Int)} {gn : Int} : tnS l (upTo C l gn 0) = l := by
  rw [show tnS l (upTo C l gn 0) = tnS l (fun _ => false) from tnS_congr fun x _ => by simp [upTo]]
  exact tnS_none
theorem upTo_yes {C : Int} {l : List (Int × Int)} {gn : Int} {k : Nat} (hk : k < l.length) (h : isIn C l gn k = true) : (tnS l (upTo C l gn k)).set k ((l.getD k (0, 0)).1, 1 - (l.getD k (0, 0)).2) = tnS l (upTo C l gn (k + 1)) := by
  refine tnS_set hk fun x _ => ?_
  unfold upTo
  by_cases e : x = k
  · subst e; simp [h]
  · have e1 : decide (x < k + 1) = decide (x < k) := by rw [decide_eq_decide]; omega
    have e2 : (x == k) = false := by simp [e]
    rw [e1, e2, Bool.or_false]
theorem upTo_no {C : Int} {l : List (Int × Int)} {gn : Int} {k : Nat} (h : isIn C l gn k = false) : tnS l (upTo C l gn (k + 1)) = tnS l (upTo C l gn k) := by
  refine tnS_congr fun x _ => ?_
  unfold upTo
  by_cases e : x = k
  · subst e; simp [h]
  · have e1 : decide (x < k + 1) = decide (x < k) := by rw [decide_eq_decide]; omega
    rw [e1]
theorem upTo_all {C : Int} {l : List (Int × Int)} {gn : Int} : tnS l (upTo C l gn l.length) = tnS l (isIn C l gn) :=
  tnS_congr fun x hx => by unfold upTo; rw [decide_eq_true hx, Bool.true_and]
theorem Whole.two_far {w : World} {g g' j j' : Nat} {t : TypeId} {xs : List Value} {u u' : Value} (h : Whole w g t xs) (hne : g ≠ g') : Whole ((w.setCell ⟨g', j, none⟩ u).setCell ⟨g', j', none⟩ u') g t xs :=
  (Below.heap_setCell (w.setCell ⟨g', j, none⟩ u) ⟨g', j', none⟩ u' g hne).trans ((Below.heap_setCell w ⟨g', j, none⟩ u g hne).trans h)
theorem spec_ggTurn (r c b o cap : Nat) (l : List (Int × Int)) (gn : Int) (w : World) (hG : Geo r c l.length) (hgd : goodB (r : Int) (c : Int) l = true) (hr : Rd w w.heap.size (some ⟨b, o, none⟩) (flat l)) :
    Calls Try.prog 33 #[.agg #[.int .i64 (r : Int), .int .i64 (c : Int), .slice (some ⟨b, o, none⟩) l.length cap], .int .i64 gn] w (PostD w (r : Int) (c : Int) (tnS l (isIn (c : Int) l gn))) := by
  have hpos := (goodB_parts hgd).2.2
  have n90 := hG.n90
  have HGood := Lib.hid (fun k (hk : k < l.length) => (goodB_iff.1 hgd).2.2 _ (List.getElem_mem hk))
  obtain ⟨b', o', e0, hbl, hc⟩ := hr (by rw [flat_length]; omega)
  cases e0
  clear hgd
  go_enter Try.func33, Try.ntmps33
  obtain ⟨v0, hv0, X0, X1, B0, hz0⟩ := two_boxes w [.int .i64 (r : Int), .int .i64 (c : Int), .slice (some ⟨b, o, none⟩) l.length cap] 30 [.int .i64 0, .int .i64 0, .slice none 0 0] 30; have HV := Lib.hid hv0; have hz : w.heap.size + 1 < v0.heap.size := (by omega); have hy : w.heap.size < v0.heap.size := (by omega); have hb0 := B0.size; clear hv0 hz0; go_wp2_with fail; rewrite [show (w.alloc (.cells ([.int .i64 (r : Int), .int .i64 (c : Int), .slice (some ⟨b, o, none⟩) l.length cap] : List Value).toArray 30)).alloc (.cells ([.int .i64 0, .int .i64 0, .slice none 0 0] : List Value).toArray 30) = v0 from HV.out]; clear HV
  refine (spec_boOwn _ _ b o cap l _ hpos (by omega) ((hr.below B0).mono B0.size)).mono ?_
  rintro e w1 ⟨A5, c5, rfl, o5, n5, b1⟩
  have n5' : ∀ a, A5 = some a → w.heap.size + 1 < a.block := fun a ha => Nat.lt_of_lt_of_le hz (n5 a ha)
  clear n5
  replace X0 := X0.below b1 X0.lt; replace X1 := X1.below b1 X1.lt; replace B0 := B0.trans (b1.mono B0.size); have hy := X0.lt; have hz := X1.lt; have hb0 := B0.size; clear b1
  go_upto_region 2 with (fail)
  obtain ⟨w2, hw2⟩ : ∃ v, v = w1.alloc (.cells #[.int .i64 (r : Int), .int .i64 (c : Int), .slice A5 l.length c5] 30) := ⟨_, rfl⟩
  have X5 : Whole w2 w1.heap.size 30 [.int .i64 (r : Int), .int .i64 (c : Int), .slice A5 l.length c5] := by rw [hw2]; exact heap_alloc_new w1 _
  have b2 : Below w1.heap.size w1 w2 := by rw [hw2]; exact (Below.refl _ _).alloc (Nat.le_refl _) _
  rewrite [← hw2]
  clear hw2
  have hG5 : w.heap.size + 1 < w1.heap.size := hz
  have o5' := o5.keep b2
  clear o5
  replace X0 := X0.below b2 X0.lt; replace X1 := X1.below b2 X1.lt; replace B0 := B0.trans (b2.mono B0.size); have hy := X0.lt; have hz := X1.lt; have hb0 := B0.size; clear b2
  have X0k0 : w2.cell? ⟨w.heap.size, 0, none⟩ = some (.int .i64 (r : Int)) := (X0.cell 0).trans rfl; have X0k1 : w2.cell? ⟨w.heap.size, 1, none⟩ = some (.int .i64 (c : Int)) := (X0.cell 1).trans rfl; have X0k2 : w2.cell? ⟨w.heap.size, 2, none⟩ = some (.slice (some ⟨b, o, none⟩) l.length cap) := (X0.cell 2).trans rfl
  have hr2 : Rd w w.heap.size (some ⟨b, o, none⟩) (flat l) := fun _ => ⟨b, o, rfl, hbl, hc⟩
  go_wp2_with fail
  refine (spec_ggGroups r c _ cap l _ hG ((hr2.below B0).mono B0.size)).mono ?_
  rintro e w3 hP
  obtain ⟨A6, c6, rfl, o6, n6, b3⟩ := hP.value
  clear hP
  clear X0k0 X0k1 X0k2
  have n6' : ∀ a, A6 = some a → w.heap.size + 1 < a.block := fun a ha => Nat.lt_of_lt_of_le hz (n6 a ha)
  have hG5' : w1.heap.size < w2.heap.size := X5.lt
  have X5' := X5.below b3 X5.lt
  have o5 := o5'.keep b3
  clear n6 X5 o5'
  replace X0 := X0.below b3 X0.lt; replace X1 := X1.below b3 X1.lt; replace B0 := B0.trans (b3.mono B0.size); have hy := X0.lt; have hz := X1.lt; have hb0 := B0.size; clear b3
  obtain ⟨g5, rest5, rfl, X7⟩ := o5 (by rw [flat_length]; omega)
  obtain ⟨g6, rest6, rfl, X6⟩ := o6 (by rw [ints_length, numL_len]; exact hpos)
  have h5 := n5' _ rfl
  have h6 := n6' _ rfl
  clear o5 o6 n5' n6' hG5'
  rewrite [numL_len]
  rw [← upTo_zero (C := (c : Int)) (l := l) (gn := gn)] at X7
  generalize w1.heap.size = G5 at *
  have hne5 : g5 ≠ G5 := fun e => by
    subst e
    unfold Whole at X7 X5'
    rw [X7] at X5'
    injection X5' with X5'
    injection X5' with _ ht
    exact absurd ht (by decide)
  have hne6 : g5 ≠ g6 := fun e => by
    subst e
    unfold Whole at X7 X6
    rw [X7] at X6
    injection X6 with X6
    injection X6 with _ ht
    exact absurd ht (by decide)
  go_wp2_with fail
  go_loopw [13] (fun t wr => ∃ k : Nat, t = .int .i64 k ∧ k ≤ l.length ∧ Whole wr w.heap.size 30 [.int .i64 (r : Int), .int .i64 (c : Int), .slice (some ⟨b, o, none⟩) l.length cap] ∧ Whole wr (w.heap.size + 1) 30 [.int .i64 0, .int .i64 0, .slice none 0 0] ∧ Whole wr G5 30 [.int .i64 (r : Int), .int .i64 (c : Int), .slice (some ⟨g5, 0, none⟩) l.length c5] ∧ Whole wr g5 34 (flat (tnS l (upTo (c : Int) l gn k)) ++ rest5) ∧ Whole wr g6 3 (ints (numL c l) ++ rest6) ∧ Below w.heap.size w wr) (fun t _ => l.length - (intOf t).toNat)
  case atStart => exact ⟨0, rfl, Nat.zero_le _, X0, X1, X5', X7, X6, B0⟩
  case round =>
    clear X0 X1 X5' X7 X6 B0 hy hz hb0
    obtain ⟨k, rfl, hk, X0, X1, X5, X7, X6, hb⟩ := hrel
    by_cases hlt : k < l.length
    · obtain ⟨hc0, hc1⟩ := cell_at2 hb hbl hc hlt
      have hck : wr.cell? ⟨g6, k, none⟩ = some (.int .i64 (nmb (c : Int) l k)) := by rw [X6.cell k, List.getElem?_append_left (by rw [ints_length, numL_len]; exact hlt)]; exact numL_at hlt
      have hgood := HGood.out k hlt
      have hget : l.getD k (0, 0) = l[k] := by rw [List.getD_eq_getElem?_getD, List.getElem?_eq_getElem hlt]; rfl
      have HIn := Lib.hid (show isIn (c : Int) l gn k = (decide (nmb (c : Int) l k = gn) && decide (l[k].1 = 6)) by unfold isIn gearK; rw [hget])
      have HY := Lib.hid (upTo_yes (C := (c : Int)) (gn := gn) hlt)
      have HN := Lib.hid (upTo_no (C := (c : Int)) (l := l) (gn := gn) (k := k))
      rw [hget] at HY
      have HL := Lib.hid (tnS_len l (upTo (c : Int) l gn k))
      have hs := hb.size
      clear hget
      have X0k0 : wr.cell? ⟨w.heap.size, 0, none⟩ = some (.int .i64 (r : Int)) := (X0.cell 0).trans rfl; have X0k1 : wr.cell? ⟨w.heap.size, 1, none⟩ = some (.int .i64 (c : Int)) := (X0.cell 1).trans rfl; have X0k2 : wr.cell? ⟨w.heap.size, 2, none⟩ = some (.slice (some ⟨b, o, none⟩) l.length cap) := (X0.cell 2).trans rfl
      have X5k0 : wr.cell? ⟨G5, 0, none⟩ = some (.int .i64 (r : Int)) := (X5.cell 0).trans rfl; have X5k1 : wr.cell? ⟨G5, 1, none⟩ = some (.int .i64 (c : Int)) := (X5.cell 1).trans rfl; have X5k2 : wr.cell? ⟨G5, 2, none⟩ = some (.slice (some ⟨g5, 0, none⟩) l.length c5) := (X5.cell 2).trans rfl
      generalize l[k].1 = kd at *
      generalize l[k].2 = st at *
      by_cases hnm : nmb (c : Int) l k = gn
      · by_cases h66 : kd = 6
        · subst h66
          have HE := Lib.hid (HY.out (by rw [HIn.out, decide_eq_true hnm]; rfl))
          rw [hnm] at hck
          clear HY HN HIn hnm
          go_upto_region 6 with (fail)
          have hTl : k < (tnS l (upTo (c : Int) l gn k)).length := by rw [HL.out]; exact hlt
          have HSet := Lib.hid (flat_set (tnS l (upTo (c : Int) l gn k)) k 6 (1 - st) hTl rest5)
          have q0 : (flat (tnS l (upTo (c : Int) l gn k)) ++ rest5)[k * 2]? = some (.int .i64 (tnS l (upTo (c : Int) l gn k))[k].1) := by rw [List.getElem?_append_left (by rw [flat_length]; omega)]; exact (flat_at _ k hTl).1
          have q1 : (flat (tnS l (upTo (c : Int) l gn k)) ++ rest5)[k * 2 + 1]? = some (.int .i64 (tnS l (upTo (c : Int) l gn k))[k].2) := by rw [List.getElem?_append_left (by rw [flat_length]; omega)]; exact (flat_at _ k hTl).2
          generalize (tnS l (upTo (c : Int) l gn k))[k].1 = u0 at *
          generalize (tnS l (upTo (c : Int) l gn k))[k].2 = u1 at *
          have Q0 := Lib.hid q0
          have Q1 := Lib.hid q1
          clear q0 q1
          have hz0 := X0.lt
          have hz5 := X5.lt
          have hbl' : b < wr.heap.size := Nat.lt_of_lt_of_le hbl hs
          have KS := Lib.hid (fun (w' : World) (h : Below wr.heap.size wr w') => (⟨(h.cell (p := ⟨G5, 2, none⟩) hz5).trans X5k2, (h.cell (p := ⟨w.heap.size, 2, none⟩) hz0).trans X0k2, (h.cell (p := ⟨b, o + k * 2, none⟩) hbl').trans hc0, (h.cell (p := ⟨b, o + k * 2 + 1, none⟩) hbl').trans hc1⟩ : w'.cell? ⟨G5, 2, none⟩ = some (.slice (some ⟨g5, 0, none⟩) l.length c5) ∧ w'.cell? ⟨w.heap.size, 2, none⟩ = some (.slice (some ⟨b, o, none⟩) l.length cap) ∧ w'.cell? ⟨b, o + k * 2, none⟩ = some (.int .i64 6) ∧ w'.cell? ⟨b, o + k * 2 + 1, none⟩ = some (.int .i64 st)))
          have KS2 := Lib.hid (fun (w' : World) (u u' : Value) (h : Below wr.heap.size wr w') => (⟨(cell_two_far (j := k * 2) (j' := k * 2 + 1) (u := u) (u' := u') (show G5 ≠ g5 from fun e => hne5 e.symm)).trans (KS.out w' h).1, (cell_two_far (j := k * 2) (j' := k * 2 + 1) (u := u) (u' := u') (show w.heap.size ≠ g5 by omega)).trans (KS.out w' h).2.1, (cell_two_far (j := k * 2) (j' := k * 2 + 1) (u := u) (u' := u') (show b ≠ g5 by omega)).trans (KS.out w' h).2.2.1, (cell_two_far (j := k * 2) (j' := k * 2 + 1) (u := u) (u' := u') (show b ≠ g5 by omega)).trans (KS.out w' h).2.2.2⟩ : ((w'.setCell ⟨g5, k * 2, none⟩ u).setCell ⟨g5, k * 2 + 1, none⟩ u').cell? ⟨G5, 2, none⟩ = some (.slice (some ⟨g5, 0, none⟩) l.length c5) ∧ ((w'.setCell ⟨g5, k * 2, none⟩ u).setCell ⟨g5, k * 2 + 1, none⟩ u').cell? ⟨w.heap.size, 2, none⟩ = some (.slice (some ⟨b, o, none⟩) l.length cap) ∧ ((w'.setCell ⟨g5, k * 2, none⟩ u).setCell ⟨g5, k * 2 + 1, none⟩ u').cell? ⟨b, o + k * 2, none⟩ = some (.int .i64 6) ∧ ((w'.setCell ⟨g5, k * 2, none⟩ u).setCell ⟨g5, k * 2 + 1, none⟩ u').cell? ⟨b, o + k * 2 + 1, none⟩ = some (.int .i64 st)))
          clear X0k0 X0k1 X0k2 X5k0 X5k1 X5k2 hc0 hc1
          go_region_held3 (fun w' => w'.cell? ⟨G5, 2, none⟩ = some (.slice (some ⟨g5, 0, none⟩) l.length c5) ∧ w'.cell? ⟨w.heap.size, 2, none⟩ = some (.slice (some ⟨b, o, none⟩) l.length cap) ∧ w'.cell? ⟨b, o + k * 2, none⟩ = some (.int .i64 6) ∧ w'.cell? ⟨b, o + k * 2 + 1, none⟩ = some (.int .i64 st))
            (first | exact KS2.out w5 _ _ bb5 | exact KS.out _ (by (repeat' (first | (with_reducible exact Below.refl _ _) | (with_reducible assumption) | (with_reducible refine Below.alloc ?_ ?_ _) | (with_reducible refine Below.setCell ?_ ?_ _) | (with_reducible refine Below.drew ?_) | (with_reducible refine below_drewN ?_ _) | (with_reducible refine Below.trans ?_ (Below.mono (by assumption) ?_)) | go_size))) | fail)
            ((first | (go_at_call 50; (with_reducible refine (spec_paTurn 6 st hgood _).mono ?_); rintro e w5 ⟨rfl, b5⟩; have bb5 : Below wr.heap.size wr w5 := (by (repeat' (first | (with_reducible exact Below.refl _ _) | (with_reducible assumption) | (with_reducible refine Below.alloc ?_ ?_ _) | (with_reducible refine Below.setCell ?_ ?_ _) | (with_reducible refine Below.drew ?_) | (with_reducible refine below_drewN ?_ _) | (with_reducible refine Below.trans ?_ (Below.mono (by assumption) ?_)) | go_size))); have X75 := X7.below bb5 X7.lt; have hq0 := (X75.cell (k * 2)).trans Q0.out; have hq1 := (X75.cell (k * 2 + 1)).trans Q1.out; have hf0 := X75.frozen (k * 2); have hf1 := X75.frozen (k * 2 + 1)) | fail))
          have X0' := (X0.below bb5 X0.lt).two_far (u := .int .i64 6) (u' := .int .i64 (1 - st)) (j := k * 2) (j' := k * 2 + 1) (show w.heap.size ≠ g5 by omega)
          have X1' := (X1.below bb5 X1.lt).two_far (u := .int .i64 6) (u' := .int .i64 (1 - st)) (j := k * 2) (j' := k * 2 + 1) (show w.heap.size + 1 ≠ g5 by omega)
          have X5' := (X5.below bb5 X5.lt).two_far (u := .int .i64 6) (u' := .int .i64 (1 - st)) (j := k * 2) (j' := k * 2 + 1) (show G5 ≠ g5 from fun e => hne5 e.symm)
          have X6' := (X6.below bb5 X6.lt).two_far (u := .int .i64 6) (u' := .int .i64 (1 - st)) (j := k * 2) (j' := k * 2 + 1) (show g6 ≠ g5 from fun e => hne6 e.symm)
          have X7' := (X75.set (k * 2) (.int .i64 6)).set (k * 2 + 1) (.int .i64 (1 - st))
          rw [HSet.out, HE.out] at X7'
          have hb' := ((hb.trans (bb5.mono hs)).setCell (p := ⟨g5, k * 2, none⟩) (by show w.heap.size ≤ g5; omega) (.int .i64 6)).setCell (p := ⟨g5, k * 2 + 1, none⟩) (by show w.heap.size ≤ g5; omega) (.int .i64 (1 - st))
          clear KS KS2 X0 X1 X5 X6 X7 X75 hb hq0 hq1 hf0 hf1 bb5 b5
          go_wp2
          go_roundw
          case rel => exact ⟨k + 1, by go_num, by omega, X0', X1', X5', X7', X6', hb'⟩
          case measure => simp [intOf]; omega
        · have HE := Lib.hid (HN.out (by rw [HIn.out, decide_eq_false h66, Bool.and_false]))
          rw [hnm] at hck
          clear HY HN HIn hnm
          go_wp2_with fail
          go_roundw
          case rel => exact ⟨k + 1, by go_num, by omega, X0, X1, X5, by rw [HE.out]; exact X7, X6, hb⟩
          case measure => simp [intOf]; omega
      · have HE := Lib.hid (HN.out (by rw [HIn.out, decide_eq_false hnm, Bool.false_and]))
        clear HY HN HIn
        generalize nmb (c : Int) l k = nk at *
        go_wp2_with fail
        go_roundw
        case rel => exact ⟨k + 1, by go_num, by omega, X0, X1, X5, by rw [HE.out]; exact X7, X6, hb⟩
        case measure => simp [intOf]; omega
    · obtain rfl : k = l.length := by omega
      rw [upTo_all] at X7
      have hl := tnS_len l (isIn (c : Int) l gn)
      have X5k0 : wr.cell? ⟨G5, 0, none⟩ = some (.int .i64 (r : Int)) := (X5.cell 0).trans rfl; have X5k1 : wr.cell? ⟨G5, 1, none⟩ = some (.int .i64 (c : Int)) := (X5.cell 1).trans rfl; have X5k2 : wr.cell? ⟨G5, 2, none⟩ = some (.slice (some ⟨g5, 0, none⟩) l.length c5) := (X5.cell 2).trans rfl
      have X1k0 : wr.cell? ⟨w.heap.size + 1, 0, none⟩ = some (.int .i64 0) := (X1.cell 0).trans rfl; have X1k1 : wr.cell? ⟨w.heap.size + 1, 1, none⟩ = some (.int .i64 0) := (X1.cell 1).trans rfl; have X1k2 : wr.cell? ⟨w.heap.size + 1, 2, none⟩ = some (.slice none 0 0) := (X1.cell 2).trans rfl
      have X1f0 := X1.frozen 0; have X1f1 := X1.frozen 1; have X1f2 := X1.frozen 2
      go_wp2
      refine bodyPost_ret (v := .agg #[.int .i64 (r : Int), .int .i64 (c : Int), .slice (some ⟨g5, 0, none⟩) l.length c5]) ?_ rfl ?_; (focus (simp [results, Try.results33, go_sem, *]; done))
      have ho : Own wr (some ⟨g5, 0, none⟩) 34 (flat (tnS l (isIn (c : Int) l gn))) := fun _ => ⟨g5, rest5, rfl, X7⟩
      have hap : ∀ a, some (⟨g5, 0, none⟩ : Addr) = some a → w.heap.size + 1 ≠ a.block := fun a ha => by cases ha; show w.heap.size + 1 ≠ g5; omega
      have hnw : New w (some ⟨g5, 0, none⟩) := fun a ha => by cases ha; show w.heap.size ≤ g5; omega
      rw [← hl]
      exact PostD.mk (((ho.set_far _ _ hap).set_far _ _ hap).set_far _ _ hap) hnw (by (repeat' (first | (with_reducible exact Below.refl _ _) | (with_reducible assumption) | (with_reducible refine Below.alloc ?_ ?_ _) | (with_reducible refine Below.setCell ?_ ?_ _) | (with_reducible refine Below.drew ?_) | (with_reducible refine below_drewN ?_ _) | (with_reducible refine Below.trans ?_ (Below.mono (by assumption) ?_)) | (with_reducible exact Nat.le_refl _) | (simp; done) | omega | (simp at *; omega))))
end Go.Proofs.Ytdpgbgniejlilaa
namespace Go.Proofs.Ytdpgbgniejlilaa
open Go.ChangeShapes Go.WideShapes Go.ChangeAt Go.RowKit Go.Joins Go.Deep
set_option linter.unusedSimpArgs false
set_option linter.unusedVariables false
set_option maxRecDepth 100000
set_option maxHeartbeats 4000000
theorem field_kind (a b : Value) (w : World) : (Instr.field 34 (.agg #[a, b]) 0).run Try.prog w = .ok a w := by kernel_rfl
theorem spec_ggGroupsN (r c : Nat) (A : Option Addr) (cap : Nat) (l : List (Int × Int)) (w : World) (hG : Geo r c l.length) (hr : Rd w w.heap.size A (flat l)) :
    Calls Try.prog 34 #[.agg #[.int .i64 (r : Int), .int .i64 (c : Int), .slice A l.length cap]] w fun e w' => ∃ A' cap', e = .returned (.slice A' l.length cap') ∧ Own w' A' 3 (ints (numL c l)) ∧ New w A' ∧ Below w.heap.size w w' :=
  (spec_ggGroups r c A cap l w hG hr).mono fun e w' h => by
    obtain ⟨A', cap', rfl, a, b, d⟩ := h
    exact ⟨A', cap', by rw [numL_len], a, b, d⟩
def okT (R C : Int) (l : List (Int × Int)) (i j : Int) : Bool := hasB R C l i j && gearK l (atI C i j)
def turnG (R C : Int) (l : List (Int × Int)) (i j : Int) : List (Int × Int) := if okT R C l i j then tnS l (isIn C l (nmb C l (atI C i j))) else []
theorem turnG_len (R C : Int) (l : List (Int × Int)) (i j : Int) (h : l.length ≤ 1048576) : (turnG R C l i j).length ≤ 1048576 := by
  unfold turnG
  split
  · rw [tnS_len]; exact h
  · simp
theorem turnG_post {w w' : World} {R C : Int} {l : List (Int × Int)} {i j : Int} {e : Ending} {ok : Bool} (h : okT R C l i j = ok) (hp : if ok then PostB w R C (tnS l (isIn C l (nmb C l (atI C i j)))) true e w' else PostB w 0 0 [] false e w') :
    PostB w (selI (okT R C l i j) R) (selI (okT R C l i j) C) (turnG R C l i j) (okT R C l i j) e w' := by
  unfold turnG
  rw [h]
  cases ok
  · exact hp
  · exact hp
theorem spec_TurnGear_has (R C : Int) (A : Option Addr) (cap : Nat) (l : List (Int × Int)) (i j : Int) (w : World) (hh : hasB R C l i j = false) (hn : l.length ≤ 1048576) (hr : Rd w w.heap.size A (flat l)) : Calls Try.prog 15 #[.agg #[.int .i64 R, .int .i64 C, .slice A l.length cap], .int .i64 i, .int .i64 j] w (PostB w 0 0 [] false) := by
  have HH := Lib.hid hh
  clear hh
  go_enter Try.func15, Try.ntmps15
  obtain ⟨v0, hv0, X0, X1, B0, hz0⟩ := two_boxes w [.int .i64 R, .int .i64 C, .slice A l.length cap] 30 [.int .i64 0, .int .i64 0, .slice none 0 0] 30; have HV := Lib.hid hv0; have hz : w.heap.size + 1 < v0.heap.size := (by omega); have hy : w.heap.size < v0.heap.size := (by omega); have hb0 := B0.size; clear hv0 hz0; go_wp2_with fail; rewrite [show (w.alloc (.cells ([.int .i64 R, .int .i64 C, .slice A l.length cap] : List Value).toArray 30)).alloc (.cells ([.int .i64 0, .int .i64 0, .slice none 0 0] : List Value).toArray 30) = v0 from HV.out]; clear HV
  refine (spec_boHas _ _ _ _ l _ _ _ hn ((hr.below B0).mono B0.size)).mono ?_; rintro e w1 ⟨rfl, b1⟩
  rewrite [HH.out]
  replace X0 := X0.below b1 X0.lt; replace X1 := X1.below b1 X1.lt; replace B0 := B0.trans (b1.mono B0.size); have hy := X0.lt; have hz := X1.lt; have hb0 := B0.size; clear b1
  (have X1k0 : w1.cell? ⟨w.heap.size + 1, 0, none⟩ = some (.int .i64 0) := (X1.cell 0).trans rfl; have X1k1 : w1.cell? ⟨w.heap.size + 1, 1, none⟩ = some (.int .i64 0) := (X1.cell 1).trans rfl; have X1k2 : w1.cell? ⟨w.heap.size + 1, 2, none⟩ = some (.slice none 0 0) := (X1.cell 2).trans rfl; have X1f0 := X1.frozen 0; have X1f1 := X1.frozen 1; have X1f2 := X1.frozen 2)
  go_wp2
  refine bodyPost_ret (v := .tuple #[.agg #[.int .i64 0, .int .i64 0, .slice none 0 0], .bool false]) ?_ rfl ?_; (focus (simp [results, Try.results15, go_sem, *]; done))
  exact PostB.none_ (by (repeat' (first | (with_reducible exact Below.refl _ _) | (with_reducible assumption) | (with_reducible refine Below.alloc ?_ ?_ _) | (with_reducible refine Below.setCell ?_ ?_ _) | (with_reducible refine Below.drew ?_) | (with_reducible refine below_drewN ?_ _) | (with_reducible refine Below.trans ?_ (Below.mono (by assumption) ?_)) | (with_reducible exact Nat.le_refl _) | (simp; done) | omega | (simp at *; omega))))
theorem spec_TurnGear_bad (R C : Int) (A : Option Addr) (cap : Nat) (l : List (Int × Int)) (i j : Int) (w : World) (hh : hasB R C l i j = true) (hk : gearK l (atI C i j) = false) (hn : l.length ≤ 1048576) (hr : Rd w w.heap.size A (flat l)) : Calls Try.prog 15 #[.agg #[.int .i64 R, .int .i64 C, .slice A l.length cap], .int .i64 i, .int .i64 j] w (PostB w 0 0 [] false) := by
  have HH := Lib.hid hh
  obtain ⟨hg, hi⟩ := hasB_and hh
  have HG := Lib.hid hg
  have HI := Lib.hid hi
  have hk6 : ¬ (l.getD (atI C i j) (0, 0)).1 = 6 := by unfold gearK at hk; simpa using hk
  have hfld := field_kind
  clear hh hg hi hk
  go_enter Try.func15, Try.ntmps15
  obtain ⟨v0, hv0, X0, X1, B0, hz0⟩ := two_boxes w [.int .i64 R, .int .i64 C, .slice A l.length cap] 30 [.int .i64 0, .int .i64 0, .slice none 0 0] 30; have HV := Lib.hid hv0; have hz : w.heap.size + 1 < v0.heap.size := (by omega); have hy : w.heap.size < v0.heap.size := (by omega); have hb0 := B0.size; clear hv0 hz0; go_wp2_with fail; rewrite [show (w.alloc (.cells ([.int .i64 R, .int .i64 C, .slice A l.length cap] : List Value).toArray 30)).alloc (.cells ([.int .i64 0, .int .i64 0, .slice none 0 0] : List Value).toArray 30) = v0 from HV.out]; clear HV
  refine (spec_boHas _ _ _ _ l _ _ _ hn ((hr.below B0).mono B0.size)).mono ?_; rintro e w1 ⟨rfl, b1⟩
  rewrite [HH.out]
  replace X0 := X0.below b1 X0.lt; replace X1 := X1.below b1 X1.lt; replace B0 := B0.trans (b1.mono B0.size); have hy := X0.lt; have hz := X1.lt; have hb0 := B0.size; clear b1
  have X0k0 : w1.cell? ⟨w.heap.size, 0, none⟩ = some (.int .i64 R) := (X0.cell 0).trans rfl; have X0k1 : w1.cell? ⟨w.heap.size, 1, none⟩ = some (.int .i64 C) := (X0.cell 1).trans rfl; have X0k2 : w1.cell? ⟨w.heap.size, 2, none⟩ = some (.slice A l.length cap) := (X0.cell 2).trans rfl
  go_wp2_with fail
  refine (spec_boAt _ _ _ _ l _ _ _ HG.out HI.out ((hr.below B0).mono B0.size)).mono ?_; rintro e w2 ⟨rfl, b2⟩
  clear X0k0 X0k1 X0k2
  replace X0 := X0.below b2 X0.lt; replace X1 := X1.below b2 X1.lt; replace B0 := B0.trans (b2.mono B0.size); have hy := X0.lt; have hz := X1.lt; have hb0 := B0.size; clear b2
  (have X1k0 : w2.cell? ⟨w.heap.size + 1, 0, none⟩ = some (.int .i64 0) := (X1.cell 0).trans rfl; have X1k1 : w2.cell? ⟨w.heap.size + 1, 1, none⟩ = some (.int .i64 0) := (X1.cell 1).trans rfl; have X1k2 : w2.cell? ⟨w.heap.size + 1, 2, none⟩ = some (.slice none 0 0) := (X1.cell 2).trans rfl; have X1f0 := X1.frozen 0; have X1f1 := X1.frozen 1; have X1f2 := X1.frozen 2)
  generalize (l.getD (atI C i j) (0, 0)).1 = kd at *
  generalize (l.getD (atI C i j) (0, 0)).2 = st at *
  go_wp2
  refine bodyPost_ret (v := .tuple #[.agg #[.int .i64 0, .int .i64 0, .slice none 0 0], .bool false]) ?_ rfl ?_; (focus (simp [results, Try.results15, go_sem, *]; done))
  exact PostB.none_ (by (repeat' (first | (with_reducible exact Below.refl _ _) | (with_reducible assumption) | (with_reducible refine Below.alloc ?_ ?_ _) | (with_reducible refine Below.setCell ?_ ?_ _) | (with_reducible refine Below.drew ?_) | (with_reducible refine below_drewN ?_ _) | (with_reducible refine Below.trans ?_ (Below.mono (by assumption) ?_)) | (with_reducible exact Nat.le_refl _) | (simp; done) | omega | (simp at *; omega))))
end Go.Proofs.Ytdpgbgniejlilaa
namespace Go.Proofs.Ytdpgbgniejlilaa
open Go.ChangeShapes Go.WideShapes Go.ChangeAt Go.RowKit Go.Joins Go.Deep
set_option linter.unusedSimpArgs false
set_option linter.unusedVariables false
set_option maxRecDepth 100000
set_option maxHeartbeats 4000000
theorem impl_groupWithN (r c : Nat) (A : Option Addr) (cap : Nat) (l : List (Int × Int)) (i : Nat) (w : World) (hG : Geo r c l.length) (hr : Rd w w.heap.size A (flat l)) (hi : i < l.length) (hJ : J l i = true) :
    Calls Try.prog 54 #[.agg #[.int .i64 (r : Int), .int .i64 (c : Int), .slice A l.length cap], .int .i64 (i : Int)] w fun e w' => ∃ A' cap', e = .returned (.slice A' (grpL (c : Int) l i).length cap') ∧ Own w' A' 3 (ints (nI (grpL (c : Int) l i))) ∧ New w A' ∧ Below w.heap.size w w' :=
  (impl_groupWith r c A cap l i w hG hr hi hJ).mono fun e w' h => by
    rw [grp_of_cell hG hi hJ] at h
    obtain ⟨A', cap', rfl, a, b, d⟩ := h
    exact ⟨A', cap', by rw [nI_length], a, b, d⟩
theorem impl_gearsAmongN (R C : Int) (A : Option Addr) (cap : Nat) (l : List (Int × Int)) (A1 : Option Addr) (cap1 : Nat) (q : List Nat) (w : World) (hr : Rd w w.heap.size A (flat l)) (hq : q.length ≤ 1048576) (hx : ∀ x ∈ q, x < l.length) (h1 : Rd w w.heap.size A1 (ints (nI q))) :
    Calls Try.prog 42 #[.agg #[.int .i64 R, .int .i64 C, .slice A l.length cap], .slice A1 q.length cap1] w fun e w' => ∃ A' cap', e = .returned (.slice A' (q.filter (gearK l)).length cap') ∧ Own w' A' 3 (ints (nI (q.filter (gearK l)))) ∧ New w A' ∧ Below w.heap.size w w' :=
  (impl_gearsAmong R C A cap l A1 cap1 q w hr hq hx h1).mono fun e w' h => by
    obtain ⟨A', cap', rfl, a, b, d⟩ := h
    exact ⟨A', cap', by rw [nI_length], a, b, d⟩
def gearsOf (C : Int) (l : List (Int × Int)) (k : Nat) : List Nat := (grpL C l k).filter (gearK l)
theorem gearsOf_at {C : Int} {l : List (Int × Int)} {k j : Nat} (hj : j < (gearsOf C l k).length) :
    (gearsOf C l k)[j] < l.length ∧ gearK l (gearsOf C l k)[j] = true ∧ (gearsOf C l k)[j] ∉ (gearsOf C l k).take j := by
  have hm := List.getElem_mem hj
  have hp : (gearsOf C l k).Pairwise (· < ·) := (List.pairwise_lt_range.filter _).filter _
  refine ⟨?_, ?_, fun h => ?_⟩
  · exact List.mem_range.1 (List.mem_filter.1 (List.mem_filter.1 hm).1).1
  · exact (List.mem_filter.1 hm).2
  · rw [List.mem_iff_getElem] at h
    obtain ⟨i, hi, hie⟩ := h
    rw [List.getElem_take] at hie
    rw [List.length_take] at hi
    have := List.pairwise_iff_getElem.1 hp i j (by omega) hj (by omega)
    omega
theorem gearsOf_len (C : Int) (l : List (Int × Int)) (k : Nat) : (gearsOf C l k).length ≤ l.length := by
  have h1 := List.length_filter_le (gearK l) (grpL C l k)
  have h2 := grpL_len C l k
  unfold gearsOf
  omega
theorem grpL_lt (C : Int) (l : List (Int × Int)) (k : Nat) : ∀ x ∈ grpL C l k, x < l.length := fun x hx => List.mem_range.1 (List.mem_filter.1 hx).1
def inTake (gs : List Nat) (j : Nat) (x : Nat) : Bool := (gs.take j).contains x
theorem inTake_step {l : List (Int × Int)} {gs : List Nat} {j : Nat} (hj : j < gs.length) (hx : gs[j] < l.length) :
    (tnS l (inTake gs j)).set gs[j] ((l.getD gs[j] (0, 0)).1, 1 - (l.getD gs[j] (0, 0)).2) = tnS l (inTake gs (j + 1)) := by
  refine tnS_set hx fun x _ => ?_
  unfold inTake
  rw [List.take_succ_eq_append_getElem hj, List.contains_eq_any_beq, List.contains_eq_any_beq, List.any_append]
  simp [eq_comm]
theorem inTake_zero {l : List (Int × Int)} {gs : List Nat} : tnS l (inTake gs 0) = l := by
  rw [show tnS l (inTake gs 0) = tnS l (fun _ => false) from tnS_congr fun x _ => by simp [inTake]]
  exact tnS_none
theorem inTake_all {C : Int} {l : List (Int × Int)} {k : Nat} : tnS l (inTake (gearsOf C l k) (gearsOf C l k).length) = tnS l (isIn C l (nmb C l k)) := by
  refine tnS_congr fun x hx => ?_
  unfold inTake isIn gearsOf grpL
  rw [List.take_length, Bool.eq_iff_iff, List.contains_iff_mem, List.mem_filter, List.mem_filter, List.mem_range, Bool.and_eq_true]
  exact ⟨fun h => ⟨h.1.2, h.2⟩, fun h => ⟨⟨hx, h.1⟩, h.2⟩⟩
theorem okT_join {R C : Int} {l : List (Int × Int)} {i j : Int} (h : okT R C l i j = true) : okJ R C l i j = true := by
  unfold okT at h
  rw [Bool.and_eq_true] at h
  unfold okJ
  rw [h.1, Bool.true_and]
  have h2 := h.2
  unfold gearK at h2
  rw [decide_eq_true_eq] at h2
  rw [h2]
  rfl
theorem impl_TurnGear_not (R C : Int) (A : Option Addr) (cap : Nat) (l : List (Int × Int)) (i j : Int) (w : World) (hh : okJ R C l i j = false) (hn : l.length ≤ 1048576) (hr : Rd w w.heap.size A (flat l)) : Calls Try.prog 16 #[.agg #[.int .i64 R, .int .i64 C, .slice A l.length cap], .int .i64 i, .int .i64 j] w (PostB w 0 0 [] false) := by
  have HH := Lib.hid hh
  clear hh
  go_enter Try.func16, Try.ntmps16
  obtain ⟨v0, hv0, X0, X1, B0, hz0⟩ := two_boxes w [.int .i64 R, .int .i64 C, .slice A l.length cap] 30 [.int .i64 0, .int .i64 0, .slice none 0 0] 30; have HV := Lib.hid hv0; have hz : w.heap.size + 1 < v0.heap.size := (by omega); have hy : w.heap.size < v0.heap.size := (by omega); have hb0 := B0.size; clear hv0 hz0; go_wp2_with fail; rewrite [show (w.alloc (.cells ([.int .i64 R, .int .i64 C, .slice A l.length cap] : List Value).toArray 30)).alloc (.cells ([.int .i64 0, .int .i64 0, .slice none 0 0] : List Value).toArray 30) = v0 from HV.out]; clear HV
  refine (impl_joiningIndex _ _ _ _ l _ _ _ hn ((hr.below B0).mono B0.size)).mono ?_; rintro e w1 ⟨rfl, b1⟩
  rewrite [HH.out]
  replace X0 := X0.below b1 X0.lt; replace X1 := X1.below b1 X1.lt; replace B0 := B0.trans (b1.mono B0.size); have hy := X0.lt; have hz := X1.lt; have hb0 := B0.size; clear b1
  (have X1k0 : w1.cell? ⟨w.heap.size + 1, 0, none⟩ = some (.int .i64 0) := (X1.cell 0).trans rfl; have X1k1 : w1.cell? ⟨w.heap.size + 1, 1, none⟩ = some (.int .i64 0) := (X1.cell 1).trans rfl; have X1k2 : w1.cell? ⟨w.heap.size + 1, 2, none⟩ = some (.slice none 0 0) := (X1.cell 2).trans rfl; have X1f0 := X1.frozen 0; have X1f1 := X1.frozen 1; have X1f2 := X1.frozen 2)
  go_wp2
  refine bodyPost_ret (v := .tuple #[.agg #[.int .i64 0, .int .i64 0, .slice none 0 0], .bool false]) ?_ rfl ?_; (focus (simp [results, Try.results16, go_sem, *]; done))
  exact PostB.none_ (by (repeat' (first | (with_reducible exact Below.refl _ _) | (with_reducible assumption) | (with_reducible refine Below.alloc ?_ ?_ _) | (with_reducible refine Below.setCell ?_ ?_ _) | (with_reducible refine Below.drew ?_) | (with_reducible refine below_drewN ?_ _) | (with_reducible refine Below.trans ?_ (Below.mono (by assumption) ?_)) | (with_reducible exact Nat.le_refl _) | (simp; done) | omega | (simp at *; omega))))
theorem impl_TurnGear_cog (R C : Int) (A : Option Addr) (cap : Nat) (l : List (Int × Int)) (i j : Int) (w : World) (hh : okJ R C l i j = true) (hk : okT R C l i j = false) (hn : l.length ≤ 1048576) (hr : Rd w w.heap.size A (flat l)) : Calls Try.prog 16 #[.agg #[.int .i64 R, .int .i64 C, .slice A l.length cap], .int .i64 i, .int .i64 j] w (PostB w 0 0 [] false) := by
  have HH := Lib.hid hh
  obtain ⟨hg, hi, _⟩ := okJ_parts hh
  obtain ⟨-, -, hkl, h90⟩ := at_bound hg hi
  obtain ⟨b, o, rfl, hbl, hc⟩ := hr (by rw [flat_length]; omega)
  have hr' : Rd w w.heap.size (some ⟨b, o, none⟩) (flat l) := fun _ => ⟨b, o, rfl, hbl, hc⟩
  have hk6 : ¬ l[atI C i j].1 = 6 := by
    unfold okT gearK at hk
    rw [show hasB R C l i j = true by unfold hasB; rw [hg, hi]; rfl, Bool.true_and, List.getD_eq_getElem?_getD, List.getElem?_eq_getElem hkl] at hk
    simpa using hk
  clear hh hg hi hk hr
  go_enter Try.func16, Try.ntmps16
  obtain ⟨v0, hv0, X0, X1, B0, hz0⟩ := two_boxes w [.int .i64 R, .int .i64 C, .slice (some ⟨b, o, none⟩) l.length cap] 30 [.int .i64 0, .int .i64 0, .slice none 0 0] 30; have HV := Lib.hid hv0; have hz : w.heap.size + 1 < v0.heap.size := (by omega); have hy : w.heap.size < v0.heap.size := (by omega); have hb0 := B0.size; clear hv0 hz0; go_wp2_with fail; rewrite [show (w.alloc (.cells ([.int .i64 R, .int .i64 C, .slice (some ⟨b, o, none⟩) l.length cap] : List Value).toArray 30)).alloc (.cells ([.int .i64 0, .int .i64 0, .slice none 0 0] : List Value).toArray 30) = v0 from HV.out]; clear HV
  refine (impl_joiningIndex _ _ _ _ l _ _ _ hn ((hr'.below B0).mono B0.size)).mono ?_; rintro e w1 ⟨rfl, b1⟩
  rewrite [HH.out, show selI true (atI C i j : Int) = (atI C i j : Int) from rfl]
  replace X0 := X0.below b1 X0.lt; replace X1 := X1.below b1 X1.lt; replace B0 := B0.trans (b1.mono B0.size); have hy := X0.lt; have hz := X1.lt; have hb0 := B0.size; clear b1
  obtain ⟨hc0, hc1⟩ := cell_at2 B0 hbl hc hkl
  have X0k0 : w1.cell? ⟨w.heap.size, 0, none⟩ = some (.int .i64 R) := (X0.cell 0).trans rfl; have X0k1 : w1.cell? ⟨w.heap.size, 1, none⟩ = some (.int .i64 C) := (X0.cell 1).trans rfl; have X0k2 : w1.cell? ⟨w.heap.size, 2, none⟩ = some (.slice (some ⟨b, o, none⟩) l.length cap) := (X0.cell 2).trans rfl
  (have X1k0 : w1.cell? ⟨w.heap.size + 1, 0, none⟩ = some (.int .i64 0) := (X1.cell 0).trans rfl; have X1k1 : w1.cell? ⟨w.heap.size + 1, 1, none⟩ = some (.int .i64 0) := (X1.cell 1).trans rfl; have X1k2 : w1.cell? ⟨w.heap.size + 1, 2, none⟩ = some (.slice none 0 0) := (X1.cell 2).trans rfl; have X1f0 := X1.frozen 0; have X1f1 := X1.frozen 1; have X1f2 := X1.frozen 2)
  generalize atI C i j = k0 at *
  generalize l[k0].1 = kd at *
  generalize l[k0].2 = st at *
  go_wp2
  refine bodyPost_ret (v := .tuple #[.agg #[.int .i64 0, .int .i64 0, .slice none 0 0], .bool false]) ?_ rfl ?_; (focus (simp [results, Try.results16, go_sem, *]; done))
  exact PostB.none_ (by (repeat' (first | (with_reducible exact Below.refl _ _) | (with_reducible assumption) | (with_reducible refine Below.alloc ?_ ?_ _) | (with_reducible refine Below.setCell ?_ ?_ _) | (with_reducible refine Below.drew ?_) | (with_reducible refine below_drewN ?_ _) | (with_reducible refine Below.trans ?_ (Below.mono (by assumption) ?_)) | (with_reducible exact Nat.le_refl _) | (simp; done) | omega | (simp at *; omega))))
end Go.Proofs.Ytdpgbgniejlilaa
namespace Go.Proofs.Ytdpgbgniejlilaa
open Go.ChangeShapes Go.WideShapes Go.ChangeAt Go.RowKit Go.Joins Go.Deep
set_option linter.unusedSimpArgs false
set_option linter.unusedVariables false
set_option maxRecDepth 100000
set_option maxHeartbeats 400000
def goN (k s d : Int) : Int := if k = 1 then -1 else if k = 2 then 1 else if k = 3 ∨ k = 6 then 2 * s - 1 else if k = 4 then -d else 0
def goB (k s d : Int) : Bool := good k s && decide (-1 ≤ d ∧ d ≤ 1 ∧ k ≠ 5)
theorem ret_intb {a c : Int} {x y : Bool} (h : x = y) (h1 : y = true → a = c) (h3 : y = false → a = 0) :
    Ending.returned (.tuple #[.int .i64 a, .bool x]) = .returned (.tuple #[.int .i64 (selI y c), .bool y]) := by
  subst h
  cases x
  · rw [h3 rfl]; rfl
  · rw [h1 rfl]; rfl
end Go.Proofs.Ytdpgbgniejlilaa
namespace Go.Proofs.Ytdpgbgniejlilaa
open Go.ChangeShapes Go.WideShapes Go.ChangeAt Go.RowKit Go.Joins Go.Deep
set_option linter.unusedSimpArgs false
set_option linter.unusedVariables false
set_option maxRecDepth 100000
set_option maxHeartbeats 4000000
def pin (nm : List Int) (gn : Int) (l : List (Int × Int)) (x : Nat) : Bool := decide (nm.getD x 0 = gn) && gearK l x
def pup (nm : List Int) (gn : Int) (l : List (Int × Int)) (k : Nat) (x : Nat) : Bool := decide (x < k) && pin nm gn l x
def passL (nm : List Int) (l : List (Int × Int)) (i : Nat) : List (Int × Int) :=
  if (l.getD i (0, 0)).1 = 3 then l.set i ((l.getD i (0, 0)).1, 1 - (l.getD i (0, 0)).2) else if (l.getD i (0, 0)).1 = 6 then tnS l (pin nm (nm.getD i 0) l) else l
theorem pup_zero {nm : List Int} {l : List (Int × Int)} {gn : Int} : tnS l (pup nm gn l 0) = l := by
  rw [show tnS l (pup nm gn l 0) = tnS l (fun _ => false) from tnS_congr fun x _ => by simp [pup]]
  exact tnS_none
theorem pup_yes {nm : List Int} {l : List (Int × Int)} {gn : Int} {k : Nat} (hk : k < l.length) (h : pin nm gn l k = true) : (tnS l (pup nm gn l k)).set k ((l.getD k (0, 0)).1, 1 - (l.getD k (0, 0)).2) = tnS l (pup nm gn l (k + 1)) := by
  refine tnS_set hk fun x _ => ?_
  unfold pup
  by_cases e : x = k
  · subst e; simp [h]
  · have e1 : decide (x < k + 1) = decide (x < k) := by rw [decide_eq_decide]; omega
    have e2 : (x == k) = false := by simp [e]
    rw [e1, e2, Bool.or_false]
theorem pup_no {nm : List Int} {l : List (Int × Int)} {gn : Int} {k : Nat} (h : pin nm gn l k = false) : tnS l (pup nm gn l (k + 1)) = tnS l (pup nm gn l k) := by
  refine tnS_congr fun x _ => ?_
  unfold pup
  by_cases e : x = k
  · subst e; simp [h]
  · have e1 : decide (x < k + 1) = decide (x < k) := by rw [decide_eq_decide]; omega
    rw [e1]
theorem pup_all {nm : List Int} {l : List (Int × Int)} {gn : Int} : tnS l (pup nm gn l l.length) = tnS l (pin nm gn l) :=
  tnS_congr fun x hx => by unfold pup; rw [decide_eq_true hx, Bool.true_and]
theorem passL_len (nm : List Int) (l : List (Int × Int)) (i : Nat) : (passL nm l i).length = l.length := by
  unfold passL
  split
  · rw [List.length_set]
  · split
    · rw [tnS_len]
    · rfl
theorem gb_below {w v v' : World} {g : Nat} (h : w.grownBy v (some g)) (hb : Below v.heap.size v v') : w.grownBy v' (some g) :=
  ⟨hb.os.trans h.os, hb.tape.trans h.tape, hb.output.trans h.output, Nat.le_trans h.size hb.size, fun k hk hne => (hb.block k (Nat.lt_of_lt_of_le hk h.size)).trans (h.block k hk hne)⟩
theorem gb_set2 {w v : World} {g j j' : Nat} {u u' : Value} (h : w.grownBy v (some g)) : w.grownBy ((v.setCell ⟨g, j, none⟩ u).setCell ⟨g, j', none⟩ u') (some g) :=
  ⟨h.os, h.tape, h.output, by rw [World.size_setCell, World.size_setCell]; exact h.size, fun k hk hne => by
    have e : k ≠ g := fun e => hne (by rw [e])
    rw [Below.heap_setCell _ _ _ _ e, Below.heap_setCell _ _ _ _ e]
    exact h.block k hk hne⟩
theorem gb_refl (w : World) (g : Nat) : w.grownBy w (some g) := ⟨rfl, rfl, rfl, Nat.le_refl _, fun _ _ _ => rfl⟩
end Go.Proofs.Ytdpgbgniejlilaa
namespace Go.Proofs.Ytdpgbgniejlilaa
open Go.ChangeShapes Go.WideShapes Go.ChangeAt Go.RowKit Go.Joins Go.Deep
set_option linter.unusedSimpArgs false
set_option linter.unusedVariables false
set_option maxRecDepth 100000
set_option maxHeartbeats 1000000
theorem numL_congr {c : Nat} {l l' : List (Int × Int)} (hlen : l.length = l'.length) (hk : ∀ x, (l.getD x (0, 0)).1 = (l'.getD x (0, 0)).1) : numL c l = numL c l' := by
  unfold numL
  rw [show J l = J l' from funext fun x => by unfold J; rw [hk], hlen]
theorem tnS_kind {l : List (Int × Int)} {S : Nat → Bool} (x : Nat) : ((tnS l S).getD x (0, 0)).1 = (l.getD x (0, 0)).1 := by
  by_cases hx : x < l.length
  · have h1 : x < (tnS l S).length := by rw [tnS_len]; exact hx
    rw [List.getD_eq_getElem?_getD, List.getElem?_eq_getElem h1]
    show ((tnS l S)[x]).1 = _
    rw [tnS_at h1]
    split <;> rfl
  · have h1 : (tnS l S).getD x (0, 0) = (0, 0) := by rw [List.getD_eq_getElem?_getD, List.getElem?_eq_none (by rw [tnS_len]; omega)]; rfl
    have h2 : l.getD x (0, 0) = (0, 0) := by rw [List.getD_eq_getElem?_getD, List.getElem?_eq_none (by omega)]; rfl
    rw [h1, h2]
theorem passL_kind (nm : List Int) (l : List (Int × Int)) (i x : Nat) : ((passL nm l i).getD x (0, 0)).1 = (l.getD x (0, 0)).1 := by
  unfold passL
  split
  · rw [List.getD_eq_getElem?_getD, List.getElem?_set]
    by_cases e : i = x
    · subst e
      rw [if_pos rfl]
      by_cases hi : i < l.length
      · rw [if_pos hi, List.getD_eq_getElem?_getD]; rfl
      · rw [if_neg hi, List.getD_eq_getElem?_getD, List.getElem?_eq_none (by omega)]
    · rw [if_neg e, List.getD_eq_getElem?_getD]
  · split
    · exact tnS_kind x
    · rfl
theorem passL_num (c : Nat) (nm : List Int) (l : List (Int × Int)) (i : Nat) : numL c (passL nm l i) = numL c l :=
  numL_congr (passL_len nm l i) (passL_kind nm l i)
theorem numL_getD {c : Nat} {l : List (Int × Int)} {k : Nat} (hk : k < l.length) : (numL c l).getD k 0 = nmb (c : Int) l k := by
  have h := numL_at (c := c) hk
  unfold ints at h
  rw [List.getElem?_map] at h
  rw [List.getD_eq_getElem?_getD]
  cases he : (numL c l)[k]? with
  | none => rw [he] at h; simp at h
  | some v => rw [he] at h; simpa using h
theorem passL_gear {c : Nat} {l : List (Int × Int)} {i : Nat} (hi : i < l.length) (h6 : (l.getD i (0, 0)).1 = 6) : passL (numL c l) l i = tnS l (isIn (c : Int) l (nmb (c : Int) l i)) := by
  unfold passL
  rw [if_neg (by rw [h6]; decide), if_pos h6]
  refine tnS_congr fun x hx => ?_
  unfold pin isIn
  rw [numL_getD hx, numL_getD hi]
theorem passL_flip {nm : List Int} {l : List (Int × Int)} {i : Nat} (h3 : (l.getD i (0, 0)).1 = 3) : passL nm l i = l.set i (3, 1 - (l.getD i (0, 0)).2) := by
  unfold passL
  rw [if_pos h3, h3]
theorem passL_none {nm : List Int} {l : List (Int × Int)} {i : Nat} (h3 : (l.getD i (0, 0)).1 ≠ 3) (h6 : (l.getD i (0, 0)).1 ≠ 6) : passL nm l i = l := by
  unfold passL
  rw [if_neg h3, if_neg h6]
end Go.Proofs.Ytdpgbgniejlilaa
namespace Go.Proofs.Ytdpgbgniejlilaa
open Go.ChangeShapes Go.WideShapes Go.ChangeAt Go.RowKit Go.Joins Go.Deep
set_option linter.unusedSimpArgs false
set_option linter.unusedVariables false
set_option maxRecDepth 100000
set_option maxHeartbeats 8000000
theorem Whole.rdA {w : World} {g : Nat} {t : TypeId} {xs rest : List Value} (h : Whole w g t (xs ++ rest)) : Rd w w.heap.size (some ⟨g, 0, none⟩) xs := Own.rd (t := t) (fun _ => ⟨g, rest, rfl, h⟩)
theorem impl_TurnCell_ok (a b : Int) (h : good a b = true) (ht : a = 3 ∨ a = 6) (w : World) :
    Calls Try.prog 55 #[.agg #[.int .i64 a, .int .i64 b]] w fun e w' => e = .returned (.tuple #[.agg #[.int .i64 a, .int .i64 (1 - b)], .bool true]) ∧ Below w.heap.size w w' :=
  (impl_TurnCell a b w).mono fun e w' ⟨h1, h2⟩ => ⟨by
    rw [h1, h]
    rcases ht with rfl | rfl <;> rfl, h2⟩
theorem impl_turnGroup (r c g5 cap : Nat) (l : List (Int × Int)) (rest5 : List Value) (i : Nat) (w : World) (hG : Geo r c l.length) (hi : i < l.length) (h6 : (l.getD i (0, 0)).1 = 6) (hn : l.length ≤ 1048576) (hgd : ∀ x ∈ l, good x.1 x.2 = true)
    (X7 : Whole w g5 34 (flat l ++ rest5)) :
    Calls Try.prog 36 #[.agg #[.int .i64 (r : Int), .int .i64 (c : Int), .slice (some ⟨g5, 0, none⟩) l.length cap], .int .i64 (i : Int)] w
      fun e w' => e = .returned (.tuple #[]) ∧ Whole w' g5 34 (flat (passL (numL c l) l i) ++ rest5) ∧ w.grownBy w' (some g5) := by
  have HJ := Lib.hid (show J l i = true by unfold J; rw [h6]; rfl)
  have HGood := Lib.hid (fun k (hk : k < l.length) => hgd _ (List.getElem_mem hk))
  have HP := Lib.hid ((passL_gear (c := c) hi h6).trans inTake_all.symm)
  clear hgd h6
  go_enter Try.func36, Try.ntmps36
  obtain ⟨v0, hv0⟩ : ∃ v, v = w.alloc (.cells #[.int .i64 (r : Int), .int .i64 (c : Int), .slice (some ⟨g5, 0, none⟩) l.length cap] 30) := ⟨_, rfl⟩
  have X0 : Whole v0 w.heap.size 30 [.int .i64 (r : Int), .int .i64 (c : Int), .slice (some ⟨g5, 0, none⟩) l.length cap] := by rw [hv0]; exact heap_alloc_new w _
  have hb : Below w.heap.size w v0 := by rw [hv0]; exact (Below.refl _ _).alloc (Nat.le_refl _) _
  have HV := Lib.hid hv0.symm
  clear hv0
  go_upto_region 1 with (fail)
  rewrite [HV.out]
  clear HV
  have h5 := X7.lt
  replace X7 := X7.below hb h5
  have hgb : w.grownBy v0 (some g5) := gb_below (gb_refl w g5) hb
  have hy := X0.lt
  have hb0 := hb.size
  have hr2 := X7.rdA
  have hgl := grpL_len (c : Int) l i
  have k0 : v0.cell? ⟨w.heap.size, 0, none⟩ = some (.int .i64 (r : Int)) := (X0.cell 0).trans rfl
  have k1 : v0.cell? ⟨w.heap.size, 1, none⟩ = some (.int .i64 (c : Int)) := (X0.cell 1).trans rfl
  have k2 : v0.cell? ⟨w.heap.size, 2, none⟩ = some (.slice (some ⟨g5, 0, none⟩) l.length cap) := (X0.cell 2).trans rfl
  have KS := Lib.hid (fun (w' : World) (h : Below v0.heap.size v0 w') => (⟨(h.cell (p := ⟨w.heap.size, 0, none⟩) hy).trans k0, (h.cell (p := ⟨w.heap.size, 1, none⟩) hy).trans k1, (h.cell (p := ⟨w.heap.size, 2, none⟩) hy).trans k2⟩ : w'.cell? ⟨w.heap.size, 0, none⟩ = some (.int .i64 (r : Int)) ∧ w'.cell? ⟨w.heap.size, 1, none⟩ = some (.int .i64 (c : Int)) ∧ w'.cell? ⟨w.heap.size, 2, none⟩ = some (.slice (some ⟨g5, 0, none⟩) l.length cap)))
  clear k0 k1 k2
  go_region_held3 (fun w' => w'.cell? ⟨w.heap.size, 0, none⟩ = some (.int .i64 (r : Int)) ∧ w'.cell? ⟨w.heap.size, 1, none⟩ = some (.int .i64 (c : Int)) ∧ w'.cell? ⟨w.heap.size, 2, none⟩ = some (.slice (some ⟨g5, 0, none⟩) l.length cap))
    (first | exact KS.out _ (by (repeat' (first | (with_reducible exact Below.refl _ _) | (with_reducible assumption) | (with_reducible refine Below.alloc ?_ ?_ _) | (with_reducible refine Below.setCell ?_ ?_ _) | (with_reducible refine Below.drew ?_) | (with_reducible refine below_drewN ?_ _) | (with_reducible refine Below.trans ?_ (Below.mono (by assumption) ?_)) | go_size))) | fail)
    ((first
      | (go_at_call 54; (with_reducible refine (impl_groupWithN r c _ cap l i _ hG ?_ hi HJ.out).mono ?_); (focus exact (hr2.below (by (repeat' (first | (with_reducible exact Below.refl _ _) | (with_reducible assumption) | (with_reducible refine Below.alloc ?_ ?_ _) | (with_reducible refine Below.setCell ?_ ?_ _) | (with_reducible refine Below.drew ?_) | (with_reducible refine below_drewN ?_ _) | (with_reducible refine Below.trans ?_ (Below.mono (by assumption) ?_)) | go_size)))).mono (by (repeat' (first | (with_reducible exact Below.refl _ _) | (with_reducible assumption) | (with_reducible refine Below.alloc ?_ ?_ _) | (with_reducible refine Below.setCell ?_ ?_ _) | (with_reducible refine Below.drew ?_) | (with_reducible refine below_drewN ?_ _) | (with_reducible refine Below.trans ?_ (Below.mono (by assumption) ?_)) | go_size)) : Below v0.heap.size v0 _).size); rintro e w3 ⟨A3, c3, rfl, o3, n3, b3⟩; have bb3 : Below v0.heap.size v0 w3 := (by (repeat' (first | (with_reducible exact Below.refl _ _) | (with_reducible assumption) | (with_reducible refine Below.alloc ?_ ?_ _) | (with_reducible refine Below.setCell ?_ ?_ _) | (with_reducible refine Below.drew ?_) | (with_reducible refine below_drewN ?_ _) | (with_reducible refine Below.trans ?_ (Below.mono (by assumption) ?_)) | go_size))); have s3 : v0.heap.size ≤ w3.heap.size := bb3.size)
      | (go_at_call 42; (with_reducible refine (impl_gearsAmongN (r : Int) (c : Int) _ cap l A3 c3 (grpL (c : Int) l i) _ ?_ (by omega) (grpL_lt _ _ _) ?_).mono ?_); (focus exact (hr2.below (by (repeat' (first | (with_reducible exact Below.refl _ _) | (with_reducible assumption) | (with_reducible refine Below.alloc ?_ ?_ _) | (with_reducible refine Below.setCell ?_ ?_ _) | (with_reducible refine Below.drew ?_) | (with_reducible refine below_drewN ?_ _) | (with_reducible refine Below.trans ?_ (Below.mono (by assumption) ?_)) | go_size)))).mono (by (repeat' (first | (with_reducible exact Below.refl _ _) | (with_reducible assumption) | (with_reducible refine Below.alloc ?_ ?_ _) | (with_reducible refine Below.setCell ?_ ?_ _) | (with_reducible refine Below.drew ?_) | (with_reducible refine below_drewN ?_ _) | (with_reducible refine Below.trans ?_ (Below.mono (by assumption) ?_)) | go_size)) : Below v0.heap.size v0 _).size); (focus exact (o3.rd.below (by (repeat' (first | (with_reducible exact Below.refl _ _) | (with_reducible assumption) | (with_reducible refine Below.alloc ?_ ?_ _) | (with_reducible refine Below.setCell ?_ ?_ _) | (with_reducible refine Below.drew ?_) | (with_reducible refine below_drewN ?_ _) | (with_reducible refine Below.trans ?_ (Below.mono (by assumption) ?_)) | go_size)))).mono (by (repeat' (first | (with_reducible exact Below.refl _ _) | (with_reducible assumption) | (with_reducible refine Below.alloc ?_ ?_ _) | (with_reducible refine Below.setCell ?_ ?_ _) | (with_reducible refine Below.drew ?_) | (with_reducible refine below_drewN ?_ _) | (with_reducible refine Below.trans ?_ (Below.mono (by assumption) ?_)) | go_size)) : Below w3.heap.size w3 _).size); rintro e w4 ⟨A4, c4, rfl, o4, n4, b4⟩; have bb4 : Below v0.heap.size v0 w4 := (by (repeat' (first | (with_reducible exact Below.refl _ _) | (with_reducible assumption) | (with_reducible refine Below.alloc ?_ ?_ _) | (with_reducible refine Below.setCell ?_ ?_ _) | (with_reducible refine Below.drew ?_) | (with_reducible refine below_drewN ?_ _) | (with_reducible refine Below.trans ?_ (Below.mono (by assumption) ?_)) | go_size))))
      | fail))
  rewrite [show (grpL (c : Int) l i).filter (gearK l) = gearsOf (c : Int) l i from rfl]
  rw [show (grpL (c : Int) l i).filter (gearK l) = gearsOf (c : Int) l i from rfl] at o4
  have n4' : ∀ a, A4 = some a → v0.heap.size ≤ a.block := fun a ha => Nat.le_trans s3 (n4 a ha)
  clear KS b3 b4 n3 n4 o3 s3 bb3 hr2
  have h5' : g5 < v0.heap.size := X7.lt
  replace X0 := X0.below bb4 X0.lt
  replace X7 := X7.below bb4 X7.lt
  replace hgb := gb_below hgb bb4
  clear bb4 hb hb0 hy
  rw [← inTake_zero (l := l) (gs := gearsOf (c : Int) l i)] at X7
  have hgn := gearsOf_len (c : Int) l i
  have HAt := Lib.hid (fun j => gearsOf_at (C := (c : Int)) (l := l) (k := i) (j := j))
  have HSt := Lib.hid (fun j => inTake_step (l := l) (gs := gearsOf (c : Int) l i) (j := j))
  generalize gearsOf (c : Int) l i = gs at *
  generalize v0.heap.size = base at *
  go_wp2_with fail
  go_loopw [12] (fun t wr => ∃ k : Nat, t = .int .i64 k ∧ k ≤ gs.length ∧ Whole wr w.heap.size 30 [.int .i64 (r : Int), .int .i64 (c : Int), .slice (some ⟨g5, 0, none⟩) l.length cap] ∧ Whole wr g5 34 (flat (tnS l (inTake gs k)) ++ rest5) ∧ Own wr A4 3 (ints (nI gs)) ∧ w.grownBy wr (some g5)) (fun t _ => gs.length - (intOf t).toNat)
  case atStart => exact ⟨0, rfl, Nat.zero_le _, X0, X7, o4, hgb⟩
  case round =>
    clear X0 X7 o4 hgb
    obtain ⟨k, rfl, hk, X0, X7, o4, hgb⟩ := hrel
    by_cases hlt : k < gs.length
    · obtain ⟨hyl, hyg, hyn⟩ := HAt.out k hlt
      have hstep := HSt.out k hlt hyl
      obtain ⟨g4, rest4, rfl, X4⟩ := o4 (by rw [ints_length, nI_length]; omega)
      have h4 : base ≤ g4 := n4' _ rfl
      have hck := row_num X4 hlt
      have hTl : gs[k] < (tnS l (inTake gs k)).length := by rw [tnS_len]; exact hyl
      have hget : l.getD gs[k] (0, 0) = l[gs[k]] := by rw [List.getD_eq_getElem?_getD, List.getElem?_eq_getElem hyl]; rfl
      have hT : (tnS l (inTake gs k))[gs[k]] = l[gs[k]] := by
        rw [tnS_at hTl, hget]
        have : inTake gs k gs[k] = false := by unfold inTake; simpa using hyn
        rw [this]
        rfl
      have h6 : l[gs[k]].1 = 6 := by unfold gearK at hyg; rw [hget] at hyg; simpa using hyg
      have hgood := HGood.out gs[k] hyl
      rw [hget, h6] at hstep
      have HSet := flat_set (tnS l (inTake gs k)) gs[k] 6 (1 - l[gs[k]].2) hTl rest5
      rw [hstep] at HSet
      have u0 : (flat (tnS l (inTake gs k)) ++ rest5)[gs[k] * 2]? = some (.int .i64 6) := by rw [List.getElem?_append_left (by rw [flat_length]; omega), (flat_at _ gs[k] hTl).1, hT, h6]
      have u1 : (flat (tnS l (inTake gs k)) ++ rest5)[gs[k] * 2 + 1]? = some (.int .i64 l[gs[k]].2) := by rw [List.getElem?_append_left (by rw [flat_length]; omega), (flat_at _ gs[k] hTl).2, hT]
      rw [h6] at hgood
      have HSet' := Lib.hid HSet
      have U0 := Lib.hid u0
      have U1 := Lib.hid u1
      have hs := hgb.size
      have hyw : w.heap.size < wr.heap.size := X0.lt
      have HTC := Lib.hid (impl_TurnCell_ok 6 l[gs[k]].2 hgood (.inr rfl))
      clear hTl hT hget h6 hstep hyg hyn HSet hgood u0 u1
      generalize l[gs[k]].2 = st' at *
      generalize gs[k] = y at *
      go_upto_region 4 with (fail)
      clear hck
      have bd : Below wr.heap.size wr wr.drew := (Below.refl _ _).drew
      replace X0 := X0.below bd X0.lt
      replace X4 := X4.below bd X4.lt
      replace X7 := X7.below bd X7.lt
      replace hgb := gb_below hgb bd
      have hk2 : wr.drew.cell? ⟨w.heap.size, 2, none⟩ = some (.slice (some ⟨g5, 0, none⟩) l.length cap) := (X0.cell 2).trans rfl
      have q0 : wr.drew.cell? ⟨g5, y * 2, none⟩ = some (.int .i64 6) := (X7.cell _).trans U0.out
      have q1 : wr.drew.cell? ⟨g5, y * 2 + 1, none⟩ = some (.int .i64 st') := (X7.cell _).trans U1.out
      clear bd
      go_region_law (first
        | (go_simp; (with_reducible refine Calls.mono (HTC.out _) ?_); rintro e w5 ⟨rfl, b5⟩; replace X0 := X0.below b5 X0.lt; replace X4 := X4.below b5 X4.lt; replace X7 := X7.below b5 X7.lt; replace hgb := gb_below hgb b5; replace hk2 : w5.cell? ⟨w.heap.size, 2, none⟩ = some (.slice (some ⟨g5, 0, none⟩) l.length cap) := (X0.cell 2).trans rfl; replace q0 : w5.cell? ⟨g5, y * 2, none⟩ = some (.int .i64 6) := (X7.cell _).trans U0.out; replace q1 : w5.cell? ⟨g5, y * 2 + 1, none⟩ = some (.int .i64 st') := (X7.cell _).trans U1.out; have f0 := X7.frozen (y * 2); have f1 := X7.frozen (y * 2 + 1); clear b5)
        | fail)
      all_goals (go_wp2; go_roundw)
      all_goals first
        | (refine ⟨k + 1, by go_num, by omega, X0.two_far (by omega), ?_, fun _ => ⟨g4, rest4, rfl, X4.two_far (by omega)⟩, gb_set2 hgb⟩; rewrite [← HSet'.out]; exact (X7.set (y * 2) (.int .i64 6)).set (y * 2 + 1) (.int .i64 (1 - st')))
        | (simp [intOf]; omega)
        | fail
    · obtain rfl : k = gs.length := by omega
      rw [← HP.out] at X7
      go_wp2
      go_returns
      exact ⟨rfl, X7, hgb⟩
end Go.Proofs.Ytdpgbgniejlilaa
namespace Go.Proofs.Ytdpgbgniejlilaa
open Go.ChangeShapes Go.WideShapes Go.ChangeAt Go.RowKit Go.Joins Go.Deep
set_option linter.unusedSimpArgs false
set_option linter.unusedVariables false
set_option maxRecDepth 100000
set_option maxHeartbeats 8000000
theorem impl_TurnGear_yes (R C : Int) (A : Option Addr) (cap : Nat) (l : List (Int × Int)) (i j : Int) (w : World) (hk : okT R C l i j = true) (hn : l.length ≤ 1048576) (hr : Rd w w.heap.size A (flat l)) : Calls Try.prog 16 #[.agg #[.int .i64 R, .int .i64 C, .slice A l.length cap], .int .i64 i, .int .i64 j] w (PostB w R C (tnS l (isIn C l (nmb C l (atI C i j)))) true) := by
  have hh := okT_join hk
  have HH := Lib.hid hh
  obtain ⟨hg, hi, hJ⟩ := okJ_parts hh
  obtain ⟨-, -, hkl, h90⟩ := at_bound hg hi
  obtain ⟨r, c, rfl, rfl, hGeo⟩ := geo_of hg
  obtain ⟨b, o, rfl, hbl, hc⟩ := hr (by rw [flat_length]; omega)
  have hr' : Rd w w.heap.size (some ⟨b, o, none⟩) (flat l) := fun _ => ⟨b, o, rfl, hbl, hc⟩
  have hk6 : l[atI (c : Int) i j].1 = 6 := by
    unfold okT gearK at hk
    rw [Bool.and_eq_true, decide_eq_true_eq, List.getD_eq_getElem?_getD, List.getElem?_eq_getElem hkl] at hk
    exact hk.2
  have HGd := Lib.hid (goodB_iff.1 hg).2.2
  have HK6 := Lib.hid (show (l.getD (atI (c : Int) i j) (0, 0)).1 = 6 by rw [List.getD_eq_getElem?_getD, List.getElem?_eq_getElem hkl]; exact hk6)
  have HPG := Lib.hid (passL_gear (c := c) hkl HK6.out)
  clear hh hg hi hk hr hJ
  go_enter Try.func16, Try.ntmps16
  obtain ⟨v0, hv0, X0, X1, B0, hz0⟩ := two_boxes w [.int .i64 (r : Int), .int .i64 (c : Int), .slice (some ⟨b, o, none⟩) l.length cap] 30 [.int .i64 0, .int .i64 0, .slice none 0 0] 30; have HV := Lib.hid hv0; have hz : w.heap.size + 1 < v0.heap.size := (by omega); have hy : w.heap.size < v0.heap.size := (by omega); have hb0 := B0.size; clear hv0 hz0; go_wp2_with fail; rewrite [show (w.alloc (.cells ([.int .i64 (r : Int), .int .i64 (c : Int), .slice (some ⟨b, o, none⟩) l.length cap] : List Value).toArray 30)).alloc (.cells ([.int .i64 0, .int .i64 0, .slice none 0 0] : List Value).toArray 30) = v0 from HV.out]; clear HV
  refine (impl_joiningIndex _ _ _ _ l _ _ _ hn ((hr'.below B0).mono B0.size)).mono ?_; rintro e w1 ⟨rfl, b1⟩
  rewrite [HH.out, show selI true (atI (c : Int) i j : Int) = (atI (c : Int) i j : Int) from rfl]
  replace X0 := X0.below b1 X0.lt; replace X1 := X1.below b1 X1.lt; replace B0 := B0.trans (b1.mono B0.size); have hy := X0.lt; have hz := X1.lt; have hb0 := B0.size; clear b1
  obtain ⟨hc0, hc1⟩ := cell_at2 B0 hbl hc hkl
  rw [hk6] at hc0
  have X0k0 : w1.cell? ⟨w.heap.size, 0, none⟩ = some (.int .i64 (r : Int)) := (X0.cell 0).trans rfl; have X0k1 : w1.cell? ⟨w.heap.size, 1, none⟩ = some (.int .i64 (c : Int)) := (X0.cell 1).trans rfl; have X0k2 : w1.cell? ⟨w.heap.size, 2, none⟩ = some (.slice (some ⟨b, o, none⟩) l.length cap) := (X0.cell 2).trans rfl
  generalize atI (c : Int) i j = k0 at *
  clear hk6
  generalize l[k0].2 = st at *
  go_wp2_with fail
  refine (impl_cloneBoard (r : Int) (c : Int) b o cap l _ hn ((hr'.below B0).mono B0.size)).mono ?_
  rintro e w2 ⟨A5, c5, rfl, o5, n5, b2⟩
  clear hc0 hc1
  clear X0k0 X0k1 X0k2
  obtain ⟨g5, rest5, rfl, X7⟩ := o5 (by rw [flat_length]; omega)
  have h5 : w.heap.size + 1 < g5 := Nat.lt_of_lt_of_le hz (n5 _ rfl)
  clear n5 o5
  replace X0 := X0.below b2 X0.lt; replace X1 := X1.below b2 X1.lt; replace B0 := B0.trans (b2.mono B0.size); have hy := X0.lt; have hz := X1.lt; have hb0 := B0.size; clear b2
  go_upto_region 5 with (fail)
  obtain ⟨v4, hv4⟩ : ∃ v4, v4 = w2.alloc (.cells #[.int .i64 (r : Int), .int .i64 (c : Int), .slice (some ⟨g5, 0, none⟩) l.length c5] 30) := ⟨_, rfl⟩
  have X4 : Whole v4 w2.heap.size 30 [.int .i64 (r : Int), .int .i64 (c : Int), .slice (some ⟨g5, 0, none⟩) l.length c5] := by rw [hv4]; exact heap_alloc_new _ _
  have b4 : Below w2.heap.size w2 v4 := by rw [hv4]; exact (Below.refl _ _).alloc (Nat.le_refl _) _
  rewrite [← hv4]
  clear hv4
  have h4w : w.heap.size + 1 < w2.heap.size := hz
  have h54 : g5 < w2.heap.size := X7.lt
  replace X7 := X7.below b4 X7.lt
  replace X0 := X0.below b4 X0.lt; replace X1 := X1.below b4 X1.lt; replace B0 := B0.trans (b4.mono B0.size); have hy := X0.lt; have hz := X1.lt; have hb0 := B0.size; clear b4
  have h45 := X4.lt
  generalize w2.heap.size = g4 at *
  have X4k0 : v4.cell? ⟨g4, 0, none⟩ = some (.int .i64 (r : Int)) := (X4.cell 0).trans rfl; have X4k1 : v4.cell? ⟨g4, 1, none⟩ = some (.int .i64 (c : Int)) := (X4.cell 1).trans rfl; have X4k2 : v4.cell? ⟨g4, 2, none⟩ = some (.slice (some ⟨g5, 0, none⟩) l.length c5) := (X4.cell 2).trans rfl
  go_wp2_with fail
  refine (impl_turnGroup r c g5 c5 l rest5 k0 _ hGeo hkl HK6.out hn HGd.out X7).mono ?_; rintro e w6 ⟨rfl, X7', gb⟩
  clear X4k0 X4k1 X4k2
  have n5 : ∀ {g : Nat}, g ≠ g5 → some g ≠ some g5 := fun h e => h (by injection e)
  replace X1 := X1.grown gb (n5 (by omega))
  replace X4 := X4.grown gb (n5 (by omega))
  have B6 : Below w.heap.size w w6 := B0.grown gb B0.size (fun k e => by cases e; omega)
  clear gb n5 X7 X0 B0 hb0 hy hz
  rw [HPG.out] at X7'
  have hl := tnS_len l (isIn (c : Int) l (nmb (c : Int) l k0))
  have X4k0 : w6.cell? ⟨g4, 0, none⟩ = some (.int .i64 (r : Int)) := (X4.cell 0).trans rfl; have X4k1 : w6.cell? ⟨g4, 1, none⟩ = some (.int .i64 (c : Int)) := (X4.cell 1).trans rfl; have X4k2 : w6.cell? ⟨g4, 2, none⟩ = some (.slice (some ⟨g5, 0, none⟩) l.length c5) := (X4.cell 2).trans rfl
  have X1k0 : w6.cell? ⟨w.heap.size + 1, 0, none⟩ = some (.int .i64 0) := (X1.cell 0).trans rfl; have X1k1 : w6.cell? ⟨w.heap.size + 1, 1, none⟩ = some (.int .i64 0) := (X1.cell 1).trans rfl; have X1k2 : w6.cell? ⟨w.heap.size + 1, 2, none⟩ = some (.slice none 0 0) := (X1.cell 2).trans rfl
  have X1f0 := X1.frozen 0; have X1f1 := X1.frozen 1; have X1f2 := X1.frozen 2
  have hap : ∀ a, some (⟨g5, 0, none⟩ : Addr) = some a → w.heap.size + 1 ≠ a.block := fun a ha => by cases ha; show w.heap.size + 1 ≠ g5; omega
  have hnw : New w (some ⟨g5, 0, none⟩) := fun a ha => by cases ha; show w.heap.size ≤ g5; omega
  have ho : Own w6 (some ⟨g5, 0, none⟩) 34 (flat (tnS l (isIn (c : Int) l (nmb (c : Int) l k0)))) := fun _ => ⟨g5, rest5, rfl, X7'⟩
  have HLl := Lib.hid hl
  clear hl
  go_wp2
  refine bodyPost_ret (v := .tuple #[.agg #[.int .i64 (r : Int), .int .i64 (c : Int), .slice (some ⟨g5, 0, none⟩) l.length c5], .bool true]) ?_ rfl ?_; (focus (simp [results, Try.results16, go_sem, *]; done))
  rw [← HLl.out]
  exact PostB.mk (((ho.set_far _ _ hap).set_far _ _ hap).set_far _ _ hap) hnw (by (repeat' (first | (with_reducible exact Below.refl _ _) | (with_reducible assumption) | (with_reducible refine Below.alloc ?_ ?_ _) | (with_reducible refine Below.setCell ?_ ?_ _) | (with_reducible refine Below.drew ?_) | (with_reducible refine below_drewN ?_ _) | (with_reducible refine Below.trans ?_ (Below.mono (by assumption) ?_)) | (with_reducible exact Nat.le_refl _) | (simp; done) | omega | (simp at *; omega))))
end Go.Proofs.Ytdpgbgniejlilaa
namespace Go.Proofs.Ytdpgbgniejlilaa
open Go.ChangeShapes Go.WideShapes Go.ChangeAt Go.RowKit Go.Joins Go.Deep
set_option linter.unusedSimpArgs false
set_option linter.unusedVariables false
set_option maxRecDepth 100000
set_option maxHeartbeats 2000000
def fstG (C : Int) (l : List (Int × Int)) (m : Int) (k : Nat) : Option Nat := ((List.range k).filter fun y => gearK l y && decide (nmb C l y = m)).head?
def stAt (C : Int) (l : List (Int × Int)) (m : Int) (k : Nat) : Int :=
  match fstG C l m k with
  | some y => (l.getD y (0, 0)).2
  | none => -1
theorem fstG_step (C : Int) (l : List (Int × Int)) (m : Int) (k : Nat) : fstG C l m (k + 1) = (fstG C l m k).or (if gearK l k && decide (nmb C l k = m) then some k else none) := by
  unfold fstG
  rw [List.range_succ, List.filter_append, List.head?_append]
  congr 1
  by_cases h : (gearK l k && decide (nmb C l k = m)) = true
  · rw [if_pos h]; simp only [List.filter_cons, h, if_true]; rfl
  · rw [if_neg h]; simp only [List.filter_cons, h]; rfl
theorem fstG_stays {C : Int} {l : List (Int × Int)} {m : Int} {k y : Nat} (h : fstG C l m k = some y) : ∀ k', k ≤ k' → fstG C l m k' = some y := by
  intro k' hk
  induction k' with
  | zero => rw [show k = 0 by omega] at h; exact h
  | succ k' ih =>
    rcases Nat.eq_or_lt_of_le hk with e | e
    · rw [← e]; exact h
    · rw [fstG_step, ih (by omega)]; rfl
theorem fstG_gear {C : Int} {l : List (Int × Int)} {m : Int} {k y : Nat} (h : fstG C l m k = some y) : y < k ∧ gearK l y = true := by
  unfold fstG at h
  have hm := List.mem_of_mem_head? h
  rw [List.mem_filter, List.mem_range, Bool.and_eq_true] at hm
  exact ⟨hm.1, hm.2.1⟩
theorem stAt_other {C : Int} {l : List (Int × Int)} {m : Int} {k : Nat} (h : gearK l k = false ∨ ¬ nmb C l k = m) : stAt C l m (k + 1) = stAt C l m k := by
  have e : (gearK l k && decide (nmb C l k = m)) = false := by
    rcases h with h | h
    · rw [h, Bool.false_and]
    · rw [decide_eq_false h, Bool.and_false]
  unfold stAt
  rw [fstG_step, e]
  cases fstG C l m k <;> rfl
/-- At a gear: its group's state behind it is the one that stands at the end; what stood before tells whether there was one. -/
theorem stAt_gear {C : Int} {l : List (Int × Int)} {k : Nat} (hk : k < l.length) (hg : gearK l k = true) (hgood : ∀ y, y < l.length → gearK l y = true → 0 ≤ (l.getD y (0, 0)).2) :
    (stAt C l (nmb C l k) k < 0 → stAt C l (nmb C l k) (k + 1) = (l.getD k (0, 0)).2) ∧ (¬ stAt C l (nmb C l k) k < 0 → stAt C l (nmb C l k) (k + 1) = stAt C l (nmb C l k) k) ∧ stAt C l (nmb C l k) (k + 1) = stAt C l (nmb C l k) l.length := by
  have hs := fstG_step C l (nmb C l k) k
  rw [hg, decide_eq_true rfl, Bool.and_self, if_pos rfl] at hs
  cases hf : fstG C l (nmb C l k) k with
  | none =>
    rw [hf] at hs
    have hs' : fstG C l (nmb C l k) (k + 1) = some k := hs
    refine ⟨fun _ => ?_, fun h => ?_, ?_⟩
    · unfold stAt; rw [hs']
    · exact absurd (show stAt C l (nmb C l k) k < 0 by unfold stAt; rw [hf]; show (-1 : Int) < 0; omega) h
    · unfold stAt; rw [hs', fstG_stays hs' l.length (by omega)]
  | some y =>
    have hs' : fstG C l (nmb C l k) (k + 1) = some y := fstG_stays hf (k + 1) (by omega)
    obtain ⟨h1, h2⟩ := fstG_gear hf
    have h0 := hgood y (by omega) h2
    refine ⟨fun h => ?_, fun _ => ?_, ?_⟩
    · exfalso
      unfold stAt at h
      rw [hf] at h
      have : (l.getD y (0, 0)).2 < 0 := h
      omega
    · unfold stAt; rw [hs', hf]
    · unfold stAt; rw [hs', fstG_stays hf l.length (by omega)]
def alV (C : Int) (l : List (Int × Int)) (x : Nat) : Int × Int := ((l.getD x (0, 0)).1, stAt C l (nmb C l x) l.length)
def mixS (l : List (Int × Int)) (v : Nat → Int × Int) (S : Nat → Bool) : List (Int × Int) := (List.range l.length).map fun x => if S x then v x else l.getD x (0, 0)
theorem mixS_len (l : List (Int × Int)) (v : Nat → Int × Int) (S : Nat → Bool) : (mixS l v S).length = l.length := by simp [mixS]
theorem mixS_congr {l : List (Int × Int)} {v : Nat → Int × Int} {S T : Nat → Bool} (h : ∀ x, x < l.length → S x = T x) : mixS l v S = mixS l v T := by
  unfold mixS
  exact List.map_congr_left fun x hx => by rw [h x (List.mem_range.1 hx)]
theorem mixS_at {l : List (Int × Int)} {v : Nat → Int × Int} {S : Nat → Bool} {x : Nat} (h : x < (mixS l v S).length) : (mixS l v S)[x] = if S x then v x else l.getD x (0, 0) := by simp [mixS]
theorem mixS_none {l : List (Int × Int)} {v : Nat → Int × Int} : mixS l v (fun _ => false) = l := by
  apply List.ext_getElem (mixS_len _ _ _)
  intro i h1 h2
  rw [mixS_at h1]
  simp only [Bool.false_eq_true, if_false]
  rw [List.getD_eq_getElem?_getD, List.getElem?_eq_getElem h2]
  rfl
theorem mixS_set {l : List (Int × Int)} {v : Nat → Int × Int} {S T : Nat → Bool} {k : Nat} (hk : k < l.length) (hT : ∀ x, x < l.length → T x = (S x || x == k)) : (mixS l v S).set k (v k) = mixS l v T := by
  apply List.ext_getElem (by rw [List.length_set, mixS_len, mixS_len])
  intro i h1 h2
  rw [List.getElem_set]
  have hi : i < l.length := by rw [mixS_len] at h2; exact h2
  by_cases e : k = i
  · subst e
    rw [if_pos rfl, mixS_at h2, hT k hk]
    simp
  · rw [if_neg e, mixS_at (by rw [mixS_len]; exact hi), mixS_at h2, hT i hi]
    have : (i == k) = false := by simp; omega
    rw [this, Bool.or_false]
def alignL (C : Int) (l : List (Int × Int)) : List (Int × Int) := mixS l (alV C l) (gearK l)
def alignB (R C : Int) (l : List (Int × Int)) : List (Int × Int) := if goodB R C l then alignL C l else []
theorem alignB_len (R C : Int) (l : List (Int × Int)) (h : l.length ≤ 1048576) : (alignB R C l).length ≤ 1048576 := by
  unfold alignB alignL
  split
  · rw [mixS_len]; exact h
  · simp
end Go.Proofs.Ytdpgbgniejlilaa
namespace Go.Proofs.Ytdpgbgniejlilaa
open Go.ChangeShapes Go.WideShapes Go.ChangeAt Go.RowKit Go.Joins Go.Deep
set_option linter.unusedSimpArgs false
set_option linter.unusedVariables false
set_option maxRecDepth 100000
set_option maxHeartbeats 8000000
theorem gs_eq {r c t : Nat} {l : List (Int × Int)} (hG : Geo r c l.length) (ht : t < (srtG c l).length) : ((srtG c l)[t]).filter (gearK l) = (List.range l.length).filter fun y => gearK l y && decide (nmb (c : Int) l y = (t : Int)) := by
  have hA := groups_all hG
  have ht' : t < (GG (c : Int) l).length := by unfold srtG at ht; rwa [List.length_map] at ht
  have e : (srtG c l)[t] = sortN l.length (GG (c : Int) l)[t] := by simp only [srtG, List.getElem_map]
  rw [e]
  unfold sortN
  rw [List.filter_filter]
  refine List.filter_congr fun y _ => ?_
  congr 1
  rw [Bool.eq_iff_iff, List.contains_iff_mem, decide_eq_true_eq]
  have h := num_is (j := y) _ 0 t hA.apart (List.getElem?_eq_getElem ht')
  rw [Nat.zero_add] at h
  exact h.symm
theorem alV_eq {r c t : Nat} {l : List (Int × Int)} (hG : Geo r c l.length) (ht : t < (srtG c l).length) {j : Nat} (hj : j < (((srtG c l)[t]).filter (gearK l)).length) :
    ((((srtG c l)[t]).filter (gearK l))[j] < l.length) ∧ ((((srtG c l)[t]).filter (gearK l)).getD 0 0 < l.length) ∧ (l.getD ((((srtG c l)[t]).filter (gearK l)).getD 0 0) (0, 0)).1 = 6 ∧
      alV (c : Int) l (((srtG c l)[t]).filter (gearK l))[j] = ((6 : Int), (l.getD ((((srtG c l)[t]).filter (gearK l)).getD 0 0) (0, 0)).2) := by
  have hpos : 0 < (((srtG c l)[t]).filter (gearK l)).length := by omega
  have hm := List.getElem_mem hj
  have h0 := List.getElem_mem hpos
  have e := gs_eq hG ht
  have hd : (((srtG c l)[t]).filter (gearK l)).getD 0 0 = (((srtG c l)[t]).filter (gearK l))[0] := by rw [List.getD_eq_getElem?_getD, List.getElem?_eq_getElem hpos]; rfl
  have hh : fstG (c : Int) l (t : Int) l.length = some (((srtG c l)[t]).filter (gearK l))[0] := by
    unfold fstG
    rw [← e, List.head?_eq_getElem?, List.getElem?_eq_getElem hpos]
  rw [hd]
  generalize (((srtG c l)[t]).filter (gearK l))[0] = y0 at *
  generalize (((srtG c l)[t]).filter (gearK l))[j] = y at *
  rw [e, List.mem_filter, List.mem_range, Bool.and_eq_true, decide_eq_true_eq] at hm h0
  have k0 : (l.getD y0 (0, 0)).1 = 6 := by have := h0.2.1; unfold gearK at this; simpa using this
  have k1 : (l.getD y (0, 0)).1 = 6 := by have := hm.2.1; unfold gearK at this; simpa using this
  refine ⟨hm.1, h0.1, k0, ?_⟩
  unfold alV stAt
  rw [hm.2.2, hh, k1]
def doneG (c : Nat) (l : List (Int × Int)) (t : Nat) (x : Nat) : Bool := gearK l x && ((srtG c l).take t).flatten.contains x
def doneJ (c : Nat) (l : List (Int × Int)) (t j : Nat) (gs : List Nat) (x : Nat) : Bool := doneG c l t x || (gs.take j).contains x
theorem done_start {c t : Nat} {l : List (Int × Int)} {gs : List Nat} {v : Nat → Int × Int} : mixS l v (doneJ c l t 0 gs) = mixS l v (doneG c l t) :=
  mixS_congr fun x _ => by simp [doneJ]
theorem done_step {c t j : Nat} {l : List (Int × Int)} {gs : List Nat} {v : Nat → Int × Int} (hj : j < gs.length) (hx : gs[j] < l.length) : (mixS l v (doneJ c l t j gs)).set gs[j] (v gs[j]) = mixS l v (doneJ c l t (j + 1) gs) := by
  refine mixS_set hx fun x _ => ?_
  unfold doneJ
  rw [List.take_succ_eq_append_getElem hj, List.contains_eq_any_beq, List.contains_eq_any_beq, List.any_append, Bool.or_assoc]
  simp [eq_comm]
theorem done_all {c t : Nat} {l : List (Int × Int)} {v : Nat → Int × Int} (ht : t < (srtG c l).length) : mixS l v (doneJ c l t (((srtG c l)[t]).filter (gearK l)).length (((srtG c l)[t]).filter (gearK l))) = mixS l v (doneG c l (t + 1)) := by
  refine mixS_congr fun x _ => ?_
  unfold doneJ doneG
  rw [List.take_length, List.take_succ_eq_append_getElem ht, flatten_snoc, Bool.eq_iff_iff]
  simp only [Bool.or_eq_true, Bool.and_eq_true, List.contains_iff_mem, List.mem_append, List.mem_filter]
  constructor
  · rintro (⟨a, b⟩ | ⟨a, b⟩)
    · exact ⟨a, .inl b⟩
    · exact ⟨b, .inr a⟩
  · rintro ⟨a, b | b⟩
    · exact .inl ⟨a, b⟩
    · exact .inr ⟨b, a⟩
theorem done_end {r c : Nat} {l : List (Int × Int)} {v : Nat → Int × Int} (hG : Geo r c l.length) : mixS l v (doneG c l (srtG c l).length) = mixS l v (gearK l) := by
  refine mixS_congr fun x hx => ?_
  unfold doneG
  rw [List.take_length, Bool.eq_iff_iff, Bool.and_eq_true, List.contains_iff_mem]
  refine ⟨fun h => h.1, fun h => ⟨h, ?_⟩⟩
  have hA := groups_all hG
  have hJ : J l x = true := by
    unfold gearK at h
    rw [decide_eq_true_eq] at h
    unfold J
    rw [h]
    rfl
  obtain ⟨g, hg, hxg⟩ := List.mem_flatten.1 (hA.all x hx hJ)
  exact List.mem_flatten.2 ⟨sortN l.length g, List.mem_map.2 ⟨g, hg, rfl⟩, mem_sortN.2 ⟨hx, hxg⟩⟩
theorem doneG_zero {c : Nat} {l : List (Int × Int)} {v : Nat → Int × Int} : mixS l v (doneG c l 0) = l := by
  rw [show mixS l v (doneG c l 0) = mixS l v (fun _ => false) from mixS_congr fun x _ => by simp [doneG]]
  exact mixS_none
theorem LRow.setTwo {w : World} {base g j j' : Nat} {v u u' : Value} {L : List (List Nat)} (h : LRow w base v L) (hg : g < base) : LRow ((w.setCell ⟨g, j, none⟩ u).setCell ⟨g, j', none⟩ u') base v L := (h.setCell hg).setCell hg
theorem alB_post {w w' : World} {R C : Int} {l : List (Int × Int)} {e : Ending} {ok : Bool} (h : goodB R C l = ok) (hp : if ok then PostB w R C (alignL C l) true e w' else PostB w 0 0 [] false e w') :
    PostB w (selI (goodB R C l) R) (selI (goodB R C l) C) (alignB R C l) (goodB R C l) e w' := by
  unfold alignB
  rw [h]
  cases ok
  · exact hp
  · exact hp
theorem impl_AlignGears_yes (r c : Nat) (A : Option Addr) (cap : Nat) (l : List (Int × Int)) (w : World) (hG : Geo r c l.length) (hg : goodB (r : Int) (c : Int) l = true) (hn : l.length ≤ 1048576) (hr : Rd w w.heap.size A (flat l)) :
    Calls Try.prog 18 #[.agg #[.int .i64 (r : Int), .int .i64 (c : Int), .slice A l.length cap]] w (PostB w (r : Int) (c : Int) (alignL (c : Int) l) true) := by
  have hpos := (goodB_parts hg).2.2
  have HG := Lib.hid hg
  have n90 := hG.n90
  obtain ⟨b, o, rfl, hbl, hc⟩ := hr (by rw [flat_length]; omega)
  have hr' : Rd w w.heap.size (some ⟨b, o, none⟩) (flat l) := fun _ => ⟨b, o, rfl, hbl, hc⟩
  have hLn := srtG_len c l
  have HAl := Lib.hid (fun t (ht : t < (srtG c l).length) j (hj : j < (((srtG c l)[t]).filter (gearK l)).length) => alV_eq hG ht hj)
  have HLt := Lib.hid (fun t (ht : t < (srtG c l).length) => (⟨srtG_cell c l t ht, fun x hx => by
    have e : (srtG c l)[t] = sortN l.length ((GG (c : Int) l)[t]'(by unfold srtG at ht; rwa [List.length_map] at ht)) := by simp only [srtG, List.getElem_map]
    rw [e, mem_sortN] at hx
    exact hx.1⟩ : (srtG c l)[t].length ≤ l.length ∧ ∀ x ∈ (srtG c l)[t], x < l.length))
  unfold alignL
  rw [← done_end (c := c) hG]
  clear hg hr
  go_enter Try.func18, Try.ntmps18
  obtain ⟨v0, hv0, X0, X1, B0, hz0⟩ := two_boxes w [.int .i64 (r : Int), .int .i64 (c : Int), .slice (some ⟨b, o, none⟩) l.length cap] 30 [.int .i64 0, .int .i64 0, .slice none 0 0] 30; have HV := Lib.hid hv0; have hz : w.heap.size + 1 < v0.heap.size := (by omega); have hy : w.heap.size < v0.heap.size := (by omega); have hb0 := B0.size; clear hv0 hz0; go_wp2_with fail; rewrite [show (w.alloc (.cells ([.int .i64 (r : Int), .int .i64 (c : Int), .slice (some ⟨b, o, none⟩) l.length cap] : List Value).toArray 30)).alloc (.cells ([.int .i64 0, .int .i64 0, .slice none 0 0] : List Value).toArray 30) = v0 from HV.out]; clear HV
  refine (impl_IsBoard _ _ _ _ l _ hn ((hr'.below B0).mono B0.size)).mono ?_; rintro e w1 ⟨rfl, b1⟩
  rewrite [HG.out]
  replace X0 := X0.below b1 X0.lt; replace X1 := X1.below b1 X1.lt; replace B0 := B0.trans (b1.mono B0.size); have hy := X0.lt; have hz := X1.lt; have hb0 := B0.size; clear b1
  have X0k0 : w1.cell? ⟨w.heap.size, 0, none⟩ = some (.int .i64 (r : Int)) := (X0.cell 0).trans rfl; have X0k1 : w1.cell? ⟨w.heap.size, 1, none⟩ = some (.int .i64 (c : Int)) := (X0.cell 1).trans rfl; have X0k2 : w1.cell? ⟨w.heap.size, 2, none⟩ = some (.slice (some ⟨b, o, none⟩) l.length cap) := (X0.cell 2).trans rfl
  go_wp2_with fail
  refine (impl_cloneBoard (r : Int) (c : Int) b o cap l _ hn ((hr'.below B0).mono B0.size)).mono ?_
  rintro e w2 ⟨A5, c5, rfl, o5, n5, b2⟩
  clear X0k0 X0k1 X0k2
  obtain ⟨g5, rest5, rfl, X7⟩ := o5 (by rw [flat_length]; omega)
  have h5 : w.heap.size + 1 < g5 := Nat.lt_of_lt_of_le hz (n5 _ rfl)
  clear n5 o5
  replace X0 := X0.below b2 X0.lt; replace X1 := X1.below b2 X1.lt; replace B0 := B0.trans (b2.mono B0.size); have hy := X0.lt; have hz := X1.lt; have hb0 := B0.size; clear b2
  go_upto_region 4 with (fail)
  obtain ⟨v4, hv4⟩ : ∃ v4, v4 = w2.alloc (.cells #[.int .i64 (r : Int), .int .i64 (c : Int), .slice (some ⟨g5, 0, none⟩) l.length c5] 30) := ⟨_, rfl⟩
  have X8 : Whole v4 w2.heap.size 30 [.int .i64 (r : Int), .int .i64 (c : Int), .slice (some ⟨g5, 0, none⟩) l.length c5] := by rw [hv4]; exact heap_alloc_new _ _
  have b4 : Below w2.heap.size w2 v4 := by rw [hv4]; exact (Below.refl _ _).alloc (Nat.le_refl _) _
  rewrite [← hv4]
  clear hv4
  have h8w : w.heap.size + 1 < w2.heap.size := hz
  have h58 : g5 < w2.heap.size := X7.lt
  replace X7 := X7.below b4 X7.lt
  replace X0 := X0.below b4 X0.lt; replace X1 := X1.below b4 X1.lt; replace B0 := B0.trans (b4.mono B0.size); have hy := X0.lt; have hz := X1.lt; have hb0 := B0.size; clear b4
  have h8l := X8.lt
  generalize w2.heap.size = g8 at *
  have h58n : g8 ≠ g5 := by omega
  have X0k0 : v4.cell? ⟨w.heap.size, 0, none⟩ = some (.int .i64 (r : Int)) := (X0.cell 0).trans rfl; have X0k1 : v4.cell? ⟨w.heap.size, 1, none⟩ = some (.int .i64 (c : Int)) := (X0.cell 1).trans rfl; have X0k2 : v4.cell? ⟨w.heap.size, 2, none⟩ = some (.slice (some ⟨b, o, none⟩) l.length cap) := (X0.cell 2).trans rfl
  go_wp2_with fail
  refine (impl_groupsOf r c _ cap l _ hG ((hr'.below B0).mono B0.size)).mono ?_
  rintro e w3 ⟨v, rfl, hL0, b3⟩
  have hL : LRow w3 v4.heap.size v (srtG c l) := hL0
  clear hL0
  have h5' : g5 < v4.heap.size := X7.lt
  have h8' : g8 < v4.heap.size := X8.lt
  replace X7 := X7.below b3 X7.lt
  replace X8 := X8.below b3 X8.lt
  clear X0k0 X0k1 X0k2
  replace X0 := X0.below b3 X0.lt; replace X1 := X1.below b3 X1.lt; replace B0 := B0.trans (b3.mono B0.size); have hy := X0.lt; have hz := X1.lt; have hb0 := B0.size; clear b3
  obtain ⟨A3, c3, rfl⟩ := hL.shape
  rw [← doneG_zero (c := c) (l := l) (v := alV (c : Int) l)] at X7
  generalize v4.heap.size = base at *
  go_wp2_with fail
  go_loopw [19] (fun t wr => ∃ k : Nat, t = .int .i64 k ∧ k ≤ (srtG c l).length ∧ Whole wr w.heap.size 30 [.int .i64 (r : Int), .int .i64 (c : Int), .slice (some ⟨b, o, none⟩) l.length cap] ∧ Whole wr (w.heap.size + 1) 30 [.int .i64 0, .int .i64 0, .slice none 0 0] ∧ Whole wr g8 30 [.int .i64 (r : Int), .int .i64 (c : Int), .slice (some ⟨g5, 0, none⟩) l.length c5] ∧ Whole wr g5 34 (flat (mixS l (alV (c : Int) l) (doneG c l k)) ++ rest5) ∧ LRow wr base (.slice A3 (srtG c l).length c3) (srtG c l) ∧ Below w.heap.size w wr) (fun t _ => (srtG c l).length - (intOf t).toNat)
  case atStart => exact ⟨0, rfl, Nat.zero_le _, X0, X1, X8, X7, hL, B0⟩
  case round =>
    clear X0 X1 X8 X7 hL B0 hy hz hb0
    obtain ⟨k, rfl, hk, X0, X1, X8, X7, hL, hb⟩ := hrel
    by_cases hlt : k < (srtG c l).length
    · obtain ⟨go, cap0, A4, c4, e4, hh, ho4, hb4, hgo⟩ := hL.at_ hlt
      have eA : A3 = some ⟨go, 0, none⟩ := by injection e4
      subst eA
      clear e4
      obtain ⟨hqn, hqx⟩ := HLt.out k hlt
      have hs := hb.size
      have X0k0 : wr.cell? ⟨w.heap.size, 0, none⟩ = some (.int .i64 (r : Int)) := (X0.cell 0).trans rfl; have X0k1 : wr.cell? ⟨w.heap.size, 1, none⟩ = some (.int .i64 (c : Int)) := (X0.cell 1).trans rfl; have X0k2 : wr.cell? ⟨w.heap.size, 2, none⟩ = some (.slice (some ⟨b, o, none⟩) l.length cap) := (X0.cell 2).trans rfl
      go_wp2_with fail
      refine (impl_gearsAmongN (r : Int) (c : Int) _ cap l A4 c4 (srtG c l)[k] _ ((hr'.below hb).mono hs) (by omega) hqx ho4.rd).mono ?_
      rintro e w4 ⟨A6, c6, rfl, o6, n6, b4⟩
      clear X0k0 X0k1 X0k2
      have n6' : ∀ a, A6 = some a → wr.heap.size ≤ a.block := n6
      have h7 := X7.lt
      replace X0 := X0.below b4 X0.lt
      replace X1 := X1.below b4 X1.lt
      replace X8 := X8.below b4 X8.lt
      replace X7 := X7.below b4 X7.lt
      replace hL := hL.keep b4
      replace hb := hb.trans (b4.mono hs)
      clear b4 hh ho4 hb4 hgo n6 hs
      have hgl : (((srtG c l)[k]).filter (gearK l)).length ≤ 1048576 := by have := List.length_filter_le (gearK l) (srtG c l)[k]; omega
      have HA1 := Lib.hid (fun j hj => HAl.out k hlt j hj)
      have HS1 := Lib.hid (fun j (hj : j < (((srtG c l)[k]).filter (gearK l)).length) (hx : (((srtG c l)[k]).filter (gearK l))[j] < l.length) => done_step (c := c) (t := k) (v := alV (c : Int) l) hj hx)
      have HD := Lib.hid (done_all (v := alV (c : Int) l) hlt)
      rw [← done_start (c := c) (t := k) (gs := ((srtG c l)[k]).filter (gearK l))] at X7
      generalize ((srtG c l)[k]).filter (gearK l) = gs at *
      have htop : g5 < wr.heap.size := h7
      generalize wr.heap.size = top at *
      go_wp2_with fail
      go_loopw [28] (fun t wr => ∃ j : Nat, t = .int .i64 j ∧ j ≤ gs.length ∧ Whole wr w.heap.size 30 [.int .i64 (r : Int), .int .i64 (c : Int), .slice (some ⟨b, o, none⟩) l.length cap] ∧ Whole wr (w.heap.size + 1) 30 [.int .i64 0, .int .i64 0, .slice none 0 0] ∧ Whole wr g8 30 [.int .i64 (r : Int), .int .i64 (c : Int), .slice (some ⟨g5, 0, none⟩) l.length c5] ∧ Whole wr g5 34 (flat (mixS l (alV (c : Int) l) (doneJ c l k j gs)) ++ rest5) ∧ Own wr A6 3 (ints (nI gs)) ∧ LRow wr base (.slice (some ⟨go, 0, none⟩) (srtG c l).length c3) (srtG c l) ∧ Below w.heap.size w wr) (fun t _ => gs.length - (intOf t).toNat)
      case atStart => exact ⟨0, rfl, Nat.zero_le _, X0, X1, X8, X7, o6, hL, hb⟩
      case round =>
        clear X0 X1 X8 X7 hL hb o6
        obtain ⟨j, rfl, hj, X0, X1, X8, X7, o6, hL, hb⟩ := hrel
        by_cases hjl : j < gs.length
        · obtain ⟨hyl, hy0, hk6, hal⟩ := HA1.out j hjl
          have hg0 : gs.getD 0 0 = gs[0] := by rw [List.getD_eq_getElem?_getD, List.getElem?_eq_getElem (show 0 < gs.length by omega)]; rfl
          rw [hg0] at hy0 hk6 hal
          clear hg0
          obtain ⟨g4, rest4, rfl, X4⟩ := o6 (by rw [ints_length, nI_length]; omega)
          have h4 : top ≤ g4 := n6' _ rfl
          have hcj := row_num X4 hjl
          have hc0' := row_num X4 (show 0 < gs.length by omega)
          have hstep := HS1.out j hjl hyl
          rw [hal] at hstep
          have hTl : gs[j] < (mixS l (alV (c : Int) l) (doneJ c l k j gs)).length := by rw [mixS_len]; exact hyl
          have hget : l.getD gs[0] (0, 0) = l[gs[0]] := by rw [List.getD_eq_getElem?_getD, List.getElem?_eq_getElem hy0]; rfl
          rw [hget] at hk6 hstep
          have HSet := flat_set (mixS l (alV (c : Int) l) (doneJ c l k j gs)) gs[j] 6 l[gs[0]].2 hTl rest5
          rw [hstep] at HSet
          have HSet' := Lib.hid HSet
          obtain ⟨hd0, hd1⟩ := cell_at2 hb hbl hc hy0
          rw [hk6] at hd0
          have q0 : ∃ u, wr.cell? ⟨g5, gs[j] * 2, none⟩ = some u := ⟨_, by rw [X7.cell, List.getElem?_append_left (by rw [flat_length]; omega)]; exact (flat_at _ gs[j] hTl).1⟩
          have q1 : ∃ u, wr.cell? ⟨g5, gs[j] * 2 + 1, none⟩ = some u := ⟨_, by rw [X7.cell, List.getElem?_append_left (by rw [flat_length]; omega)]; exact (flat_at _ gs[j] hTl).2⟩
          obtain ⟨u0, q0⟩ := q0
          obtain ⟨u1, q1⟩ := q1
          have f0 := X7.frozen (gs[j] * 2)
          have f1 := X7.frozen (gs[j] * 2 + 1)
          have k82 : wr.cell? ⟨g8, 2, none⟩ = some (.slice (some ⟨g5, 0, none⟩) l.length c5) := (X8.cell 2).trans rfl
          have k2 : wr.cell? ⟨w.heap.size, 2, none⟩ = some (.slice (some ⟨b, o, none⟩) l.length cap) := (X0.cell 2).trans rfl
          clear hal hstep hTl hget hk6 HSet
          generalize l[gs[0]].2 = st at *
          generalize gs[0] = y0 at *
          generalize gs[j] = y at *
          clear HA1 HS1 HD HAl HLt
          generalize hng : gs.length = ng at *
          clear hng
          have hgb : b ≠ g5 := by omega
          have KS := Lib.hid (fun (w' : World) (h : Below wr.heap.size wr w') => (⟨(h.cell (p := ⟨w.heap.size, 2, none⟩) X0.lt).trans k2, (h.cell (p := ⟨g4, 0, none⟩) X4.lt).trans hc0', (h.cell (p := ⟨b, o + y0 * 2, none⟩) (Nat.lt_of_lt_of_le hbl hb.size)).trans hd0, (h.cell (p := ⟨b, o + y0 * 2 + 1, none⟩) (Nat.lt_of_lt_of_le hbl hb.size)).trans hd1, (h.cell (p := ⟨g8, 2, none⟩) X8.lt).trans k82⟩ : w'.cell? ⟨w.heap.size, 2, none⟩ = some (.slice (some ⟨b, o, none⟩) l.length cap) ∧ w'.cell? ⟨g4, 0, none⟩ = some (.int .i64 (y0 : Int)) ∧ w'.cell? ⟨b, o + y0 * 2, none⟩ = some (.int .i64 6) ∧ w'.cell? ⟨b, o + y0 * 2 + 1, none⟩ = some (.int .i64 st) ∧ w'.cell? ⟨g8, 2, none⟩ = some (.slice (some ⟨g5, 0, none⟩) l.length c5)))
          have KS2 := Lib.hid (fun (w' : World) (u u' : Value) (h : Below wr.heap.size wr w') => (⟨(cell_two_far (j := y * 2) (j' := y * 2 + 1) (u := u) (u' := u') (show w.heap.size ≠ g5 by omega)).trans (KS.out w' h).1, (cell_two_far (j := y * 2) (j' := y * 2 + 1) (u := u) (u' := u') (show g4 ≠ g5 by omega)).trans (KS.out w' h).2.1, (cell_two_far (j := y * 2) (j' := y * 2 + 1) (u := u) (u' := u') (show b ≠ g5 by omega)).trans (KS.out w' h).2.2.1, (cell_two_far (j := y * 2) (j' := y * 2 + 1) (u := u) (u' := u') (show b ≠ g5 by omega)).trans (KS.out w' h).2.2.2.1, (cell_two_far (j := y * 2) (j' := y * 2 + 1) (u := u) (u' := u') (show g8 ≠ g5 by omega)).trans (KS.out w' h).2.2.2.2⟩ : ((w'.setCell ⟨g5, y * 2, none⟩ u).setCell ⟨g5, y * 2 + 1, none⟩ u').cell? ⟨w.heap.size, 2, none⟩ = some (.slice (some ⟨b, o, none⟩) l.length cap) ∧ ((w'.setCell ⟨g5, y * 2, none⟩ u).setCell ⟨g5, y * 2 + 1, none⟩ u').cell? ⟨g4, 0, none⟩ = some (.int .i64 (y0 : Int)) ∧ ((w'.setCell ⟨g5, y * 2, none⟩ u).setCell ⟨g5, y * 2 + 1, none⟩ u').cell? ⟨b, o + y0 * 2, none⟩ = some (.int .i64 6) ∧ ((w'.setCell ⟨g5, y * 2, none⟩ u).setCell ⟨g5, y * 2 + 1, none⟩ u').cell? ⟨b, o + y0 * 2 + 1, none⟩ = some (.int .i64 st) ∧ ((w'.setCell ⟨g5, y * 2, none⟩ u).setCell ⟨g5, y * 2 + 1, none⟩ u').cell? ⟨g8, 2, none⟩ = some (.slice (some ⟨g5, 0, none⟩) l.length c5)))
          have X0' := X0.two_far (u := .int .i64 6) (u' := .int .i64 st) (j := y * 2) (j' := y * 2 + 1) (show w.heap.size ≠ g5 by omega)
          have X1' := X1.two_far (u := .int .i64 6) (u' := .int .i64 st) (j := y * 2) (j' := y * 2 + 1) (show w.heap.size + 1 ≠ g5 by omega)
          have X8' := X8.two_far (u := .int .i64 6) (u' := .int .i64 st) (j := y * 2) (j' := y * 2 + 1) (show g8 ≠ g5 by omega)
          have X4' := X4.two_far (u := .int .i64 6) (u' := .int .i64 st) (j := y * 2) (j' := y * 2 + 1) (show g4 ≠ g5 by omega)
          have X7' := (X7.set (y * 2) (.int .i64 6)).set (y * 2 + 1) (.int .i64 st)
          rw [HSet'.out] at X7'
          have hL' := hL.setTwo (j := y * 2) (j' := y * 2 + 1) (u := .int .i64 6) (u' := .int .i64 st) h5'
          have hb' := (hb.setCell (p := ⟨g5, y * 2, none⟩) (by show w.heap.size ≤ g5; omega) (.int .i64 6)).setCell (p := ⟨g5, y * 2 + 1, none⟩) (by show w.heap.size ≤ g5; omega) (.int .i64 st)
          have HX := Lib.hid (⟨X0', X1', X8', X7', X4', hL', hb'⟩ : _ ∧ _ ∧ _ ∧ _ ∧ _ ∧ _ ∧ _)
          clear X0' X1' X8' X7' X4' hL' hb'
          have hy1 : (0 : Int) ≤ (y : Int) := by omega
          have hy2 : (y : Int) < (l.length : Int) := by omega
          have hy3 : (0 : Int) ≤ (y0 : Int) := by omega
          have hy4 : (y0 : Int) < (l.length : Int) := by omega
          have hgp : 0 < ng := by omega
          go_upto_region 11 with (fail)
          clear k2 k82 hc0' hd0 hd1 hcj
          go_region_held3 (fun w' => w'.cell? ⟨w.heap.size, 2, none⟩ = some (.slice (some ⟨b, o, none⟩) l.length cap) ∧ w'.cell? ⟨g4, 0, none⟩ = some (.int .i64 (y0 : Int)) ∧ w'.cell? ⟨b, o + y0 * 2, none⟩ = some (.int .i64 6) ∧ w'.cell? ⟨b, o + y0 * 2 + 1, none⟩ = some (.int .i64 st) ∧ w'.cell? ⟨g8, 2, none⟩ = some (.slice (some ⟨g5, 0, none⟩) l.length c5))
            (first | exact KS2.out wr _ _ (Below.refl _ _) | exact KS.out _ (by (repeat' (first | (with_reducible exact Below.refl _ _) | (with_reducible assumption) | (with_reducible refine Below.alloc ?_ ?_ _) | (with_reducible refine Below.setCell ?_ ?_ _) | (with_reducible refine Below.drew ?_) | (with_reducible refine below_drewN ?_ _) | (with_reducible refine Below.trans ?_ (Below.mono (by assumption) ?_)) | go_size))) | fail)
            (fail)
          obtain ⟨X0', X1', X8', X7', X4', hL', hb'⟩ := HX.out
          clear KS KS2 X0 X1 X8 X4 X7 hb hL q0 q1 f0 f1 HX
          go_wp2
          go_roundw
          case rel => exact ⟨j + 1, by go_num, by omega, X0', X1', X8', X7', fun _ => ⟨g4, rest4, rfl, X4'⟩, hL', hb'.drew⟩
          case measure => simp [intOf]; omega
        · obtain rfl : j = gs.length := by omega
          rw [HD.out] at X7
          go_wp2
          go_roundw
          case rel => exact ⟨k + 1, by go_num, by omega, X0, X1, X8, X7, hL, hb⟩
          case measure => simp [intOf]; omega
    · obtain rfl : k = (srtG c l).length := by omega
      have hl := mixS_len l (alV (c : Int) l) (doneG c l (srtG c l).length)
      have X8k0 : wr.cell? ⟨g8, 0, none⟩ = some (.int .i64 (r : Int)) := (X8.cell 0).trans rfl; have X8k1 : wr.cell? ⟨g8, 1, none⟩ = some (.int .i64 (c : Int)) := (X8.cell 1).trans rfl; have X8k2 : wr.cell? ⟨g8, 2, none⟩ = some (.slice (some ⟨g5, 0, none⟩) l.length c5) := (X8.cell 2).trans rfl
      have X1k0 : wr.cell? ⟨w.heap.size + 1, 0, none⟩ = some (.int .i64 0) := (X1.cell 0).trans rfl; have X1k1 : wr.cell? ⟨w.heap.size + 1, 1, none⟩ = some (.int .i64 0) := (X1.cell 1).trans rfl; have X1k2 : wr.cell? ⟨w.heap.size + 1, 2, none⟩ = some (.slice none 0 0) := (X1.cell 2).trans rfl
      have X1f0 := X1.frozen 0; have X1f1 := X1.frozen 1; have X1f2 := X1.frozen 2
      have hap : ∀ a, some (⟨g5, 0, none⟩ : Addr) = some a → w.heap.size + 1 ≠ a.block := fun a ha => by cases ha; show w.heap.size + 1 ≠ g5; omega
      have hnw : New w (some ⟨g5, 0, none⟩) := fun a ha => by cases ha; show w.heap.size ≤ g5; omega
      have ho : Own wr (some ⟨g5, 0, none⟩) 34 (flat (mixS l (alV (c : Int) l) (doneG c l (srtG c l).length))) := fun _ => ⟨g5, rest5, rfl, X7⟩
      go_wp2
      refine bodyPost_ret (v := .tuple #[.agg #[.int .i64 (r : Int), .int .i64 (c : Int), .slice (some ⟨g5, 0, none⟩) l.length c5], .bool true]) ?_ rfl ?_; (focus (simp [results, Try.results18, go_sem, *]; done))
      rw [← hl]
      exact PostB.mk (((ho.set_far _ _ hap).set_far _ _ hap).set_far _ _ hap) hnw (by (repeat' (first | (with_reducible exact Below.refl _ _) | (with_reducible assumption) | (with_reducible refine Below.alloc ?_ ?_ _) | (with_reducible refine Below.setCell ?_ ?_ _) | (with_reducible refine Below.drew ?_) | (with_reducible refine below_drewN ?_ _) | (with_reducible refine Below.trans ?_ (Below.mono (by assumption) ?_)) | (with_reducible exact Nat.le_refl _) | (simp; done) | omega | (simp at *; omega))))
end Go.Proofs.Ytdpgbgniejlilaa
namespace Go.Proofs.Ytdpgbgniejlilaa
open Go.ChangeShapes Go.WideShapes Go.ChangeAt Go.RowKit Go.Joins Go.Deep
set_option linter.unusedSimpArgs false
set_option linter.unusedVariables false
set_option maxRecDepth 100000
set_option maxHeartbeats 8000000
def stK (C : Int) (l : List (Int × Int)) (n k : Nat) : List Int := (List.range n).map fun (m : Nat) => stAt C l (m : Int) k
theorem stK_len (C : Int) (l : List (Int × Int)) (n k : Nat) : (stK C l n k).length = n := by simp [stK]
theorem stK_at {C : Int} {l : List (Int × Int)} {n k m : Nat} (h : m < n) : (ints (stK C l n k))[m]? = some (.int .i64 (stAt C l (m : Int) k)) := by
  simp [ints, stK, h]
theorem stK_zero {C : Int} {l : List (Int × Int)} {n : Nat} : ints (stK C l n 0) = fillM n n := by
  unfold fillM stK ints
  apply List.ext_getElem (by simp)
  intro i h1 h2
  simp [stAt, fstG]
theorem stK_same {C : Int} {l : List (Int × Int)} {n k : Nat} (h : ∀ m, m < n → stAt C l (m : Int) (k + 1) = stAt C l (m : Int) k) : stK C l n (k + 1) = stK C l n k := by
  unfold stK
  exact List.map_congr_left fun m hm => h m (List.mem_range.1 hm)
theorem stK_skip {C : Int} {l : List (Int × Int)} {n k : Nat} (h : gearK l k = false) : stK C l n (k + 1) = stK C l n k := stK_same fun _ _ => stAt_other (.inl h)
theorem stK_keep {C : Int} {l : List (Int × Int)} {n k m : Nat} (hm : nmb C l k = (m : Int)) (h : stAt C l (m : Int) (k + 1) = stAt C l (m : Int) k) : stK C l n (k + 1) = stK C l n k := stK_same fun m' _ => by
  by_cases e : m = m'
  · subst e; exact h
  · exact stAt_other (.inr (by omega))
theorem stK_set {C : Int} {l : List (Int × Int)} {n k m : Nat} {s : Int} (hm : nmb C l k = (m : Int)) (h : stAt C l (m : Int) (k + 1) = s) : (ints (stK C l n k)).set m (.int .i64 s) = ints (stK C l n (k + 1)) := by
  apply List.ext_getElem (by simp [ints, stK])
  intro i h1 h2
  rw [List.getElem_set]
  simp only [ints, stK, List.map_map, List.getElem_map, List.getElem_range, Function.comp]
  by_cases e : m = i
  · subst e; rw [if_pos rfl, h]
  · rw [if_neg e, stAt_other (.inr (by omega))]
def upA (l : List (Int × Int)) (k x : Nat) : Bool := decide (x < k) && gearK l x
theorem upA_zero {l : List (Int × Int)} {v : Nat → Int × Int} : mixS l v (upA l 0) = l := by
  rw [show mixS l v (upA l 0) = mixS l v (fun _ => false) from mixS_congr fun x _ => by simp [upA]]
  exact mixS_none
theorem upA_all {l : List (Int × Int)} {v : Nat → Int × Int} : mixS l v (upA l l.length) = mixS l v (gearK l) := mixS_congr fun x hx => by simp [upA, hx]
theorem upA_no {l : List (Int × Int)} {v : Nat → Int × Int} {k : Nat} (h : gearK l k = false) : mixS l v (upA l (k + 1)) = mixS l v (upA l k) := mixS_congr fun x _ => by
  unfold upA
  by_cases e : x = k
  · subst e; rw [h, Bool.and_false, Bool.and_false]
  · have : decide (x < k + 1) = decide (x < k) := by by_cases h1 : x < k <;> simp <;> omega
    rw [this]
theorem upA_yes {l : List (Int × Int)} {v : Nat → Int × Int} {k : Nat} (hk : k < l.length) (h : gearK l k = true) : (mixS l v (upA l k)).set k (v k) = mixS l v (upA l (k + 1)) := mixS_set hk fun x _ => by
  unfold upA
  by_cases e : x = k
  · subst e; rw [h]; simp
  · have : decide (x < k + 1) = decide (x < k) := by by_cases h1 : x < k <;> simp <;> omega
    rw [this]
    have : (x == k) = false := by simpa using e
    rw [this, Bool.or_false]
/-- Setting the state alone. -/
theorem upA_state {C : Int} {l : List (Int × Int)} {k : Nat} {s : Int} {rest : List Value} (hk : k < l.length) (h : (l.getD k (0, 0)).1 = 6) (hs : stAt C l (nmb C l k) l.length = s) :
    (flat (mixS l (alV C l) (upA l k)) ++ rest).set (k * 2 + 1) (.int .i64 s) = flat (mixS l (alV C l) (upA l (k + 1))) ++ rest := by
  have hg : gearK l k = true := by unfold gearK; rw [h]; rfl
  have hl : k < (mixS l (alV C l) (upA l k)).length := by rw [mixS_len]; exact hk
  have e := flat_set (mixS l (alV C l) (upA l k)) k 6 s hl rest
  have ev : alV C l k = (6, s) := by unfold alV; rw [h, hs]
  rw [← ev, upA_yes hk hg] at e
  rw [← e]
  congr 1
  have h0 := (flat_at _ k hl).1
  have hm : (mixS l (alV C l) (upA l k))[k].1 = 6 := by
    rw [mixS_at hl]
    have : upA l k k = false := by simp [upA]
    rw [this]
    exact h
  rw [hm] at h0
  rw [ev] at *
  symm
  apply List.ext_getElem?
  intro i
  rw [List.getElem?_set]
  split
  · rename_i hi
    subst hi
    rw [List.getElem?_append_left (by rw [flat_length]; omega), h0, if_pos (by rw [List.length_append, flat_length]; omega)]
  · rfl
theorem nmb_gear {r c k : Nat} {l : List (Int × Int)} (hG : Geo r c l.length) (hk : k < l.length) (h : (l.getD k (0, 0)).1 = 6) : ∃ m : Nat, nmb (c : Int) l k = (m : Int) ∧ m < (GG (c : Int) l).length := by
  have hA := groups_all hG
  have hJ : J l k = true := by unfold J; rw [h]; rfl
  obtain ⟨g, hg, hxg⟩ := List.mem_flatten.1 (hA.all k hk hJ)
  obtain ⟨t, ht, rfl⟩ := List.getElem_of_mem hg
  have hn := num_is (j := k) _ 0 t hA.apart (List.getElem?_eq_getElem ht)
  rw [Nat.zero_add] at hn
  exact ⟨t, hn.2 hxg, ht⟩
theorem GG_len (c : Nat) (l : List (Int × Int)) : (GG (c : Int) l).length ≤ l.length := by unfold GG; exact gat_len _ _ _ _
end Go.Proofs.Ytdpgbgniejlilaa
namespace Go.Proofs.Ytdpgbgniejlilaa
open Go.ChangeShapes Go.WideShapes Go.ChangeAt Go.RowKit Go.Joins Go.Deep
set_option linter.unusedSimpArgs false
set_option linter.unusedVariables false
set_option maxRecDepth 100000
set_option maxHeartbeats 8000000
def gcn (C : Int) (l : List (Int × Int)) (k : Nat) (m s : Int) : Nat := ((List.range k).filter fun x => gearK l x && decide (nmb C l x = m) && decide ((l.getD x (0, 0)).2 = s)).length
theorem gcn_le (C : Int) (l : List (Int × Int)) (k : Nat) (m s : Int) : gcn C l k m s ≤ k := by
  unfold gcn
  have := List.length_filter_le (fun x => gearK l x && decide (nmb C l x = m) && decide ((l.getD x (0, 0)).2 = s)) (List.range k)
  rw [List.length_range] at this
  exact this
theorem gcn_step (C : Int) (l : List (Int × Int)) (k : Nat) (m s : Int) : gcn C l (k + 1) m s = gcn C l k m s + (if gearK l k && decide (nmb C l k = m) && decide ((l.getD k (0, 0)).2 = s) then 1 else 0) := by
  unfold gcn
  rw [List.range_succ, List.filter_append, List.length_append]
  congr 1
  by_cases h : (gearK l k && decide (nmb C l k = m) && decide ((l.getD k (0, 0)).2 = s)) = true
  · rw [if_pos h]; simp only [List.filter_cons, h, if_true]; rfl
  · rw [if_neg h]; simp only [List.filter_cons, h]; rfl
def gpr (C : Int) (l : List (Int × Int)) (k m : Nat) : List Int := [(gcn C l k m 0 : Int), (gcn C l k m 1 : Int)]
def hdr (P m : Nat) : Value := .slice (some ⟨P + 1 + m, 0, none⟩) 2 2
def hdrs (P n k : Nat) : List Value := (List.range k).map (hdr P) ++ List.replicate (n - k) (.slice none 0 0)
theorem hdrs_set {P n k : Nat} (h : k < n) : (hdrs P n k).set k (hdr P k) = hdrs P n (k + 1) := by
  unfold hdrs
  rw [List.range_succ, List.map_append, List.append_assoc, List.set_append_right k (hdr P k) (by simp)]
  congr 1
  rw [List.length_map, List.length_range, Nat.sub_self, show n - k = (n - (k + 1)) + 1 by omega, List.replicate_succ]
  rfl
theorem hdrs_all (P n : Nat) : hdrs P n n = (List.range n).map (hdr P) := by simp [hdrs]
theorem hdrs_at {P n m : Nat} (h : m < n) : ((List.range n).map (hdr P))[m]? = some (hdr P m) := by simp [h]
theorem hdrs_no {P n k : Nat} (h : k < n) : (hdrs P n k)[k]? = some (.slice none 0 0) := by
  unfold hdrs
  rw [List.getElem?_append_right (by simp), List.length_map, List.length_range, Nat.sub_self, List.getElem?_replicate, if_pos (by omega)]
def zlist (n : Nat) : List Value := List.replicate n (.slice none 0 0)
theorem made_lists (n : Nat) : madeCells (Value.slice none 0 0).cells (n * 1) = (zlist n).toArray := by
  apply Array.ext
  · simp [madeCells, zlist]
  · intro i h1 h2
    simp [madeCells, zlist, Value.cells, Nat.mod_one]
theorem run_make_lists (n : Nat) (hn : n ≤ 1048576) (w : World) :
    (Instr.makeSlice 60 (.int .i64 (n : Int)) (.int .i64 (n : Int))).run Try.prog w = .ok (.slice (some ⟨w.heap.size, 0, none⟩) n n) (w.alloc (.cells (zlist n).toArray 55)) := by
  obtain ⟨i0, hi, hz0, hz1, hz2⟩ := info_parts listInfo
  have h := run_make (P := Try.prog) w 60 55 i0 _ Try.underlying60 hi hz0 .i64 .i64 (n : Int) (n : Int) (by omega) (by omega) (by rw [hz2]; omega) (by omega)
  rw [hz1] at h
  simp only [Int.toNat_natCast] at h
  rw [h, made_lists]
/-- n pairs of numbers, the block of each behind the blocks of those before it. -/
def GRow (w : World) (P n : Nat) (f : Nat → List Int) : Prop := Whole w P 55 ((List.range n).map (hdr P)) ∧ ∀ m, m < n → Whole w (P + 1 + m) 3 (ints (f m))
theorem GRow.keep {w w' : World} {P n : Nat} {f : Nat → List Int} (h : GRow w P n f) (hb : Below w.heap.size w w') : GRow w' P n f :=
  ⟨h.1.below hb h.1.lt, fun m hm => (h.2 m hm).below hb (h.2 m hm).lt⟩
theorem GRow.below {w w' : World} {P n B : Nat} {f : Nat → List Int} (h : GRow w P n f) (hb : Below B w w') (hB : P + 1 + n ≤ B) : GRow w' P n f :=
  ⟨h.1.below hb (by omega), fun m hm => (h.2 m hm).below hb (by omega)⟩
theorem GRow.congr {w : World} {P n : Nat} {f g : Nat → List Int} (h : GRow w P n f) (e : ∀ m, m < n → f m = g m) : GRow w P n g :=
  ⟨h.1, fun m hm => by rw [← e m hm]; exact h.2 m hm⟩
theorem GRow.set {w : World} {P n m j : Nat} {f g : Nat → List Int} {x : Int} (h : GRow w P n f) (e : (ints (f m)).set j (.int .i64 x) = ints (g m)) (e' : ∀ m', m' < n → m' ≠ m → f m' = g m') : GRow (w.setCell ⟨P + 1 + m, j, none⟩ (.int .i64 x)) P n g := by
  refine ⟨h.1.set_far _ _ (by show P + 1 + m ≠ P; omega), fun m' hm' => ?_⟩
  by_cases q : m' = m
  · subst q
    rw [← e]
    exact (h.2 m' hm').set _ _
  · rw [← e' m' hm' q]
    exact (h.2 m' hm').set_far _ _ (by show P + 1 + m ≠ P + 1 + m'; omega)
theorem gpr_zero {C : Int} {l : List (Int × Int)} {m : Nat} : gpr C l 0 m = [0, 0] := rfl
theorem gpr_skip {C : Int} {l : List (Int × Int)} {k m : Nat} (h : gearK l k = false ∨ ¬ nmb C l k = (m : Int)) : gpr C l k m = gpr C l (k + 1) m := by
  have e : (gearK l k && decide (nmb C l k = (m : Int))) = false := by
    rcases h with h | h
    · rw [h, Bool.false_and]
    · rw [decide_eq_false h, Bool.and_false]
  unfold gpr
  rw [gcn_step, gcn_step, e]
  rfl
theorem gpr_0 {C : Int} {l : List (Int × Int)} {k m : Nat} (h : gearK l k = true) (hm : nmb C l k = (m : Int)) (hs : (l.getD k (0, 0)).2 = 0) : (ints (gpr C l k m)).set 0 (.int .i64 ((gcn C l k m 0 : Int) + 1)) = ints (gpr C l (k + 1) m) := by
  unfold gpr
  rw [gcn_step, gcn_step, h, decide_eq_true hm, hs]
  rfl
theorem gpr_1 {C : Int} {l : List (Int × Int)} {k m : Nat} (h : gearK l k = true) (hm : nmb C l k = (m : Int)) (hs : (l.getD k (0, 0)).2 = 1) : (ints (gpr C l k m)).set 1 (.int .i64 ((gcn C l k m 1 : Int) + 1)) = ints (gpr C l (k + 1) m) := by
  unfold gpr
  rw [gcn_step, gcn_step, h, decide_eq_true hm, hs]
  rfl
theorem good_state {r c : Int} {l : List (Int × Int)} (hg : goodB r c l = true) : ∀ y, y < l.length → (l.getD y (0, 0)).2 = 0 ∨ (l.getD y (0, 0)).2 = 1 := by
  intro y hy
  have h := (goodB_iff.1 hg).2.2 _ (List.getElem_mem hy)
  rw [List.getD_eq_getElem?_getD, List.getElem?_eq_getElem hy]
  show l[y].2 = 0 ∨ l[y].2 = 1
  unfold good at h
  simp at h
  omega
theorem gpr_len (C : Int) (l : List (Int × Int)) (k m : Nat) : (ints (gpr C l k m)).length = 2 := rfl
end Go.Proofs.Ytdpgbgniejlilaa
