/- CutRows, program and model; a piece of a list in memory. -/
import Derived.Test.YtpfjbecpfdgnpaaPut
namespace Go.Proofs.Ytpfjbecpfdgnpaa
open Go.ChangeShapes Go.WideShapes Go.ChangeAt Go.RowKit Go.Joins Go.Deep
set_option linter.unusedSimpArgs false
set_option linter.unusedVariables false
set_option maxRecDepth 100000
set_option maxHeartbeats 1000000
def cutIn (R f t : Int) : Bool := decide (0 ≤ f ∧ f < t ∧ t ≤ R)
def okCut (R C : Int) (l : List (Int × Int)) (f t : Int) : Bool := goodB R C l && cutIn R f t
def piece (l : List (Int × Int)) (p q : Nat) : List (Int × Int) := (l.drop p).take (q - p)
def cutL (R C : Int) (l : List (Int × Int)) (f t : Int) : List (Int × Int) := if okCut R C l f t then piece l (f * C).toNat (t * C).toNat else []
theorem piece_len {l : List (Int × Int)} {p q : Nat} (hq : q ≤ l.length) : (piece l p q).length = q - p := by
  unfold piece
  rw [List.length_take, List.length_drop]
  omega
theorem cutL_len (R C : Int) (l : List (Int × Int)) (f t : Int) (h : l.length ≤ 1048576) : (cutL R C l f t).length ≤ 1048576 := by
  unfold cutL piece
  split
  · rw [List.length_take, List.length_drop]; omega
  · simp
theorem flat_drop (l : List (Int × Int)) (p : Nat) : flat (l.drop p) = (flat l).drop (p * 2) := by
  induction p generalizing l with
  | zero => rfl
  | succ p ih =>
    cases l with
    | nil => simp [flat]
    | cons c l =>
      rw [List.drop_succ_cons, ih, show (p + 1) * 2 = p * 2 + 1 + 1 by omega]
      rfl
theorem piece_rd {w : World} {B b o : Nat} {l : List (Int × Int)} {p q : Nat} (hr : Rd w B (some ⟨b, o, none⟩) (flat l)) (hq : q ≤ l.length) (hpq : p < q) : Rd w B (some ⟨b, o + p * 2, none⟩) (flat (piece l p q)) := by
  intro _
  obtain ⟨b', o', e, hlt, hc⟩ := hr (by rw [flat_length]; omega)
  cases e
  refine ⟨b, o + p * 2, rfl, hlt, fun j u hj => ?_⟩
  have hl := flat_length (piece l p q)
  rw [piece_len hq] at hl
  have hj' := (List.getElem?_eq_some_iff.1 hj).1
  rw [Nat.add_assoc]
  refine hc (p * 2 + j) u ?_
  rw [← List.getElem?_drop, ← flat_drop, ← hj]
  have e1 : l.drop p = piece l p q ++ (l.drop p).drop (q - p) := (List.take_append_drop (q - p) (l.drop p)).symm
  rw [e1, flat_append, List.getElem?_append_left hj']
theorem cut_bound {R C : Int} {l : List (Int × Int)} {f t : Int} (hg : goodB R C l = true) (hc : cutIn R f t = true) :
    (f * C).toNat < (t * C).toNat ∧ (t * C).toNat ≤ l.length ∧ l.length ≤ 90 ∧ IntKind.i64.wrap (f * C) = ((f * C).toNat : Int) ∧ IntKind.i64.wrap (t * C) = ((t * C).toNat : Int) := by
  obtain ⟨hs, hl, _⟩ := goodB_iff.1 hg
  unfold cutIn at hc
  rw [decide_eq_true_eq] at hc
  have hm := mul_bound hs
  obtain ⟨s1, s2, s3, s4⟩ := sizeB_iff.1 hs
  have h1 : f * C < t * C := Int.mul_lt_mul_of_pos_right (by omega) (by omega)
  have h2 : t * C ≤ R * C := Int.mul_le_mul_of_nonneg_right (by omega) (by omega)
  have h3 : 0 ≤ f * C := Int.mul_nonneg (by omega) (by omega)
  refine ⟨by omega, by omega, by omega, ?_, ?_⟩
  · rw [IntWalk.i64_in (f * C) (by omega)]; omega
  · rw [IntWalk.i64_in (t * C) (by omega)]; omega
theorem spec_CutRows_yes (R C : Int) (A : Option Addr) (cap : Nat) (l : List (Int × Int)) (f t : Int) (w : World) (hg : goodB R C l = true) (hci : cutIn R f t = true) (hn : l.length ≤ 1048576) (hr : Rd w w.heap.size A (flat l)) (hcap : l.length ≤ cap) : Calls Try.prog 28 #[.agg #[.int .i64 R, .int .i64 C, .slice A l.length cap], .int .i64 f, .int .i64 t] w (PostB w (t - f) C (piece l (f * C).toNat (t * C).toNat) true) := by
  obtain ⟨i0, hi, hz0, hz1, hz2⟩ := info_parts cellInfo
  obtain ⟨hpq, hql, h90, m1, m2⟩ := cut_bound hg hci
  obtain ⟨b, o, rfl, hbl, hc⟩ := hr (by rw [flat_length]; omega)
  have hr' : Rd w w.heap.size (some ⟨b, o, none⟩) (flat l) := fun _ => ⟨b, o, rfl, hbl, hc⟩
  have HG := Lib.hid hg
  obtain ⟨hs, _, _⟩ := goodB_iff.1 hg
  obtain ⟨s1, s2, s3, s4⟩ := sizeB_iff.1 hs
  have hci' := hci
  unfold cutIn at hci'
  rw [decide_eq_true_eq] at hci'
  obtain ⟨c1, c2, c3⟩ := hci'
  have L1 := Lib.hid (show (decide (0 ≤ f) && decide (f ≤ R - 1)) = true by simp; omega)
  have L2 := Lib.hid (show (decide (f + 1 ≤ t) && decide (t ≤ R)) = true by simp; omega)
  have hP := Lib.hid (piece_rd hr' hql hpq)
  have hL := Lib.hid (piece_len (l := l) (p := (f * C).toNat) hql)
  clear hr hc hg hci hs
  generalize (f * C).toNat = p at *
  generalize (t * C).toNat = q at *
  have m3 : IntKind.i64.wrap (t - f) = t - f := IntWalk.i64_in (t - f) (by omega)
  have hne : ¬ cap = p := by omega
  have hpc : p ≤ q := by omega
  have hqc : q ≤ cap := by omega
  go_enter Try.func28, Try.ntmps28
  obtain ⟨v0, hv0, X0, X1, B0, hz0⟩ := two_boxes w [.int .i64 R, .int .i64 C, .slice (some ⟨b, o, none⟩) l.length cap] 25 [.int .i64 0, .int .i64 0, .slice none 0 0] 25; have HV := Lib.hid hv0; have hz : w.heap.size + 1 < v0.heap.size := (by omega); have hy : w.heap.size < v0.heap.size := (by omega); have hb0 := B0.size; clear hv0 hz0; go_wp2_with fail; rewrite [show (w.alloc (.cells ([.int .i64 R, .int .i64 C, .slice (some ⟨b, o, none⟩) l.length cap] : List Value).toArray 25)).alloc (.cells ([.int .i64 0, .int .i64 0, .slice none 0 0] : List Value).toArray 25) = v0 from HV.out]; clear HV
  refine (spec_boGood _ _ _ _ l _ hn ((hr'.below B0).mono B0.size)).mono ?_; rintro e w1 ⟨rfl, b1⟩
  rewrite [HG.out]
  replace X0 := X0.below b1 X0.lt; replace X1 := X1.below b1 X1.lt; replace B0 := B0.trans (b1.mono B0.size); have hy := X0.lt; have hz := X1.lt; have hb0 := B0.size; clear b1
  have X0k0 : w1.cell? ⟨w.heap.size, 0, none⟩ = some (.int .i64 R) := (X0.cell 0).trans rfl; have X0k1 : w1.cell? ⟨w.heap.size, 1, none⟩ = some (.int .i64 C) := (X0.cell 1).trans rfl; have X0k2 : w1.cell? ⟨w.heap.size, 2, none⟩ = some (.slice (some ⟨b, o, none⟩) l.length cap) := (X0.cell 2).trans rfl
  go_wp2_with fail
  refine (spec_l1In _ _ _ _).mono ?_; rintro e w2 ⟨rfl, rfl⟩
  rewrite [L1.out]
  go_wp2_with fail
  refine (spec_l1In _ _ _ _).mono ?_; rintro e w2 ⟨rfl, rfl⟩
  rewrite [L2.out]
  go_wp2_with fail
  have hyb : w.heap.size < w.heap.size + 1 := Nat.lt_succ_self _
  have KS := Lib.hid (fun (w' : World) (h : Below (w.heap.size + 1) w1 w') => (⟨(h.cell (p := ⟨w.heap.size, 0, none⟩) hyb).trans X0k0, (h.cell (p := ⟨w.heap.size, 1, none⟩) hyb).trans X0k1, (h.cell (p := ⟨w.heap.size, 2, none⟩) hyb).trans X0k2⟩ : w'.cell? ⟨w.heap.size, 0, none⟩ = some (.int .i64 R) ∧ w'.cell? ⟨w.heap.size, 1, none⟩ = some (.int .i64 C) ∧ w'.cell? ⟨w.heap.size, 2, none⟩ = some (.slice (some ⟨b, o, none⟩) l.length cap)))
  go_region_held3 (fun w' => w'.cell? ⟨w.heap.size, 0, none⟩ = some (.int .i64 R) ∧ w'.cell? ⟨w.heap.size, 1, none⟩ = some (.int .i64 C) ∧ w'.cell? ⟨w.heap.size, 2, none⟩ = some (.slice (some ⟨b, o, none⟩) l.length cap))
    (first | exact KS.out _ (by (repeat' (first | (with_reducible exact Below.refl _ _) | (with_reducible assumption) | (with_reducible refine Below.alloc ?_ ?_ _) | (with_reducible refine Below.setCell ?_ ?_ _) | (with_reducible refine Below.drew ?_) | (with_reducible refine below_drewN ?_ _) | (with_reducible refine Below.trans ?_ (Below.mono (by assumption) ?_)) | (with_reducible exact Nat.le_refl _) | (simp; done) | omega | (simp at *; omega)))))
    ((first | (refine step_append_lies _ (by rfl) _ _ _ (by rfl) w1.heap.size 27 i0 _ 2 16 Try.underlying23 hi hz0 hz1 hz2 rfl (by omega) _ 0 [] (by rfl) (row_empty w1.drew _ _) ⟨b, o + p * 2, none⟩ (q - p) (cap - p) (flat (piece l p q)) (by rfl) (by rw [flat_length, hL.out]; omega) (rd_news hP.out (by (repeat' (first | (with_reducible exact Below.refl _ _) | (with_reducible assumption) | (with_reducible refine Below.alloc ?_ ?_ _) | (with_reducible refine Below.setCell ?_ ?_ _) | (with_reducible refine Below.drew ?_) | (with_reducible refine below_drewN ?_ _) | (with_reducible refine Below.trans ?_ (Below.mono (by assumption) ?_)) | (with_reducible exact Nat.le_refl _) | (simp; done) | omega | (simp at *; omega))))) (flat_one _) (by omega) (by unfold maxLen; omega) (by omega) (by simp) (w1.heap.size + 1) (by simp) ?_; intro gg cap1 w2 hown1 hg1 hat1 hlt1; have hb1 : Below w1.heap.size w1 w2 := row_below (row_empty w1.drew _ 2) (((Below.refl _ _).drew).alloc (Nat.le_refl _) _) (by simp) hg1; have x2 := X1.below hb1 hz; have x2k0 : w2.cell? ⟨w.heap.size + 1, 0, none⟩ = some (.int .i64 0) := (x2.cell 0).trans rfl; have x2k1 : w2.cell? ⟨w.heap.size + 1, 1, none⟩ = some (.int .i64 0) := (x2.cell 1).trans rfl; have x2k2 : w2.cell? ⟨w.heap.size + 1, 2, none⟩ = some (.slice none 0 0) := (x2.cell 2).trans rfl; have x2f0 := x2.frozen 0; have x2f1 := x2.frozen 1; have x2f2 := x2.frozen 2)))
  rw [Nat.zero_add, List.nil_append] at hown1
  have ho := own_of_row hown1
  have B1 : Below w.heap.size w w2 := B0.trans (hb1.mono hb0)
  have hap : ∀ a : Addr, some (⟨gg, 0, none⟩ : Addr) = some a → w.heap.size + 1 ≠ a.block := fun a ha => by have h := ho.2 a ha; omega
  clear hat1 hg1 hown1 hb1 x2 X0 X1 X0k0 X0k1 X0k2 KS
  go_wp2
  refine bodyPost_ret (v := .tuple #[.agg #[.int .i64 (t - f), .int .i64 C, .slice (some ⟨gg, 0, none⟩) (q - p) cap1], .bool true]) ?_ rfl ?_; (focus (simp [results, Try.results28, go_sem, *]; done))
  rw [← hL.out]
  exact PostB.mk (((ho.1.set_far _ _ hap).set_far _ _ hap).set_far _ _ hap) (fun a ha => by have := ho.2 a ha; omega) (by (repeat' (first | (with_reducible exact Below.refl _ _) | (with_reducible assumption) | (with_reducible refine Below.alloc ?_ ?_ _) | (with_reducible refine Below.setCell ?_ ?_ _) | (with_reducible refine Below.drew ?_) | (with_reducible refine below_drewN ?_ _) | (with_reducible refine Below.trans ?_ (Below.mono (by assumption) ?_)) | (with_reducible exact Nat.le_refl _) | (simp; done) | omega | (simp at *; omega))))
theorem spec_CutRows_bad (R C : Int) (A : Option Addr) (cap : Nat) (l : List (Int × Int)) (f t : Int) (w : World) (hg : goodB R C l = false) (hn : l.length ≤ 1048576) (hr : Rd w w.heap.size A (flat l)) : Calls Try.prog 28 #[.agg #[.int .i64 R, .int .i64 C, .slice A l.length cap], .int .i64 f, .int .i64 t] w (PostB w 0 0 [] false) := by
  have HG := Lib.hid hg
  clear hg
  go_enter Try.func28, Try.ntmps28
  obtain ⟨v0, hv0, X0, X1, B0, hz0⟩ := two_boxes w [.int .i64 R, .int .i64 C, .slice A l.length cap] 25 [.int .i64 0, .int .i64 0, .slice none 0 0] 25; have HV := Lib.hid hv0; have hz : w.heap.size + 1 < v0.heap.size := (by omega); have hy : w.heap.size < v0.heap.size := (by omega); have hb0 := B0.size; clear hv0 hz0; go_wp2_with fail; rewrite [show (w.alloc (.cells ([.int .i64 R, .int .i64 C, .slice A l.length cap] : List Value).toArray 25)).alloc (.cells ([.int .i64 0, .int .i64 0, .slice none 0 0] : List Value).toArray 25) = v0 from HV.out]; clear HV
  refine (spec_boGood _ _ _ _ l _ hn ((hr.below B0).mono B0.size)).mono ?_; rintro e w1 ⟨rfl, b1⟩
  rewrite [HG.out]
  replace X0 := X0.below b1 X0.lt; replace X1 := X1.below b1 X1.lt; replace B0 := B0.trans (b1.mono B0.size); have hy := X0.lt; have hz := X1.lt; have hb0 := B0.size; clear b1
  have X1k0 : w1.cell? ⟨w.heap.size + 1, 0, none⟩ = some (.int .i64 0) := (X1.cell 0).trans rfl; have X1k1 : w1.cell? ⟨w.heap.size + 1, 1, none⟩ = some (.int .i64 0) := (X1.cell 1).trans rfl; have X1k2 : w1.cell? ⟨w.heap.size + 1, 2, none⟩ = some (.slice none 0 0) := (X1.cell 2).trans rfl
  have X1f0 := X1.frozen 0; have X1f1 := X1.frozen 1; have X1f2 := X1.frozen 2
  go_wp2
  refine bodyPost_ret (v := .tuple #[.agg #[.int .i64 0, .int .i64 0, .slice none 0 0], .bool false]) ?_ rfl ?_; (focus (simp [results, Try.results28, go_sem, *]; done))
  exact PostB.none_ (by (repeat' (first | (with_reducible exact Below.refl _ _) | (with_reducible assumption) | (with_reducible refine Below.alloc ?_ ?_ _) | (with_reducible refine Below.setCell ?_ ?_ _) | (with_reducible refine Below.drew ?_) | (with_reducible refine below_drewN ?_ _) | (with_reducible refine Below.trans ?_ (Below.mono (by assumption) ?_)) | (with_reducible exact Nat.le_refl _) | (simp; done) | omega | (simp at *; omega))))
theorem spec_CutRows_out (R C : Int) (A : Option Addr) (cap : Nat) (l : List (Int × Int)) (f t : Int) (w : World) (hg : goodB R C l = true) (hci : cutIn R f t = false) (hwf : (Lit.int .i64 f).wf = true) (hn : l.length ≤ 1048576) (hr : Rd w w.heap.size A (flat l)) : Calls Try.prog 28 #[.agg #[.int .i64 R, .int .i64 C, .slice A l.length cap], .int .i64 f, .int .i64 t] w (PostB w 0 0 [] false) := by
  have HG := Lib.hid hg
  obtain ⟨hs, _, _⟩ := goodB_iff.1 hg
  obtain ⟨s1, s2, s3, s4⟩ := sizeB_iff.1 hs
  clear hg hs
  rcases Bool.eq_false_or_eq_true (decide (0 ≤ f) && decide (f ≤ R - 1)) with l1 | l1
  · have l2 : (decide (f + 1 ≤ t) && decide (t ≤ R)) = false := by
      unfold cutIn at hci
      simp at hci l1 ⊢
      omega
    have hf : 0 ≤ f ∧ f ≤ 9 := by simp at l1; omega
    obtain ⟨hf0, hf1⟩ := hf
    have L1 := Lib.hid l1
    have L2 := Lib.hid l2
    clear l1 l2 hci
    go_enter Try.func28, Try.ntmps28
    obtain ⟨v0, hv0, X0, X1, B0, hz0⟩ := two_boxes w [.int .i64 R, .int .i64 C, .slice A l.length cap] 25 [.int .i64 0, .int .i64 0, .slice none 0 0] 25; have HV := Lib.hid hv0; have hz : w.heap.size + 1 < v0.heap.size := (by omega); have hy : w.heap.size < v0.heap.size := (by omega); have hb0 := B0.size; clear hv0 hz0; go_wp2_with fail; rewrite [show (w.alloc (.cells ([.int .i64 R, .int .i64 C, .slice A l.length cap] : List Value).toArray 25)).alloc (.cells ([.int .i64 0, .int .i64 0, .slice none 0 0] : List Value).toArray 25) = v0 from HV.out]; clear HV
    refine (spec_boGood _ _ _ _ l _ hn ((hr.below B0).mono B0.size)).mono ?_; rintro e w1 ⟨rfl, b1⟩
    rewrite [HG.out]
    replace X0 := X0.below b1 X0.lt; replace X1 := X1.below b1 X1.lt; replace B0 := B0.trans (b1.mono B0.size); have hy := X0.lt; have hz := X1.lt; have hb0 := B0.size; clear b1
    have X0k0 : w1.cell? ⟨w.heap.size, 0, none⟩ = some (.int .i64 R) := (X0.cell 0).trans rfl; have X0k1 : w1.cell? ⟨w.heap.size, 1, none⟩ = some (.int .i64 C) := (X0.cell 1).trans rfl; have X0k2 : w1.cell? ⟨w.heap.size, 2, none⟩ = some (.slice A l.length cap) := (X0.cell 2).trans rfl
    have X1k0 : w1.cell? ⟨w.heap.size + 1, 0, none⟩ = some (.int .i64 0) := (X1.cell 0).trans rfl; have X1k1 : w1.cell? ⟨w.heap.size + 1, 1, none⟩ = some (.int .i64 0) := (X1.cell 1).trans rfl; have X1k2 : w1.cell? ⟨w.heap.size + 1, 2, none⟩ = some (.slice none 0 0) := (X1.cell 2).trans rfl
    have X1f0 := X1.frozen 0; have X1f1 := X1.frozen 1; have X1f2 := X1.frozen 2
    go_wp2_with fail
    refine (spec_l1In _ _ _ _).mono ?_; rintro e w2 ⟨rfl, rfl⟩
    rewrite [L1.out]
    go_wp2_with fail
    refine (spec_l1In _ _ _ _).mono ?_; rintro e w2 ⟨rfl, rfl⟩
    rewrite [L2.out]
    go_wp2
    refine bodyPost_ret (v := .tuple #[.agg #[.int .i64 0, .int .i64 0, .slice none 0 0], .bool false]) ?_ rfl ?_; (focus (simp [results, Try.results28, go_sem, *]; done))
    exact PostB.none_ (by (repeat' (first | (with_reducible exact Below.refl _ _) | (with_reducible assumption) | (with_reducible refine Below.alloc ?_ ?_ _) | (with_reducible refine Below.setCell ?_ ?_ _) | (with_reducible refine Below.drew ?_) | (with_reducible refine below_drewN ?_ _) | (with_reducible refine Below.trans ?_ (Below.mono (by assumption) ?_)) | (with_reducible exact Nat.le_refl _) | (simp; done) | omega | (simp at *; omega))))
  · have L1 := Lib.hid l1
    clear l1 hci
    go_enter Try.func28, Try.ntmps28
    obtain ⟨v0, hv0, X0, X1, B0, hz0⟩ := two_boxes w [.int .i64 R, .int .i64 C, .slice A l.length cap] 25 [.int .i64 0, .int .i64 0, .slice none 0 0] 25; have HV := Lib.hid hv0; have hz : w.heap.size + 1 < v0.heap.size := (by omega); have hy : w.heap.size < v0.heap.size := (by omega); have hb0 := B0.size; clear hv0 hz0; go_wp2_with fail; rewrite [show (w.alloc (.cells ([.int .i64 R, .int .i64 C, .slice A l.length cap] : List Value).toArray 25)).alloc (.cells ([.int .i64 0, .int .i64 0, .slice none 0 0] : List Value).toArray 25) = v0 from HV.out]; clear HV
    refine (spec_boGood _ _ _ _ l _ hn ((hr.below B0).mono B0.size)).mono ?_; rintro e w1 ⟨rfl, b1⟩
    rewrite [HG.out]
    replace X0 := X0.below b1 X0.lt; replace X1 := X1.below b1 X1.lt; replace B0 := B0.trans (b1.mono B0.size); have hy := X0.lt; have hz := X1.lt; have hb0 := B0.size; clear b1
    have X0k0 : w1.cell? ⟨w.heap.size, 0, none⟩ = some (.int .i64 R) := (X0.cell 0).trans rfl; have X0k1 : w1.cell? ⟨w.heap.size, 1, none⟩ = some (.int .i64 C) := (X0.cell 1).trans rfl; have X0k2 : w1.cell? ⟨w.heap.size, 2, none⟩ = some (.slice A l.length cap) := (X0.cell 2).trans rfl
    have X1k0 : w1.cell? ⟨w.heap.size + 1, 0, none⟩ = some (.int .i64 0) := (X1.cell 0).trans rfl; have X1k1 : w1.cell? ⟨w.heap.size + 1, 1, none⟩ = some (.int .i64 0) := (X1.cell 1).trans rfl; have X1k2 : w1.cell? ⟨w.heap.size + 1, 2, none⟩ = some (.slice none 0 0) := (X1.cell 2).trans rfl
    have X1f0 := X1.frozen 0; have X1f1 := X1.frozen 1; have X1f2 := X1.frozen 2
    go_wp2_with fail
    refine (spec_l1In _ _ _ _).mono ?_; rintro e w2 ⟨rfl, rfl⟩
    rewrite [L1.out]
    go_wp2
    refine bodyPost_ret (v := .tuple #[.agg #[.int .i64 0, .int .i64 0, .slice none 0 0], .bool false]) ?_ rfl ?_; (focus (simp [results, Try.results28, go_sem, *]; done))
    exact PostB.none_ (by (repeat' (first | (with_reducible exact Below.refl _ _) | (with_reducible assumption) | (with_reducible refine Below.alloc ?_ ?_ _) | (with_reducible refine Below.setCell ?_ ?_ _) | (with_reducible refine Below.drew ?_) | (with_reducible refine below_drewN ?_ _) | (with_reducible refine Below.trans ?_ (Below.mono (by assumption) ?_)) | (with_reducible exact Nat.le_refl _) | (simp; done) | omega | (simp at *; omega))))
theorem cutB_post {w w' : World} {R C : Int} {l : List (Int × Int)} {f t : Int} {e : Ending} {ok : Bool} (h : okCut R C l f t = ok) (hp : if ok then PostB w (t - f) C (piece l (f * C).toNat (t * C).toNat) true e w' else PostB w 0 0 [] false e w') :
    PostB w (selI (okCut R C l f t) (t - f)) (selI (okCut R C l f t) C) (cutL R C l f t) (okCut R C l f t) e w' := by
  unfold cutL
  rw [h]
  cases ok
  · exact hp
  · exact hp
theorem spec_CutRows (R C : Int) (A : Option Addr) (cap : Nat) (l : List (Int × Int)) (f t : Int) (w : World) (hn : l.length ≤ 1048576) (hr : Rd w w.heap.size A (flat l)) (hcap : l.length ≤ cap) (hwf : (Lit.int .i64 f).wf = true) :
    Calls Try.prog 28 #[.agg #[.int .i64 R, .int .i64 C, .slice A l.length cap], .int .i64 f, .int .i64 t] w (PostB w (selI (okCut R C l f t) (t - f)) (selI (okCut R C l f t) C) (cutL R C l f t) (okCut R C l f t)) := by
  rcases Bool.eq_false_or_eq_true (goodB R C l) with hg | hg
  · rcases Bool.eq_false_or_eq_true (cutIn R f t) with hc | hc
    · exact (spec_CutRows_yes R C A cap l f t w hg hc hn hr hcap).mono fun e w' h => cutB_post (ok := true) (by unfold okCut; rw [hg, hc]; rfl) h
    · exact (spec_CutRows_out R C A cap l f t w hg hc hwf hn hr).mono fun e w' h => cutB_post (ok := false) (by unfold okCut; rw [hc, Bool.and_false]) h
  · exact (spec_CutRows_bad R C A cap l f t w hg hn hr).mono fun e w' h => cutB_post (ok := false) (by unfold okCut; rw [hg]; rfl) h
theorem impl_CutRows_bad (R C : Int) (A : Option Addr) (cap : Nat) (l : List (Int × Int)) (f t : Int) (w : World) (hg : goodB R C l = false) (hn : l.length ≤ 1048576) (hr : Rd w w.heap.size A (flat l)) : Calls Try.prog 27 #[.agg #[.int .i64 R, .int .i64 C, .slice A l.length cap], .int .i64 f, .int .i64 t] w (PostB w 0 0 [] false) := by
  have HG := Lib.hid hg
  clear hg
  go_enter Try.func27, Try.ntmps27
  obtain ⟨v0, hv0, X0, X1, B0, hz0⟩ := two_boxes w [.int .i64 R, .int .i64 C, .slice A l.length cap] 25 [.int .i64 0, .int .i64 0, .slice none 0 0] 25; have HV := Lib.hid hv0; have hz : w.heap.size + 1 < v0.heap.size := (by omega); have hy : w.heap.size < v0.heap.size := (by omega); have hb0 := B0.size; clear hv0 hz0; go_wp2_with fail; rewrite [show (w.alloc (.cells ([.int .i64 R, .int .i64 C, .slice A l.length cap] : List Value).toArray 25)).alloc (.cells ([.int .i64 0, .int .i64 0, .slice none 0 0] : List Value).toArray 25) = v0 from HV.out]; clear HV
  refine (impl_IsBoard _ _ _ _ l _ hn ((hr.below B0).mono B0.size)).mono ?_; rintro e w1 ⟨rfl, b1⟩
  rewrite [HG.out]
  replace X0 := X0.below b1 X0.lt; replace X1 := X1.below b1 X1.lt; replace B0 := B0.trans (b1.mono B0.size); have hy := X0.lt; have hz := X1.lt; have hb0 := B0.size; clear b1
  have X1k0 : w1.cell? ⟨w.heap.size + 1, 0, none⟩ = some (.int .i64 0) := (X1.cell 0).trans rfl; have X1k1 : w1.cell? ⟨w.heap.size + 1, 1, none⟩ = some (.int .i64 0) := (X1.cell 1).trans rfl; have X1k2 : w1.cell? ⟨w.heap.size + 1, 2, none⟩ = some (.slice none 0 0) := (X1.cell 2).trans rfl
  have X1f0 := X1.frozen 0; have X1f1 := X1.frozen 1; have X1f2 := X1.frozen 2
  go_wp2
  refine bodyPost_ret (v := .tuple #[.agg #[.int .i64 0, .int .i64 0, .slice none 0 0], .bool false]) ?_ rfl ?_; (focus (simp [results, Try.results27, go_sem, *]; done))
  exact PostB.none_ (by (repeat' (first | (with_reducible exact Below.refl _ _) | (with_reducible assumption) | (with_reducible refine Below.alloc ?_ ?_ _) | (with_reducible refine Below.setCell ?_ ?_ _) | (with_reducible refine Below.drew ?_) | (with_reducible refine below_drewN ?_ _) | (with_reducible refine Below.trans ?_ (Below.mono (by assumption) ?_)) | (with_reducible exact Nat.le_refl _) | (simp; done) | omega | (simp at *; omega))))
theorem impl_CutRows_out (R C : Int) (A : Option Addr) (cap : Nat) (l : List (Int × Int)) (f t : Int) (w : World) (hg : goodB R C l = true) (hci : cutIn R f t = false) (hwf : (Lit.int .i64 f).wf = true) (hn : l.length ≤ 1048576) (hr : Rd w w.heap.size A (flat l)) : Calls Try.prog 27 #[.agg #[.int .i64 R, .int .i64 C, .slice A l.length cap], .int .i64 f, .int .i64 t] w (PostB w 0 0 [] false) := by
  have HG := Lib.hid hg
  have HC := Lib.hid hci
  clear hg hci
  go_enter Try.func27, Try.ntmps27
  obtain ⟨v0, hv0, X0, X1, B0, hz0⟩ := two_boxes w [.int .i64 R, .int .i64 C, .slice A l.length cap] 25 [.int .i64 0, .int .i64 0, .slice none 0 0] 25; have HV := Lib.hid hv0; have hz : w.heap.size + 1 < v0.heap.size := (by omega); have hy : w.heap.size < v0.heap.size := (by omega); have hb0 := B0.size; clear hv0 hz0; go_wp2_with fail; rewrite [show (w.alloc (.cells ([.int .i64 R, .int .i64 C, .slice A l.length cap] : List Value).toArray 25)).alloc (.cells ([.int .i64 0, .int .i64 0, .slice none 0 0] : List Value).toArray 25) = v0 from HV.out]; clear HV
  refine (impl_IsBoard _ _ _ _ l _ hn ((hr.below B0).mono B0.size)).mono ?_; rintro e w1 ⟨rfl, b1⟩
  rewrite [HG.out]
  replace X0 := X0.below b1 X0.lt; replace X1 := X1.below b1 X1.lt; replace B0 := B0.trans (b1.mono B0.size); have hy := X0.lt; have hz := X1.lt; have hb0 := B0.size; clear b1
  have X0k0 : w1.cell? ⟨w.heap.size, 0, none⟩ = some (.int .i64 R) := (X0.cell 0).trans rfl; have X0k1 : w1.cell? ⟨w.heap.size, 1, none⟩ = some (.int .i64 C) := (X0.cell 1).trans rfl; have X0k2 : w1.cell? ⟨w.heap.size, 2, none⟩ = some (.slice A l.length cap) := (X0.cell 2).trans rfl
  have X1k0 : w1.cell? ⟨w.heap.size + 1, 0, none⟩ = some (.int .i64 0) := (X1.cell 0).trans rfl; have X1k1 : w1.cell? ⟨w.heap.size + 1, 1, none⟩ = some (.int .i64 0) := (X1.cell 1).trans rfl; have X1k2 : w1.cell? ⟨w.heap.size + 1, 2, none⟩ = some (.slice none 0 0) := (X1.cell 2).trans rfl
  have X1f0 := X1.frozen 0; have X1f1 := X1.frozen 1; have X1f2 := X1.frozen 2
  by_cases h1 : f < 0
  · go_wp2
    refine bodyPost_ret (v := .tuple #[.agg #[.int .i64 0, .int .i64 0, .slice none 0 0], .bool false]) ?_ rfl ?_; (focus (simp [results, Try.results27, go_sem, *]; done))
    exact PostB.none_ (by (repeat' (first | (with_reducible exact Below.refl _ _) | (with_reducible assumption) | (with_reducible refine Below.alloc ?_ ?_ _) | (with_reducible refine Below.setCell ?_ ?_ _) | (with_reducible refine Below.drew ?_) | (with_reducible refine below_drewN ?_ _) | (with_reducible refine Below.trans ?_ (Below.mono (by assumption) ?_)) | (with_reducible exact Nat.le_refl _) | (simp; done) | omega | (simp at *; omega))))
  · by_cases h2 : t ≤ f
    · go_wp2
      refine bodyPost_ret (v := .tuple #[.agg #[.int .i64 0, .int .i64 0, .slice none 0 0], .bool false]) ?_ rfl ?_; (focus (simp [results, Try.results27, go_sem, *]; done))
      exact PostB.none_ (by (repeat' (first | (with_reducible exact Below.refl _ _) | (with_reducible assumption) | (with_reducible refine Below.alloc ?_ ?_ _) | (with_reducible refine Below.setCell ?_ ?_ _) | (with_reducible refine Below.drew ?_) | (with_reducible refine below_drewN ?_ _) | (with_reducible refine Below.trans ?_ (Below.mono (by assumption) ?_)) | (with_reducible exact Nat.le_refl _) | (simp; done) | omega | (simp at *; omega))))
    · have h3 : R < t := by
        have h := HC.out
        unfold cutIn at h
        simp at h
        omega
      go_wp2
      refine bodyPost_ret (v := .tuple #[.agg #[.int .i64 0, .int .i64 0, .slice none 0 0], .bool false]) ?_ rfl ?_; (focus (simp [results, Try.results27, go_sem, *]; done))
      exact PostB.none_ (by (repeat' (first | (with_reducible exact Below.refl _ _) | (with_reducible assumption) | (with_reducible refine Below.alloc ?_ ?_ _) | (with_reducible refine Below.setCell ?_ ?_ _) | (with_reducible refine Below.drew ?_) | (with_reducible refine below_drewN ?_ _) | (with_reducible refine Below.trans ?_ (Below.mono (by assumption) ?_)) | (with_reducible exact Nat.le_refl _) | (simp; done) | omega | (simp at *; omega))))
theorem impl_CutRows_yes (R C : Int) (A : Option Addr) (cap : Nat) (l : List (Int × Int)) (f t : Int) (w : World) (hg : goodB R C l = true) (hci : cutIn R f t = true) (hn : l.length ≤ 1048576) (hr : Rd w w.heap.size A (flat l)) (hcap : l.length ≤ cap) : Calls Try.prog 27 #[.agg #[.int .i64 R, .int .i64 C, .slice A l.length cap], .int .i64 f, .int .i64 t] w (PostB w (t - f) C (piece l (f * C).toNat (t * C).toNat) true) := by
  obtain ⟨hpq, hql, h90, m1, m2⟩ := cut_bound hg hci
  obtain ⟨b, o, rfl, hbl, hc⟩ := hr (by rw [flat_length]; omega)
  have hr' : Rd w w.heap.size (some ⟨b, o, none⟩) (flat l) := fun _ => ⟨b, o, rfl, hbl, hc⟩
  have HG := Lib.hid hg
  obtain ⟨hs, _, _⟩ := goodB_iff.1 hg
  obtain ⟨s1, s2, s3, s4⟩ := sizeB_iff.1 hs
  have hci' := hci
  unfold cutIn at hci'
  rw [decide_eq_true_eq] at hci'
  obtain ⟨c1, c2, c3⟩ := hci'
  have hP := Lib.hid (piece_rd hr' hql hpq)
  have hL := Lib.hid (piece_len (l := l) (p := (f * C).toNat) hql)
  clear hr hc hg hci hs
  generalize (f * C).toNat = p at *
  generalize (t * C).toNat = q at *
  have m3 : IntKind.i64.wrap (t - f) = t - f := IntWalk.i64_in (t - f) (by omega)
  have hne : ¬ cap = p := by omega
  have hpc : p ≤ q := by omega
  have hqc : q ≤ cap := by omega
  go_enter Try.func27, Try.ntmps27
  obtain ⟨v0, hv0, X0, X1, B0, hz0⟩ := two_boxes w [.int .i64 R, .int .i64 C, .slice (some ⟨b, o, none⟩) l.length cap] 25 [.int .i64 0, .int .i64 0, .slice none 0 0] 25; have HV := Lib.hid hv0; have hz : w.heap.size + 1 < v0.heap.size := (by omega); have hy : w.heap.size < v0.heap.size := (by omega); have hb0 := B0.size; clear hv0 hz0; go_wp2_with fail; rewrite [show (w.alloc (.cells ([.int .i64 R, .int .i64 C, .slice (some ⟨b, o, none⟩) l.length cap] : List Value).toArray 25)).alloc (.cells ([.int .i64 0, .int .i64 0, .slice none 0 0] : List Value).toArray 25) = v0 from HV.out]; clear HV
  refine (impl_IsBoard _ _ _ _ l _ hn ((hr'.below B0).mono B0.size)).mono ?_; rintro e w1 ⟨rfl, b1⟩
  rewrite [HG.out]
  replace X0 := X0.below b1 X0.lt; replace X1 := X1.below b1 X1.lt; replace B0 := B0.trans (b1.mono B0.size); have hy := X0.lt; have hz := X1.lt; have hb0 := B0.size; clear b1
  have X0k0 : w1.cell? ⟨w.heap.size, 0, none⟩ = some (.int .i64 R) := (X0.cell 0).trans rfl; have X0k1 : w1.cell? ⟨w.heap.size, 1, none⟩ = some (.int .i64 C) := (X0.cell 1).trans rfl; have X0k2 : w1.cell? ⟨w.heap.size, 2, none⟩ = some (.slice (some ⟨b, o, none⟩) l.length cap) := (X0.cell 2).trans rfl
  go_wp2_with fail
  have hcl := Clone_any b (o + p * 2) (cap - p) (piece l p q) w1 (by rw [hL.out]; omega) ((hP.out.below B0).mono B0.size)
  rewrite [hL.out] at hcl
  refine hcl.mono ?_; rintro e w2 ⟨A3, c3', rfl, o3, n3, b3⟩
  rewrite [hL.out]
  clear hcl
  clear X0k0 X0k1 X0k2
  have ho := n3.mono hb0
  have hap : ∀ a, A3 = some a → w.heap.size + 1 ≠ a.block := fun a ha => by have h := n3 a ha; omega
  replace X0 := X0.below b3 X0.lt; replace X1 := X1.below b3 X1.lt; replace B0 := B0.trans (b3.mono B0.size); have hy := X0.lt; have hz := X1.lt; have hb0 := B0.size; clear b3
  have X0k0 : w2.cell? ⟨w.heap.size, 0, none⟩ = some (.int .i64 R) := (X0.cell 0).trans rfl; have X0k1 : w2.cell? ⟨w.heap.size, 1, none⟩ = some (.int .i64 C) := (X0.cell 1).trans rfl; have X0k2 : w2.cell? ⟨w.heap.size, 2, none⟩ = some (.slice (some ⟨b, o, none⟩) l.length cap) := (X0.cell 2).trans rfl
  have X1k0 : w2.cell? ⟨w.heap.size + 1, 0, none⟩ = some (.int .i64 0) := (X1.cell 0).trans rfl; have X1k1 : w2.cell? ⟨w.heap.size + 1, 1, none⟩ = some (.int .i64 0) := (X1.cell 1).trans rfl; have X1k2 : w2.cell? ⟨w.heap.size + 1, 2, none⟩ = some (.slice none 0 0) := (X1.cell 2).trans rfl
  have X1f0 := X1.frozen 0; have X1f1 := X1.frozen 1; have X1f2 := X1.frozen 2
  go_wp2
  refine bodyPost_ret (v := .tuple #[.agg #[.int .i64 (t - f), .int .i64 C, .slice A3 (q - p) c3'], .bool true]) ?_ rfl ?_; (focus (simp [results, Try.results27, go_sem, *]; done))
  rw [← hL.out]
  exact PostB.mk (((o3.set_far _ _ hap).set_far _ _ hap).set_far _ _ hap) ho (by (repeat' (first | (with_reducible exact Below.refl _ _) | (with_reducible assumption) | (with_reducible refine Below.alloc ?_ ?_ _) | (with_reducible refine Below.setCell ?_ ?_ _) | (with_reducible refine Below.drew ?_) | (with_reducible refine below_drewN ?_ _) | (with_reducible refine Below.trans ?_ (Below.mono (by assumption) ?_)) | (with_reducible exact Nat.le_refl _) | (simp; done) | omega | (simp at *; omega))))
theorem impl_CutRows (R C : Int) (A : Option Addr) (cap : Nat) (l : List (Int × Int)) (f t : Int) (w : World) (hn : l.length ≤ 1048576) (hr : Rd w w.heap.size A (flat l)) (hcap : l.length ≤ cap) (hwf : (Lit.int .i64 f).wf = true) :
    Calls Try.prog 27 #[.agg #[.int .i64 R, .int .i64 C, .slice A l.length cap], .int .i64 f, .int .i64 t] w (PostB w (selI (okCut R C l f t) (t - f)) (selI (okCut R C l f t) C) (cutL R C l f t) (okCut R C l f t)) := by
  rcases Bool.eq_false_or_eq_true (goodB R C l) with hg | hg
  · rcases Bool.eq_false_or_eq_true (cutIn R f t) with hc | hc
    · exact (impl_CutRows_yes R C A cap l f t w hg hc hn hr hcap).mono fun e w' h => cutB_post (ok := true) (by unfold okCut; rw [hg, hc]; rfl) h
    · exact (impl_CutRows_out R C A cap l f t w hg hc hwf hn hr).mono fun e w' h => cutB_post (ok := false) (by unfold okCut; rw [hc, Bool.and_false]) h
  · exact (impl_CutRows_bad R C A cap l f t w hg hn hr).mono fun e w' h => cutB_post (ok := false) (by unfold okCut; rw [hg]; rfl) h
end Go.Proofs.Ytpfjbecpfdgnpaa
