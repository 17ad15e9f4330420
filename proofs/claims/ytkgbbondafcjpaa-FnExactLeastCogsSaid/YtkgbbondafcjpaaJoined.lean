/- AreJoined, program and model. -/
import Derived.Test.YtkgbbondafcjpaaGroupOf
namespace Go.Proofs.Ytkgbbondafcjpaa
open Go.ChangeShapes Go.WideShapes Go.ChangeAt Go.RowKit Go.Joins Go.Deep
set_option linter.unusedSimpArgs false
set_option linter.unusedVariables false
set_option maxRecDepth 100000
set_option maxHeartbeats 2000000
def okJJ (R C : Int) (l : List (Int × Int)) (i j i2 j2 : Int) : Bool := okJ R C l i j && okJ R C l i2 j2
def joinedB (R C : Int) (l : List (Int × Int)) (i j i2 j2 : Int) : Bool := okJJ R C l i j i2 j2 && decide (nmb C l (atI C i j) = nmb C l (atI C i2 j2))
theorem ret_two {a b c d : Bool} (h1 : a = c) (h2 : b = d) : Ending.returned (.tuple #[.bool a, .bool b]) = .returned (.tuple #[.bool c, .bool d]) := by rw [h1, h2]
theorem spec_AreJoined (R C : Int) (A : Option Addr) (cap : Nat) (l : List (Int × Int)) (i j i2 j2 : Int) (w : World) (hn : l.length ≤ 1048576) (hr : Rd w w.heap.size A (flat l)) : Calls Try.prog 30 #[.agg #[.int .i64 R, .int .i64 C, .slice A l.length cap], .int .i64 i, .int .i64 j, .int .i64 i2, .int .i64 j2] w (fun e w' => e = .returned (.tuple #[.bool (joinedB R C l i j i2 j2), .bool (okJJ R C l i j i2 j2)]) ∧ Below w.heap.size w w') := by
  unfold joinedB okJJ
  rcases Bool.eq_false_or_eq_true (okJ R C l i j) with h1 | h1
  · have H1 := Lib.hid h1
    rcases Bool.eq_false_or_eq_true (okJ R C l i2 j2) with h2 | h2
    · have H2 := Lib.hid h2
      rw [h1, h2, Bool.true_and, Bool.true_and]
      obtain ⟨hg, hi, _⟩ := okJ_parts h1
      obtain ⟨_, hi2, _⟩ := okJ_parts h2
      obtain ⟨_, _, hk1, h90⟩ := at_bound hg hi
      obtain ⟨_, _, hk2, _⟩ := at_bound hg hi2
      obtain ⟨m1, m2⟩ := wrap_at hg hi
      obtain ⟨m3, m4⟩ := wrap_at hg hi2
      obtain ⟨r, c, rfl, rfl, hG⟩ := geo_of hg
      clear hg hi hi2 h1 h2
      go_enter Try.func30, Try.ntmps30
      obtain ⟨v0, hv0⟩ : ∃ v, v = w.alloc (.cells #[.int .i64 (r : Int), .int .i64 (c : Int), .slice A l.length cap] 31) := ⟨_, rfl⟩; have X0 : Whole v0 w.heap.size 31 [.int .i64 (r : Int), .int .i64 (c : Int), .slice A l.length cap] := (by rw [hv0]; exact heap_alloc_new w _); have hb : Below w.heap.size w v0 := (by rw [hv0]; exact (Below.refl _ _).alloc (Nat.le_refl _) _); have HV := Lib.hid hv0.symm; clear hv0; go_upto_region 1 with (fail); rewrite [HV.out]; clear HV; have X0k0 : v0.cell? ⟨w.heap.size, 0, none⟩ = some (.int .i64 (r : Int)) := (X0.cell 0).trans rfl; have X0k1 : v0.cell? ⟨w.heap.size, 1, none⟩ = some (.int .i64 (c : Int)) := (X0.cell 1).trans rfl; have X0k2 : v0.cell? ⟨w.heap.size, 2, none⟩ = some (.slice A l.length cap) := (X0.cell 2).trans rfl
      go_wp2_with fail
      refine (spec_ggHas _ _ _ _ l _ _ _ hn ((hr.below hb).mono hb.size)).mono ?_; rintro e w1 ⟨rfl, b1⟩
      rewrite [H1.out]
      (clear X0k0 X0k1 X0k2; replace X0 := X0.below b1 X0.lt; replace hb := hb.trans (b1.mono hb.size); clear b1; have X0k0 : w1.cell? ⟨w.heap.size, 0, none⟩ = some (.int .i64 (r : Int)) := (X0.cell 0).trans rfl; have X0k1 : w1.cell? ⟨w.heap.size, 1, none⟩ = some (.int .i64 (c : Int)) := (X0.cell 1).trans rfl; have X0k2 : w1.cell? ⟨w.heap.size, 2, none⟩ = some (.slice A l.length cap) := (X0.cell 2).trans rfl)
      go_wp2_with fail
      refine (spec_ggHas _ _ _ _ l _ _ _ hn ((hr.below hb).mono hb.size)).mono ?_; rintro e w2 ⟨rfl, b2⟩
      rewrite [H2.out]
      (clear X0k0 X0k1 X0k2; replace X0 := X0.below b2 X0.lt; replace hb := hb.trans (b2.mono hb.size); clear b2; have X0k0 : w2.cell? ⟨w.heap.size, 0, none⟩ = some (.int .i64 (r : Int)) := (X0.cell 0).trans rfl; have X0k1 : w2.cell? ⟨w.heap.size, 1, none⟩ = some (.int .i64 (c : Int)) := (X0.cell 1).trans rfl; have X0k2 : w2.cell? ⟨w.heap.size, 2, none⟩ = some (.slice A l.length cap) := (X0.cell 2).trans rfl)
      go_wp2_with fail
      refine (spec_ggGroups r c A cap l _ hG ((hr.below hb).mono hb.size)).mono ?_
      rintro e w3 hP
      obtain ⟨A2, c2, rfl, o2, n2, b3⟩ := hP.value
      clear hP
      (clear X0k0 X0k1 X0k2; replace X0 := X0.below b3 X0.lt; replace hb := hb.trans (b3.mono hb.size); clear b3; have X0k0 : w3.cell? ⟨w.heap.size, 0, none⟩ = some (.int .i64 (r : Int)) := (X0.cell 0).trans rfl; have X0k1 : w3.cell? ⟨w.heap.size, 1, none⟩ = some (.int .i64 (c : Int)) := (X0.cell 1).trans rfl; have X0k2 : w3.cell? ⟨w.heap.size, 2, none⟩ = some (.slice A l.length cap) := (X0.cell 2).trans rfl)
      obtain ⟨g, rest, rfl, hw⟩ := o2 (by rw [ints_length, numL_len]; omega)
      clear o2 n2
      rewrite [numL_len]
      have hc1 : w3.cell? ⟨g, atI (c : Int) i j, none⟩ = some (.int .i64 (nmb (c : Int) l (atI (c : Int) i j))) := by rw [hw.cell _, List.getElem?_append_left (by rw [ints_length, numL_len]; exact hk1)]; exact numL_at hk1
      have hc2 : w3.cell? ⟨g, atI (c : Int) i2 j2, none⟩ = some (.int .i64 (nmb (c : Int) l (atI (c : Int) i2 j2))) := by rw [hw.cell _, List.getElem?_append_left (by rw [ints_length, numL_len]; exact hk2)]; exact numL_at hk2
      clear hw
      generalize hx : nmb (c : Int) l (atI (c : Int) i j) = x at *
      generalize hy : nmb (c : Int) l (atI (c : Int) i2 j2) = y at *
      go_upto_region 4 with (fail)
      go_quiet (fail)
      go_wp2
      go_returns
      exact ⟨ret_two (by first | rfl | (rw [hx, hy]; done) | (rw [hx, hy]; rfl) | (rw [hx, hy, Bool.eq_iff_iff]; simp)) rfl, by (repeat' (first | (with_reducible exact Below.refl _ _) | (with_reducible assumption) | (with_reducible refine Below.alloc ?_ ?_ _) | (with_reducible refine Below.setCell ?_ ?_ _) | (with_reducible refine Below.drew ?_) | (with_reducible refine below_drewN ?_ _) | (with_reducible refine Below.trans ?_ (Below.mono (by assumption) ?_)) | (with_reducible exact Nat.le_refl _) | (simp; done) | omega | (simp at *; omega)))⟩
    · have H2 := Lib.hid h2
      rw [h1, h2, Bool.and_false, Bool.false_and]
      clear h1 h2
      go_enter Try.func30, Try.ntmps30
      obtain ⟨v0, hv0⟩ : ∃ v, v = w.alloc (.cells #[.int .i64 R, .int .i64 C, .slice A l.length cap] 31) := ⟨_, rfl⟩; have X0 : Whole v0 w.heap.size 31 [.int .i64 R, .int .i64 C, .slice A l.length cap] := (by rw [hv0]; exact heap_alloc_new w _); have hb : Below w.heap.size w v0 := (by rw [hv0]; exact (Below.refl _ _).alloc (Nat.le_refl _) _); have HV := Lib.hid hv0.symm; clear hv0; go_upto_region 1 with (fail); rewrite [HV.out]; clear HV; have X0k0 : v0.cell? ⟨w.heap.size, 0, none⟩ = some (.int .i64 R) := (X0.cell 0).trans rfl; have X0k1 : v0.cell? ⟨w.heap.size, 1, none⟩ = some (.int .i64 C) := (X0.cell 1).trans rfl; have X0k2 : v0.cell? ⟨w.heap.size, 2, none⟩ = some (.slice A l.length cap) := (X0.cell 2).trans rfl
      go_wp2_with fail
      refine (spec_ggHas _ _ _ _ l _ _ _ hn ((hr.below hb).mono hb.size)).mono ?_; rintro e w1 ⟨rfl, b1⟩
      rewrite [H1.out]
      (clear X0k0 X0k1 X0k2; replace X0 := X0.below b1 X0.lt; replace hb := hb.trans (b1.mono hb.size); clear b1; have X0k0 : w1.cell? ⟨w.heap.size, 0, none⟩ = some (.int .i64 R) := (X0.cell 0).trans rfl; have X0k1 : w1.cell? ⟨w.heap.size, 1, none⟩ = some (.int .i64 C) := (X0.cell 1).trans rfl; have X0k2 : w1.cell? ⟨w.heap.size, 2, none⟩ = some (.slice A l.length cap) := (X0.cell 2).trans rfl)
      go_wp2_with fail
      refine (spec_ggHas _ _ _ _ l _ _ _ hn ((hr.below hb).mono hb.size)).mono ?_; rintro e w2 ⟨rfl, b2⟩
      rewrite [H2.out]
      (clear X0k0 X0k1 X0k2; replace X0 := X0.below b2 X0.lt; replace hb := hb.trans (b2.mono hb.size); clear b2; have X0k0 : w2.cell? ⟨w.heap.size, 0, none⟩ = some (.int .i64 R) := (X0.cell 0).trans rfl; have X0k1 : w2.cell? ⟨w.heap.size, 1, none⟩ = some (.int .i64 C) := (X0.cell 1).trans rfl; have X0k2 : w2.cell? ⟨w.heap.size, 2, none⟩ = some (.slice A l.length cap) := (X0.cell 2).trans rfl)
      go_wp2
      go_returns
      exact ⟨ret_two (by first | rfl | (rw [hx, hy]; done) | (rw [hx, hy]; rfl) | (rw [hx, hy, Bool.eq_iff_iff]; simp)) rfl, by (repeat' (first | (with_reducible exact Below.refl _ _) | (with_reducible assumption) | (with_reducible refine Below.alloc ?_ ?_ _) | (with_reducible refine Below.setCell ?_ ?_ _) | (with_reducible refine Below.drew ?_) | (with_reducible refine below_drewN ?_ _) | (with_reducible refine Below.trans ?_ (Below.mono (by assumption) ?_)) | (with_reducible exact Nat.le_refl _) | (simp; done) | omega | (simp at *; omega)))⟩
  · have H1 := Lib.hid h1
    rw [h1, Bool.false_and, Bool.false_and]
    clear h1
    go_enter Try.func30, Try.ntmps30
    obtain ⟨v0, hv0⟩ : ∃ v, v = w.alloc (.cells #[.int .i64 R, .int .i64 C, .slice A l.length cap] 31) := ⟨_, rfl⟩; have X0 : Whole v0 w.heap.size 31 [.int .i64 R, .int .i64 C, .slice A l.length cap] := (by rw [hv0]; exact heap_alloc_new w _); have hb : Below w.heap.size w v0 := (by rw [hv0]; exact (Below.refl _ _).alloc (Nat.le_refl _) _); have HV := Lib.hid hv0.symm; clear hv0; go_upto_region 1 with (fail); rewrite [HV.out]; clear HV; have X0k0 : v0.cell? ⟨w.heap.size, 0, none⟩ = some (.int .i64 R) := (X0.cell 0).trans rfl; have X0k1 : v0.cell? ⟨w.heap.size, 1, none⟩ = some (.int .i64 C) := (X0.cell 1).trans rfl; have X0k2 : v0.cell? ⟨w.heap.size, 2, none⟩ = some (.slice A l.length cap) := (X0.cell 2).trans rfl
    go_wp2_with fail
    refine (spec_ggHas _ _ _ _ l _ _ _ hn ((hr.below hb).mono hb.size)).mono ?_; rintro e w1 ⟨rfl, b1⟩
    rewrite [H1.out]
    (clear X0k0 X0k1 X0k2; replace X0 := X0.below b1 X0.lt; replace hb := hb.trans (b1.mono hb.size); clear b1; have X0k0 : w1.cell? ⟨w.heap.size, 0, none⟩ = some (.int .i64 R) := (X0.cell 0).trans rfl; have X0k1 : w1.cell? ⟨w.heap.size, 1, none⟩ = some (.int .i64 C) := (X0.cell 1).trans rfl; have X0k2 : w1.cell? ⟨w.heap.size, 2, none⟩ = some (.slice A l.length cap) := (X0.cell 2).trans rfl)
    go_wp2
    go_returns
    exact ⟨ret_two (by first | rfl | (rw [hx, hy]; done) | (rw [hx, hy]; rfl) | (rw [hx, hy, Bool.eq_iff_iff]; simp)) rfl, by (repeat' (first | (with_reducible exact Below.refl _ _) | (with_reducible assumption) | (with_reducible refine Below.alloc ?_ ?_ _) | (with_reducible refine Below.setCell ?_ ?_ _) | (with_reducible refine Below.drew ?_) | (with_reducible refine below_drewN ?_ _) | (with_reducible refine Below.trans ?_ (Below.mono (by assumption) ?_)) | (with_reducible exact Nat.le_refl _) | (simp; done) | omega | (simp at *; omega)))⟩
theorem grpL_has {c k m : Nat} {l : List (Int × Int)} (hm : m < l.length) : ((nI (grpL (c : Int) l k)).take (nI (grpL (c : Int) l k)).length).contains (m : Int) = decide (nmb (c : Int) l k = nmb (c : Int) l m) := by
  rw [List.take_length, Bool.eq_iff_iff, List.contains_iff_mem, decide_eq_true_eq]
  unfold nI grpL
  rw [List.mem_map]
  constructor
  · rintro ⟨x, hx, e⟩
    rw [List.mem_filter, decide_eq_true_eq] at hx
    have : x = m := by omega
    subst this
    exact hx.2.symm
  · intro h
    exact ⟨m, List.mem_filter.2 ⟨List.mem_range.2 hm, by rw [decide_eq_true_eq]; exact h.symm⟩, rfl⟩
theorem grpL_pos {c k : Nat} {l : List (Int × Int)} (hk : k < l.length) : 0 < (grpL (c : Int) l k).length :=
  List.length_pos_of_mem (List.mem_filter.2 ⟨List.mem_range.2 hk, by rw [decide_eq_true_eq]⟩)
theorem impl_AreJoined (R C : Int) (A : Option Addr) (cap : Nat) (l : List (Int × Int)) (i j i2 j2 : Int) (w : World) (hn : l.length ≤ 1048576) (hr : Rd w w.heap.size A (flat l)) : Calls Try.prog 31 #[.agg #[.int .i64 R, .int .i64 C, .slice A l.length cap], .int .i64 i, .int .i64 j, .int .i64 i2, .int .i64 j2] w (fun e w' => e = .returned (.tuple #[.bool (joinedB R C l i j i2 j2), .bool (okJJ R C l i j i2 j2)]) ∧ Below w.heap.size w w') := by
  unfold joinedB okJJ
  rcases Bool.eq_false_or_eq_true (okJ R C l i j && okJ R C l i2 j2) with h12 | h12
  · rw [h12, Bool.true_and]
    rw [Bool.and_eq_true] at h12
    obtain ⟨h1, h2⟩ := h12
    have H1 := Lib.hid h1
    have H2 := Lib.hid h2
    obtain ⟨hg, hi, hJ⟩ := okJ_parts h1
    obtain ⟨_, hi2, _⟩ := okJ_parts h2
    obtain ⟨_, _, hk1, h90⟩ := at_bound hg hi
    obtain ⟨_, _, hk2, _⟩ := at_bound hg hi2
    obtain ⟨r, c, rfl, rfl, hG⟩ := geo_of hg
    have HE := Lib.hid (grp_of_cell hG hk1 hJ)
    have HJ := Lib.hid hJ
    clear hg hi hi2 h1 h2 hJ
    go_enter Try.func31, Try.ntmps31
    obtain ⟨v0, hv0⟩ : ∃ v, v = w.alloc (.cells #[.int .i64 (r : Int), .int .i64 (c : Int), .slice A l.length cap] 31) := ⟨_, rfl⟩; have X0 : Whole v0 w.heap.size 31 [.int .i64 (r : Int), .int .i64 (c : Int), .slice A l.length cap] := (by rw [hv0]; exact heap_alloc_new w _); have hb : Below w.heap.size w v0 := (by rw [hv0]; exact (Below.refl _ _).alloc (Nat.le_refl _) _); have HV := Lib.hid hv0.symm; clear hv0; go_upto_region 1 with (fail); rewrite [HV.out]; clear HV; have X0k0 : v0.cell? ⟨w.heap.size, 0, none⟩ = some (.int .i64 (r : Int)) := (X0.cell 0).trans rfl; have X0k1 : v0.cell? ⟨w.heap.size, 1, none⟩ = some (.int .i64 (c : Int)) := (X0.cell 1).trans rfl; have X0k2 : v0.cell? ⟨w.heap.size, 2, none⟩ = some (.slice A l.length cap) := (X0.cell 2).trans rfl
    go_wp2_with fail
    refine (impl_joiningIndex _ _ _ _ l _ _ _ hn ((hr.below hb).mono hb.size)).mono ?_; rintro e w1 ⟨rfl, b1⟩
    rewrite [H1.out, show selI true (atI (c : Int) i j : Int) = (atI (c : Int) i j : Int) from rfl]
    (clear X0k0 X0k1 X0k2; replace X0 := X0.below b1 X0.lt; replace hb := hb.trans (b1.mono hb.size); clear b1; have X0k0 : w1.cell? ⟨w.heap.size, 0, none⟩ = some (.int .i64 (r : Int)) := (X0.cell 0).trans rfl; have X0k1 : w1.cell? ⟨w.heap.size, 1, none⟩ = some (.int .i64 (c : Int)) := (X0.cell 1).trans rfl; have X0k2 : w1.cell? ⟨w.heap.size, 2, none⟩ = some (.slice A l.length cap) := (X0.cell 2).trans rfl)
    go_wp2_with fail
    refine (impl_joiningIndex _ _ _ _ l _ _ _ hn ((hr.below hb).mono hb.size)).mono ?_; rintro e w2 ⟨rfl, b2⟩
    rewrite [H2.out, show selI true (atI (c : Int) i2 j2 : Int) = (atI (c : Int) i2 j2 : Int) from rfl]
    (clear X0k0 X0k1 X0k2; replace X0 := X0.below b2 X0.lt; replace hb := hb.trans (b2.mono hb.size); clear b2; have X0k0 : w2.cell? ⟨w.heap.size, 0, none⟩ = some (.int .i64 (r : Int)) := (X0.cell 0).trans rfl; have X0k1 : w2.cell? ⟨w.heap.size, 1, none⟩ = some (.int .i64 (c : Int)) := (X0.cell 1).trans rfl; have X0k2 : w2.cell? ⟨w.heap.size, 2, none⟩ = some (.slice A l.length cap) := (X0.cell 2).trans rfl)
    go_wp2_with fail
    refine (impl_groupWith r c A cap l _ _ hG ((hr.below hb).mono hb.size) hk1 HJ.out).mono ?_
    rintro e w3 hP
    rw [HE.out] at hP
    obtain ⟨A2, c2, rfl, o2, n2, b3⟩ := hP.value
    clear hP
    (clear X0k0 X0k1 X0k2; replace X0 := X0.below b3 X0.lt; replace hb := hb.trans (b3.mono hb.size); clear b3; have X0k0 : w3.cell? ⟨w.heap.size, 0, none⟩ = some (.int .i64 (r : Int)) := (X0.cell 0).trans rfl; have X0k1 : w3.cell? ⟨w.heap.size, 1, none⟩ = some (.int .i64 (c : Int)) := (X0.cell 1).trans rfl; have X0k2 : w3.cell? ⟨w.heap.size, 2, none⟩ = some (.slice A l.length cap) := (X0.cell 2).trans rfl)
    have hgp := grpL_pos (c := c) hk1
    have hgl := grpL_len (c : Int) l (atI (c : Int) i j)
    obtain ⟨g, rest, rfl, hw⟩ := o2 (by rw [ints_length, nI_length]; exact hgp)
    go_wp2_with fail
    have hcl := Try.slices_Contains_int g 0 (nI (grpL (c : Int) l (atI (c : Int) i j))).length c2 (nI (grpL (c : Int) l (atI (c : Int) i j))) (atI (c : Int) i2 j2 : Int) w3 (Nat.le_refl _) (by rw [nI_length]; omega) (fun q hq => by
      rw [Nat.zero_add, hw.cell q, List.getElem?_append_left (by rw [ints_length]; exact hq), ints_at _ q hq, List.getD_eq_getElem?_getD, List.getElem?_eq_getElem hq]; rfl)
    rw [grpL_has hk2] at hcl
    refine hcl.mono ?_; rintro e w4 ⟨rfl, rfl⟩
    clear hcl hw o2
    generalize hx : nmb (c : Int) l (atI (c : Int) i j) = x at *
    generalize hy : nmb (c : Int) l (atI (c : Int) i2 j2) = y at *
    go_wp2
    go_returns
    exact ⟨ret_two (by first | rfl | (rw [hx, hy]; done) | (rw [hx, hy]; rfl) | (rw [hx, hy, Bool.eq_iff_iff]; simp)) rfl, by (repeat' (first | (with_reducible exact Below.refl _ _) | (with_reducible assumption) | (with_reducible refine Below.alloc ?_ ?_ _) | (with_reducible refine Below.setCell ?_ ?_ _) | (with_reducible refine Below.drew ?_) | (with_reducible refine below_drewN ?_ _) | (with_reducible refine Below.trans ?_ (Below.mono (by assumption) ?_)) | (with_reducible exact Nat.le_refl _) | (simp; done) | omega | (simp at *; omega)))⟩
  · rw [h12, Bool.false_and]
    rcases Bool.eq_false_or_eq_true (okJ R C l i j) with h1 | h1
    · have H1 := Lib.hid h1
      have H2 : Hid (okJ R C l i2 j2 = false) := Lib.hid (by rw [h1, Bool.true_and] at h12; exact h12)
      clear h1 h12
      go_enter Try.func31, Try.ntmps31
      obtain ⟨v0, hv0⟩ : ∃ v, v = w.alloc (.cells #[.int .i64 R, .int .i64 C, .slice A l.length cap] 31) := ⟨_, rfl⟩; have X0 : Whole v0 w.heap.size 31 [.int .i64 R, .int .i64 C, .slice A l.length cap] := (by rw [hv0]; exact heap_alloc_new w _); have hb : Below w.heap.size w v0 := (by rw [hv0]; exact (Below.refl _ _).alloc (Nat.le_refl _) _); have HV := Lib.hid hv0.symm; clear hv0; go_upto_region 1 with (fail); rewrite [HV.out]; clear HV; have X0k0 : v0.cell? ⟨w.heap.size, 0, none⟩ = some (.int .i64 R) := (X0.cell 0).trans rfl; have X0k1 : v0.cell? ⟨w.heap.size, 1, none⟩ = some (.int .i64 C) := (X0.cell 1).trans rfl; have X0k2 : v0.cell? ⟨w.heap.size, 2, none⟩ = some (.slice A l.length cap) := (X0.cell 2).trans rfl
      go_wp2_with fail
      refine (impl_joiningIndex _ _ _ _ l _ _ _ hn ((hr.below hb).mono hb.size)).mono ?_; rintro e w1 ⟨rfl, b1⟩
      rewrite [H1.out]
      (clear X0k0 X0k1 X0k2; replace X0 := X0.below b1 X0.lt; replace hb := hb.trans (b1.mono hb.size); clear b1; have X0k0 : w1.cell? ⟨w.heap.size, 0, none⟩ = some (.int .i64 R) := (X0.cell 0).trans rfl; have X0k1 : w1.cell? ⟨w.heap.size, 1, none⟩ = some (.int .i64 C) := (X0.cell 1).trans rfl; have X0k2 : w1.cell? ⟨w.heap.size, 2, none⟩ = some (.slice A l.length cap) := (X0.cell 2).trans rfl)
      go_wp2_with fail
      refine (impl_joiningIndex _ _ _ _ l _ _ _ hn ((hr.below hb).mono hb.size)).mono ?_; rintro e w2 ⟨rfl, b2⟩
      rewrite [H2.out]
      (clear X0k0 X0k1 X0k2; replace X0 := X0.below b2 X0.lt; replace hb := hb.trans (b2.mono hb.size); clear b2; have X0k0 : w2.cell? ⟨w.heap.size, 0, none⟩ = some (.int .i64 R) := (X0.cell 0).trans rfl; have X0k1 : w2.cell? ⟨w.heap.size, 1, none⟩ = some (.int .i64 C) := (X0.cell 1).trans rfl; have X0k2 : w2.cell? ⟨w.heap.size, 2, none⟩ = some (.slice A l.length cap) := (X0.cell 2).trans rfl)
      go_wp2
      go_returns
      exact ⟨ret_two (by first | rfl | (rw [hx, hy]; done) | (rw [hx, hy]; rfl) | (rw [hx, hy, Bool.eq_iff_iff]; simp)) rfl, by (repeat' (first | (with_reducible exact Below.refl _ _) | (with_reducible assumption) | (with_reducible refine Below.alloc ?_ ?_ _) | (with_reducible refine Below.setCell ?_ ?_ _) | (with_reducible refine Below.drew ?_) | (with_reducible refine below_drewN ?_ _) | (with_reducible refine Below.trans ?_ (Below.mono (by assumption) ?_)) | (with_reducible exact Nat.le_refl _) | (simp; done) | omega | (simp at *; omega)))⟩
    · have H1 := Lib.hid h1
      clear h1 h12
      go_enter Try.func31, Try.ntmps31
      obtain ⟨v0, hv0⟩ : ∃ v, v = w.alloc (.cells #[.int .i64 R, .int .i64 C, .slice A l.length cap] 31) := ⟨_, rfl⟩; have X0 : Whole v0 w.heap.size 31 [.int .i64 R, .int .i64 C, .slice A l.length cap] := (by rw [hv0]; exact heap_alloc_new w _); have hb : Below w.heap.size w v0 := (by rw [hv0]; exact (Below.refl _ _).alloc (Nat.le_refl _) _); have HV := Lib.hid hv0.symm; clear hv0; go_upto_region 1 with (fail); rewrite [HV.out]; clear HV; have X0k0 : v0.cell? ⟨w.heap.size, 0, none⟩ = some (.int .i64 R) := (X0.cell 0).trans rfl; have X0k1 : v0.cell? ⟨w.heap.size, 1, none⟩ = some (.int .i64 C) := (X0.cell 1).trans rfl; have X0k2 : v0.cell? ⟨w.heap.size, 2, none⟩ = some (.slice A l.length cap) := (X0.cell 2).trans rfl
      go_wp2_with fail
      refine (impl_joiningIndex _ _ _ _ l _ _ _ hn ((hr.below hb).mono hb.size)).mono ?_; rintro e w1 ⟨rfl, b1⟩
      rewrite [H1.out]
      (clear X0k0 X0k1 X0k2; replace X0 := X0.below b1 X0.lt; replace hb := hb.trans (b1.mono hb.size); clear b1; have X0k0 : w1.cell? ⟨w.heap.size, 0, none⟩ = some (.int .i64 R) := (X0.cell 0).trans rfl; have X0k1 : w1.cell? ⟨w.heap.size, 1, none⟩ = some (.int .i64 C) := (X0.cell 1).trans rfl; have X0k2 : w1.cell? ⟨w.heap.size, 2, none⟩ = some (.slice A l.length cap) := (X0.cell 2).trans rfl)
      go_wp2_with fail
      refine (impl_joiningIndex _ _ _ _ l _ _ _ hn ((hr.below hb).mono hb.size)).mono ?_; rintro e w2 ⟨rfl, b2⟩
      (clear X0k0 X0k1 X0k2; replace X0 := X0.below b2 X0.lt; replace hb := hb.trans (b2.mono hb.size); clear b2; have X0k0 : w2.cell? ⟨w.heap.size, 0, none⟩ = some (.int .i64 R) := (X0.cell 0).trans rfl; have X0k1 : w2.cell? ⟨w.heap.size, 1, none⟩ = some (.int .i64 C) := (X0.cell 1).trans rfl; have X0k2 : w2.cell? ⟨w.heap.size, 2, none⟩ = some (.slice A l.length cap) := (X0.cell 2).trans rfl)
      go_wp2
      go_returns
      exact ⟨ret_two (by first | rfl | (rw [hx, hy]; done) | (rw [hx, hy]; rfl) | (rw [hx, hy, Bool.eq_iff_iff]; simp)) rfl, by (repeat' (first | (with_reducible exact Below.refl _ _) | (with_reducible assumption) | (with_reducible refine Below.alloc ?_ ?_ _) | (with_reducible refine Below.setCell ?_ ?_ _) | (with_reducible refine Below.drew ?_) | (with_reducible refine below_drewN ?_ _) | (with_reducible refine Below.trans ?_ (Below.mono (by assumption) ?_)) | (with_reducible exact Nat.le_refl _) | (simp; done) | omega | (simp at *; omega)))⟩
end Go.Proofs.Ytkgbbondafcjpaa
