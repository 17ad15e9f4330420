/- PutCell, the program's. -/
import Derived.Test.YtpfjbecpfdgnpaaCloneB
namespace Go.Proofs.Ytpfjbecpfdgnpaa
open Go.ChangeShapes Go.WideShapes Go.ChangeAt Go.RowKit Go.Joins Go.Deep
set_option linter.unusedSimpArgs false
set_option linter.unusedVariables false
set_option maxRecDepth 100000
set_option maxHeartbeats 4000000
theorem impl_PutCell_has (R C : Int) (A : Option Addr) (cap : Nat) (l : List (Int × Int)) (i j x y : Int) (w : World) (hh : hasB R C l i j = false) (hn : l.length ≤ 1048576) (hr : Rd w w.heap.size A (flat l)) : Calls Try.prog 15 #[.agg #[.int .i64 R, .int .i64 C, .slice A l.length cap], .int .i64 i, .int .i64 j, .agg #[.int .i64 x, .int .i64 y]] w (PostB w 0 0 [] false) := by
  have HH := Lib.hid hh
  clear hh
  go_enter Try.func15, Try.ntmps15
  obtain ⟨v0, hv0, X0, X1, X2, B0, hz0⟩ := three_boxes w [.int .i64 R, .int .i64 C, .slice A l.length cap] 25 [.int .i64 x, .int .i64 y] 27 [.int .i64 0, .int .i64 0, .slice none 0 0] 25; have HV := Lib.hid hv0; have hx : w.heap.size + 1 + 1 < v0.heap.size := (by omega); have hz : w.heap.size + 1 < v0.heap.size := (by omega); have hy : w.heap.size < v0.heap.size := (by omega); have hb0 := B0.size; clear hv0 hz0; go_wp2_with fail; rewrite [show ((w.alloc (.cells ([.int .i64 R, .int .i64 C, .slice A l.length cap] : List Value).toArray 25)).alloc (.cells ([.int .i64 x, .int .i64 y] : List Value).toArray 27)).alloc (.cells ([.int .i64 0, .int .i64 0, .slice none 0 0] : List Value).toArray 25) = v0 from HV.out]; clear HV
  refine (impl_cellIndex _ _ _ _ l _ _ _ hn ((hr.below B0).mono B0.size)).mono ?_; rintro e w1 ⟨rfl, b1⟩
  rewrite [HH.out]
  replace X0 := X0.below b1 X0.lt; replace X1 := X1.below b1 X1.lt; replace X2 := X2.below b1 X2.lt; replace B0 := B0.trans (b1.mono B0.size); have hy := X0.lt; have hz := X1.lt; have hx := X2.lt; have hb0 := B0.size; clear b1
  have X2k0 : w1.cell? ⟨w.heap.size + 1 + 1, 0, none⟩ = some (.int .i64 0) := (X2.cell 0).trans rfl; have X2k1 : w1.cell? ⟨w.heap.size + 1 + 1, 1, none⟩ = some (.int .i64 0) := (X2.cell 1).trans rfl; have X2k2 : w1.cell? ⟨w.heap.size + 1 + 1, 2, none⟩ = some (.slice none 0 0) := (X2.cell 2).trans rfl
  have X2f0 := X2.frozen 0; have X2f1 := X2.frozen 1; have X2f2 := X2.frozen 2
  go_wp2
  refine bodyPost_ret (v := .tuple #[.agg #[.int .i64 0, .int .i64 0, .slice none 0 0], .bool false]) ?_ rfl ?_; (focus (simp [results, Try.results15, go_sem, *]; done))
  exact PostB.none_ (by (repeat' (first | (with_reducible exact Below.refl _ _) | (with_reducible assumption) | (with_reducible refine Below.alloc ?_ ?_ _) | (with_reducible refine Below.setCell ?_ ?_ _) | (with_reducible refine Below.drew ?_) | (with_reducible refine below_drewN ?_ _) | (with_reducible refine Below.trans ?_ (Below.mono (by assumption) ?_)) | (with_reducible exact Nat.le_refl _) | (simp; done) | omega | (simp at *; omega))))
theorem impl_PutCell_bad (R C : Int) (A : Option Addr) (cap : Nat) (l : List (Int × Int)) (i j x y : Int) (w : World) (hh : hasB R C l i j = true) (hg : good x y = false) (hn : l.length ≤ 1048576) (hr : Rd w w.heap.size A (flat l)) : Calls Try.prog 15 #[.agg #[.int .i64 R, .int .i64 C, .slice A l.length cap], .int .i64 i, .int .i64 j, .agg #[.int .i64 x, .int .i64 y]] w (PostB w 0 0 [] false) := by
  have HH := Lib.hid hh
  have HG := Lib.hid hg
  clear hh hg
  go_enter Try.func15, Try.ntmps15
  obtain ⟨v0, hv0, X0, X1, X2, B0, hz0⟩ := three_boxes w [.int .i64 R, .int .i64 C, .slice A l.length cap] 25 [.int .i64 x, .int .i64 y] 27 [.int .i64 0, .int .i64 0, .slice none 0 0] 25; have HV := Lib.hid hv0; have hx : w.heap.size + 1 + 1 < v0.heap.size := (by omega); have hz : w.heap.size + 1 < v0.heap.size := (by omega); have hy : w.heap.size < v0.heap.size := (by omega); have hb0 := B0.size; clear hv0 hz0; go_wp2_with fail; rewrite [show ((w.alloc (.cells ([.int .i64 R, .int .i64 C, .slice A l.length cap] : List Value).toArray 25)).alloc (.cells ([.int .i64 x, .int .i64 y] : List Value).toArray 27)).alloc (.cells ([.int .i64 0, .int .i64 0, .slice none 0 0] : List Value).toArray 25) = v0 from HV.out]; clear HV
  refine (impl_cellIndex _ _ _ _ l _ _ _ hn ((hr.below B0).mono B0.size)).mono ?_; rintro e w1 ⟨rfl, b1⟩
  rewrite [HH.out]
  replace X0 := X0.below b1 X0.lt; replace X1 := X1.below b1 X1.lt; replace X2 := X2.below b1 X2.lt; replace B0 := B0.trans (b1.mono B0.size); have hy := X0.lt; have hz := X1.lt; have hx := X2.lt; have hb0 := B0.size; clear b1
  have X1k0 : w1.cell? ⟨w.heap.size + 1, 0, none⟩ = some (.int .i64 x) := (X1.cell 0).trans rfl; have X1k1 : w1.cell? ⟨w.heap.size + 1, 1, none⟩ = some (.int .i64 y) := (X1.cell 1).trans rfl
  go_wp2_with fail
  refine (impl_IsCell _ _ _).mono ?_; rintro e w2 ⟨rfl, b2⟩
  rewrite [HG.out]
  clear X1k0 X1k1
  replace X0 := X0.below b2 X0.lt; replace X1 := X1.below b2 X1.lt; replace X2 := X2.below b2 X2.lt; replace B0 := B0.trans (b2.mono B0.size); have hy := X0.lt; have hz := X1.lt; have hx := X2.lt; have hb0 := B0.size; clear b2
  have X2k0 : w2.cell? ⟨w.heap.size + 1 + 1, 0, none⟩ = some (.int .i64 0) := (X2.cell 0).trans rfl; have X2k1 : w2.cell? ⟨w.heap.size + 1 + 1, 1, none⟩ = some (.int .i64 0) := (X2.cell 1).trans rfl; have X2k2 : w2.cell? ⟨w.heap.size + 1 + 1, 2, none⟩ = some (.slice none 0 0) := (X2.cell 2).trans rfl
  have X2f0 := X2.frozen 0; have X2f1 := X2.frozen 1; have X2f2 := X2.frozen 2
  go_wp2
  refine bodyPost_ret (v := .tuple #[.agg #[.int .i64 0, .int .i64 0, .slice none 0 0], .bool false]) ?_ rfl ?_; (focus (simp [results, Try.results15, go_sem, *]; done))
  exact PostB.none_ (by (repeat' (first | (with_reducible exact Below.refl _ _) | (with_reducible assumption) | (with_reducible refine Below.alloc ?_ ?_ _) | (with_reducible refine Below.setCell ?_ ?_ _) | (with_reducible refine Below.drew ?_) | (with_reducible refine below_drewN ?_ _) | (with_reducible refine Below.trans ?_ (Below.mono (by assumption) ?_)) | (with_reducible exact Nat.le_refl _) | (simp; done) | omega | (simp at *; omega))))
theorem impl_PutCell_yes (R C : Int) (A : Option Addr) (cap : Nat) (l : List (Int × Int)) (i j x y : Int) (w : World) (hh : hasB R C l i j = true) (hg : good x y = true) (hn : l.length ≤ 1048576) (hr : Rd w w.heap.size A (flat l)) : Calls Try.prog 15 #[.agg #[.int .i64 R, .int .i64 C, .slice A l.length cap], .int .i64 i, .int .i64 j, .agg #[.int .i64 x, .int .i64 y]] w (PostB w R C (l.set (atI C i j) (x, y)) true) := by
  have HH := Lib.hid hh
  have HG := Lib.hid hg
  obtain ⟨hgb, hib⟩ := hasB_and hh
  obtain ⟨_, _, hlt, h90⟩ := at_bound hgb hib
  obtain ⟨b, o, rfl, hbl, hc⟩ := hr (by rw [flat_length]; omega)
  have hr' : Rd w w.heap.size (some ⟨b, o, none⟩) (flat l) := fun _ => ⟨b, o, rfl, hbl, hc⟩
  clear hr hc hh hg hgb hib
  go_enter Try.func15, Try.ntmps15
  obtain ⟨v0, hv0, X0, X1, X2, B0, hz0⟩ := three_boxes w [.int .i64 R, .int .i64 C, .slice (some ⟨b, o, none⟩) l.length cap] 25 [.int .i64 x, .int .i64 y] 27 [.int .i64 0, .int .i64 0, .slice none 0 0] 25; have HV := Lib.hid hv0; have hx : w.heap.size + 1 + 1 < v0.heap.size := (by omega); have hz : w.heap.size + 1 < v0.heap.size := (by omega); have hy : w.heap.size < v0.heap.size := (by omega); have hb0 := B0.size; clear hv0 hz0; go_wp2_with fail; rewrite [show ((w.alloc (.cells ([.int .i64 R, .int .i64 C, .slice (some ⟨b, o, none⟩) l.length cap] : List Value).toArray 25)).alloc (.cells ([.int .i64 x, .int .i64 y] : List Value).toArray 27)).alloc (.cells ([.int .i64 0, .int .i64 0, .slice none 0 0] : List Value).toArray 25) = v0 from HV.out]; clear HV
  refine (impl_cellIndex _ _ _ _ l _ _ _ hn ((hr'.below B0).mono B0.size)).mono ?_; rintro e w1 ⟨rfl, b1⟩
  rewrite [HH.out, show selI true (atI C i j : Int) = (atI C i j : Int) from rfl]
  generalize atI C i j = n at *
  replace X0 := X0.below b1 X0.lt; replace X1 := X1.below b1 X1.lt; replace X2 := X2.below b1 X2.lt; replace B0 := B0.trans (b1.mono B0.size); have hy := X0.lt; have hz := X1.lt; have hx := X2.lt; have hb0 := B0.size; clear b1
  have X1k0 : w1.cell? ⟨w.heap.size + 1, 0, none⟩ = some (.int .i64 x) := (X1.cell 0).trans rfl; have X1k1 : w1.cell? ⟨w.heap.size + 1, 1, none⟩ = some (.int .i64 y) := (X1.cell 1).trans rfl
  go_wp2_with fail
  refine (impl_IsCell _ _ _).mono ?_; rintro e w2 ⟨rfl, b2⟩
  rewrite [HG.out]
  clear X1k0 X1k1
  replace X0 := X0.below b2 X0.lt; replace X1 := X1.below b2 X1.lt; replace X2 := X2.below b2 X2.lt; replace B0 := B0.trans (b2.mono B0.size); have hy := X0.lt; have hz := X1.lt; have hx := X2.lt; have hb0 := B0.size; clear b2
  have X0k0 : w2.cell? ⟨w.heap.size, 0, none⟩ = some (.int .i64 R) := (X0.cell 0).trans rfl; have X0k1 : w2.cell? ⟨w.heap.size, 1, none⟩ = some (.int .i64 C) := (X0.cell 1).trans rfl; have X0k2 : w2.cell? ⟨w.heap.size, 2, none⟩ = some (.slice (some ⟨b, o, none⟩) l.length cap) := (X0.cell 2).trans rfl
  go_wp2_with fail
  refine (impl_cloneBoard _ _ _ _ _ l _ hn ((hr'.below B0).mono B0.size)).mono ?_; rintro e w3 ⟨A3, c3, rfl, o3, n3, b3⟩
  obtain ⟨g, rest, rfl, hw⟩ := o3 (by rw [flat_length]; omega)
  clear X0k0 X0k1 X0k2
  have hg2 : w2.heap.size ≤ g := n3 _ rfl
  have ga0 : w.heap.size ≠ g := by omega
  have ga1 : w.heap.size + 1 ≠ g := by omega
  have ga2 : w.heap.size + 1 + 1 ≠ g := by omega
  have hg0 : w.heap.size ≤ g := by omega
  clear o3 n3 hg2
  replace X0 := X0.below b3 X0.lt; replace X1 := X1.below b3 X1.lt; replace X2 := X2.below b3 X2.lt; replace B0 := B0.trans (b3.mono B0.size); have hy := X0.lt; have hz := X1.lt; have hx := X2.lt; have hb0 := B0.size; clear b3
  go_upto_region 5 with (fail)
  obtain ⟨v4, hv4⟩ : ∃ v4, v4 = w3.alloc (.cells #[.int .i64 R, .int .i64 C, .slice (some ⟨g, 0, none⟩) l.length c3] 25) := ⟨_, rfl⟩
  have X4 : Whole v4 w3.heap.size 25 [.int .i64 R, .int .i64 C, .slice (some ⟨g, 0, none⟩) l.length c3] := by rw [hv4]; exact heap_alloc_new _ _
  have b4 : Below w3.heap.size w3 v4 := by rw [hv4]; exact (Below.refl _ _).alloc (Nat.le_refl _) _
  rewrite [← hv4]
  clear hv4
  have h4w : w.heap.size + 1 + 1 < w3.heap.size := hx
  have h54 : g < w3.heap.size := hw.lt
  replace hw := hw.below b4 hw.lt
  replace X0 := X0.below b4 X0.lt; replace X1 := X1.below b4 X1.lt; replace X2 := X2.below b4 X2.lt; replace B0 := B0.trans (b4.mono B0.size); have hy := X0.lt; have hz := X1.lt; have hx := X2.lt; have hb0 := B0.size; clear b4
  have h45 := X4.lt
  generalize w3.heap.size = g4 at *
  have ga4 : g4 ≠ g := by omega
  have X1k0 : v4.cell? ⟨w.heap.size + 1, 0, none⟩ = some (.int .i64 x) := (X1.cell 0).trans rfl; have X1k1 : v4.cell? ⟨w.heap.size + 1, 1, none⟩ = some (.int .i64 y) := (X1.cell 1).trans rfl
  have X4k2 : v4.cell? ⟨g4, 2, none⟩ = some (.slice (some ⟨g, 0, none⟩) l.length c3) := (X4.cell 2).trans rfl
  have hgl := hw.lt
  have hfl := flat_length l
  have e0 : n * 2 < (flat l).length := by omega
  have e1 : n * 2 + 1 < (flat l).length := by omega
  have u0 : v4.cell? ⟨g, n * 2, none⟩ = some (flat l)[n * 2] := by rw [hw.cell, List.getElem?_append_left e0, List.getElem?_eq_getElem e0]
  have u1 : v4.cell? ⟨g, n * 2 + 1, none⟩ = some (flat l)[n * 2 + 1] := by rw [hw.cell, List.getElem?_append_left e1, List.getElem?_eq_getElem e1]
  have f0 := hw.frozen (n * 2)
  have f1 := hw.frozen (n * 2 + 1)
  generalize (flat l)[n * 2] = p0 at *
  generalize (flat l)[n * 2 + 1] = p1 at *
  have HW := Lib.hid hw
  clear hw hfl e0 e1
  go_upto_region 6 with (fail)
  have HF := flat_set l n x y hlt rest
  have hw2 := (HW.out.set (n * 2) (.int .i64 x)).set (n * 2 + 1) (.int .i64 y)
  rw [HF] at hw2
  replace X4 := (X4.set_far ⟨g, n * 2, none⟩ (.int .i64 x) (by show g ≠ _; omega)).set_far ⟨g, n * 2 + 1, none⟩ (.int .i64 y) (by show g ≠ _; omega)
  replace X2 := (X2.set_far ⟨g, n * 2, none⟩ (.int .i64 x) (by show g ≠ _; omega)).set_far ⟨g, n * 2 + 1, none⟩ (.int .i64 y) (by show g ≠ _; omega)
  replace B0 : Below w.heap.size w ((v4.setCell ⟨g, n * 2, none⟩ (.int .i64 x)).setCell ⟨g, n * 2 + 1, none⟩ (.int .i64 y)) := (B0.setCell (p := ⟨g, n * 2, none⟩) hg0 _).setCell (p := ⟨g, n * 2 + 1, none⟩) hg0 _
  clear u0 u1 f0 f1 HF HW X1 X1k0 X1k1 X0 X4k2
  generalize (v4.setCell ⟨g, n * 2, none⟩ (.int .i64 x)).setCell ⟨g, n * 2 + 1, none⟩ (.int .i64 y) = v3 at *
  have X4k0 : v3.cell? ⟨g4, 0, none⟩ = some (.int .i64 R) := (X4.cell 0).trans rfl; have X4k1 : v3.cell? ⟨g4, 1, none⟩ = some (.int .i64 C) := (X4.cell 1).trans rfl; have X4k2 : v3.cell? ⟨g4, 2, none⟩ = some (.slice (some ⟨g, 0, none⟩) l.length c3) := (X4.cell 2).trans rfl
  have X2k0 : v3.cell? ⟨w.heap.size + 1 + 1, 0, none⟩ = some (.int .i64 0) := (X2.cell 0).trans rfl; have X2k1 : v3.cell? ⟨w.heap.size + 1 + 1, 1, none⟩ = some (.int .i64 0) := (X2.cell 1).trans rfl; have X2k2 : v3.cell? ⟨w.heap.size + 1 + 1, 2, none⟩ = some (.slice none 0 0) := (X2.cell 2).trans rfl
  have X2f0 := X2.frozen 0; have X2f1 := X2.frozen 1; have X2f2 := X2.frozen 2
  go_wp2
  refine bodyPost_ret (v := .tuple #[.agg #[.int .i64 R, .int .i64 C, .slice (some ⟨g, 0, none⟩) l.length c3], .bool true]) ?_ rfl ?_; (focus (simp [results, Try.results15, go_sem, *]; done))
  rw [show l.length = (l.set n (x, y)).length by rw [List.length_set]]
  refine PostB.mk (((Own.set_far ?_ _ _ ?_).set_far _ _ ?_).set_far _ _ ?_) (fun a ha => by cases ha; exact hg0) (by (repeat' (first | (with_reducible exact Below.refl _ _) | (with_reducible assumption) | (with_reducible refine Below.alloc ?_ ?_ _) | (with_reducible refine Below.setCell ?_ ?_ _) | (with_reducible refine Below.drew ?_) | (with_reducible refine below_drewN ?_ _) | (with_reducible refine Below.trans ?_ (Below.mono (by assumption) ?_)) | (with_reducible exact Nat.le_refl _) | (simp; done) | omega | (simp at *; omega))))
  · exact fun _ => ⟨g, rest, rfl, hw2⟩
  all_goals (intro a ha; cases ha; exact ga2)
theorem impl_PutCell (R C : Int) (A : Option Addr) (cap : Nat) (l : List (Int × Int)) (i j x y : Int) (w : World) (hn : l.length ≤ 1048576) (hr : Rd w w.heap.size A (flat l)) :
    Calls Try.prog 15 #[.agg #[.int .i64 R, .int .i64 C, .slice A l.length cap], .int .i64 i, .int .i64 j, .agg #[.int .i64 x, .int .i64 y]] w (PostB w (selI (okPut R C l i j x y) R) (selI (okPut R C l i j x y) C) (putL R C l i j x y) (okPut R C l i j x y)) := by
  rcases Bool.eq_false_or_eq_true (hasB R C l i j) with hh | hh
  · rcases Bool.eq_false_or_eq_true (good x y) with hg | hg
    · exact (impl_PutCell_yes R C A cap l i j x y w hh hg hn hr).mono fun e w' h => putB_post (ok := true) (by unfold okPut; rw [hh, hg]; rfl) h
    · exact (impl_PutCell_bad R C A cap l i j x y w hh hg hn hr).mono fun e w' h => putB_post (ok := false) (by unfold okPut; rw [hg, Bool.and_false]) h
  · exact (impl_PutCell_has R C A cap l i j x y w hh hn hr).mono fun e w' h => putB_post (ok := false) (by unfold okPut; rw [hh]; rfl) h
end Go.Proofs.Ytpfjbecpfdgnpaa
