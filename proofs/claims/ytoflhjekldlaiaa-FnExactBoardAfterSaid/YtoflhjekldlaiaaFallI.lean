/- FallOf, BoardAfter, the program's. -/
import Derived.Test.YtoflhjekldlaiaaFallS
import Derived.Test.YtoflhjekldlaiaaAlone
namespace Go.Proofs.Ytoflhjekldlaiaa
open Go.ChangeShapes Go.WideShapes Go.ChangeAt Go.RowKit Go.Joins Go.Deep
set_option linter.unusedSimpArgs false
set_option linter.unusedVariables false
set_option maxRecDepth 100000
set_option maxHeartbeats 4000000
theorem impl_FallOf (R C : Int) (A : Option Addr) (cap : Nat) (l : List (Int × Int)) (j : Int) (w : World) (hn : l.length ≤ 1048576) (hr : Rd w w.heap.size A (flat l)) :
    Calls Try.prog 16 #[.agg #[.int .i64 R, .int .i64 C, .slice A l.length cap], .int .i64 j] w fun e w' => e = .returned (.tuple #[.agg #[.int .i64 (selI (okF R C l j) (marO R C l j).e), .int .i64 (selI (okF R C l j) (marO R C l j).row), .int .i64 (selI (okF R C l j) (marO R C l j).col)], .bool (okF R C l j)]) ∧ Below w.heap.size w w' := by
  rcases Bool.eq_false_or_eq_true (okF R C l j) with ho | ho
  · have HO := Lib.hid ho
    obtain ⟨hg, h1, h2⟩ := okF_parts ho
    obtain ⟨_, _, hpos⟩ := goodB_parts hg
    obtain ⟨b, o, rfl, hbl, hc⟩ := hr (by rw [flat_length]; omega)
    have hr' : Rd w w.heap.size (some ⟨b, o, none⟩) (flat l) := fun _ => ⟨b, o, rfl, hbl, hc⟩
    obtain ⟨r, c, rfl, rfl, hG⟩ := geo_of hg
    obtain ⟨cl, rfl⟩ : ∃ cl : Nat, j = (cl : Int) := ⟨j.toNat, by omega⟩
    have hcl : cl < c := by omega
    rw [ho]
    clear ho hr hG
    go_enter Try.func16, Try.ntmps16
    obtain ⟨v0, hv0, X0, X1, B0, hz0⟩ := two_boxes w [.int .i64 (r : Int), .int .i64 (c : Int), .slice (some ⟨b, o, none⟩) l.length cap] 32 [.int .i64 0, .int .i64 0, .int .i64 0] 27; have HV := Lib.hid hv0; have HZ := Lib.hid hz0; have hz : w.heap.size + 1 < v0.heap.size := (by omega); have hy : w.heap.size < v0.heap.size := (by omega); have hb0 := B0.size; clear hv0 hz0; go_wp2_with fail; rewrite [show (w.alloc (.cells ([.int .i64 (r : Int), .int .i64 (c : Int), .slice (some ⟨b, o, none⟩) l.length cap] : List Value).toArray 32)).alloc (.cells ([.int .i64 0, .int .i64 0, .int .i64 0] : List Value).toArray 27) = v0 from HV.out]; clear HV
    have X0k0 : v0.cell? ⟨w.heap.size, 0, none⟩ = some (.int .i64 (r : Int)) := (X0.cell 0).trans rfl; have X0k1 : v0.cell? ⟨w.heap.size, 1, none⟩ = some (.int .i64 (c : Int)) := (X0.cell 1).trans rfl; have X0k2 : v0.cell? ⟨w.heap.size, 2, none⟩ = some (.slice (some ⟨b, o, none⟩) l.length cap) := (X0.cell 2).trans rfl
    go_wp2_with fail
    clear X0k0 X0k1 X0k2
    have bl : Below v0.heap.size v0 (v0.alloc (.cells #[.int .i64 (cl : Int)] 3)) := (Below.refl _ _).alloc (Nat.le_refl _) _; have Xl : Whole (v0.alloc (.cells #[.int .i64 (cl : Int)] 3)) (w.heap.size + 1 + 1) 3 [.int .i64 (cl : Int)] := (by have h := heap_alloc_new v0 (.cells #[.int .i64 (cl : Int)] 3); rw [HZ.out] at h; exact h); replace X0 := X0.below bl X0.lt; replace X1 := X1.below bl X1.lt; replace B0 := B0.trans (bl.mono B0.size); have hy := X0.lt; have hz := X1.lt; have hb0 := B0.size; clear bl; generalize v0.alloc (.cells #[.int .i64 (cl : Int)] 3) = v1 at *
    refine (impl_areEntries1 _ _ _ _ l _ _ _ hn ((hr'.below B0).mono B0.size) Xl).mono ?_; rintro e w1 ⟨rfl, b1⟩
    rewrite [HO.out]
    replace X0 := X0.below b1 X0.lt; replace X1 := X1.below b1 X1.lt; replace B0 := B0.trans (b1.mono B0.size); have hy := X0.lt; have hz := X1.lt; have hb0 := B0.size; clear b1
    have X0k0 : w1.cell? ⟨w.heap.size, 0, none⟩ = some (.int .i64 (r : Int)) := (X0.cell 0).trans rfl; have X0k1 : w1.cell? ⟨w.heap.size, 1, none⟩ = some (.int .i64 (c : Int)) := (X0.cell 1).trans rfl; have X0k2 : w1.cell? ⟨w.heap.size, 2, none⟩ = some (.slice (some ⟨b, o, none⟩) l.length cap) := (X0.cell 2).trans rfl
    go_wp2_with fail
    refine (impl_fallAlone r c b o cap l cl _ hg ((hr'.below B0).mono B0.size) hcl).mono ?_; rintro e w2 ⟨A5, c5, rfl, O5, N5, b2⟩
    clear X0k0 X0k1 X0k2
    replace X0 := X0.below b2 X0.lt; replace X1 := X1.below b2 X1.lt; replace B0 := B0.trans (b2.mono B0.size); have hy := X0.lt; have hz := X1.lt; have hb0 := B0.size; clear b2
    generalize hF : marO (r : Int) (c : Int) l (cl : Int) = F at *
    have HF := Lib.hid hF
    clear hF O5 N5
    have X1k0 : w2.cell? ⟨w.heap.size + 1, 0, none⟩ = some (.int .i64 0) := (X1.cell 0).trans rfl; have X1k1 : w2.cell? ⟨w.heap.size + 1, 1, none⟩ = some (.int .i64 0) := (X1.cell 1).trans rfl; have X1k2 : w2.cell? ⟨w.heap.size + 1, 2, none⟩ = some (.int .i64 0) := (X1.cell 2).trans rfl
    have X1f0 := X1.frozen 0; have X1f1 := X1.frozen 1; have X1f2 := X1.frozen 2
    go_wp2
    refine bodyPost_ret (v := .tuple #[.agg #[.int .i64 F.e, .int .i64 F.row, .int .i64 F.col], .bool true]) ?_ rfl ?_; (focus (simp [results, Try.results16, go_sem, *]; done))
    exact ⟨ret_fb (by rw [HF.out]; rfl) (by rw [HF.out]; rfl) (by rw [HF.out]; rfl) rfl, by (repeat' (first | (with_reducible exact Below.refl _ _) | (with_reducible assumption) | (with_reducible refine Below.alloc ?_ ?_ _) | (with_reducible refine Below.setCell ?_ ?_ _) | (with_reducible refine Below.drew ?_) | (with_reducible refine below_drewN ?_ _) | (with_reducible refine Below.trans ?_ (Below.mono (by assumption) ?_)) | (with_reducible exact Nat.le_refl _) | (simp; done) | omega | (simp at *; omega)))⟩
  · have HO := Lib.hid ho
    rw [ho]
    clear ho
    go_enter Try.func16, Try.ntmps16
    obtain ⟨v0, hv0, X0, X1, B0, hz0⟩ := two_boxes w [.int .i64 R, .int .i64 C, .slice A l.length cap] 32 [.int .i64 0, .int .i64 0, .int .i64 0] 27; have HV := Lib.hid hv0; have HZ := Lib.hid hz0; have hz : w.heap.size + 1 < v0.heap.size := (by omega); have hy : w.heap.size < v0.heap.size := (by omega); have hb0 := B0.size; clear hv0 hz0; go_wp2_with fail; rewrite [show (w.alloc (.cells ([.int .i64 R, .int .i64 C, .slice A l.length cap] : List Value).toArray 32)).alloc (.cells ([.int .i64 0, .int .i64 0, .int .i64 0] : List Value).toArray 27) = v0 from HV.out]; clear HV
    have X0k0 : v0.cell? ⟨w.heap.size, 0, none⟩ = some (.int .i64 R) := (X0.cell 0).trans rfl; have X0k1 : v0.cell? ⟨w.heap.size, 1, none⟩ = some (.int .i64 C) := (X0.cell 1).trans rfl; have X0k2 : v0.cell? ⟨w.heap.size, 2, none⟩ = some (.slice A l.length cap) := (X0.cell 2).trans rfl
    go_wp2_with fail
    clear X0k0 X0k1 X0k2
    have bl : Below v0.heap.size v0 (v0.alloc (.cells #[.int .i64 j] 3)) := (Below.refl _ _).alloc (Nat.le_refl _) _; have Xl : Whole (v0.alloc (.cells #[.int .i64 j] 3)) (w.heap.size + 1 + 1) 3 [.int .i64 j] := (by have h := heap_alloc_new v0 (.cells #[.int .i64 j] 3); rw [HZ.out] at h; exact h); replace X0 := X0.below bl X0.lt; replace X1 := X1.below bl X1.lt; replace B0 := B0.trans (bl.mono B0.size); have hy := X0.lt; have hz := X1.lt; have hb0 := B0.size; clear bl; generalize v0.alloc (.cells #[.int .i64 j] 3) = v1 at *
    refine (impl_areEntries1 _ _ _ _ l _ _ _ hn ((hr.below B0).mono B0.size) Xl).mono ?_; rintro e w1 ⟨rfl, b1⟩
    rewrite [HO.out]
    replace X0 := X0.below b1 X0.lt; replace X1 := X1.below b1 X1.lt; replace B0 := B0.trans (b1.mono B0.size); have hy := X0.lt; have hz := X1.lt; have hb0 := B0.size; clear b1
    have X1k0 : w1.cell? ⟨w.heap.size + 1, 0, none⟩ = some (.int .i64 0) := (X1.cell 0).trans rfl; have X1k1 : w1.cell? ⟨w.heap.size + 1, 1, none⟩ = some (.int .i64 0) := (X1.cell 1).trans rfl; have X1k2 : w1.cell? ⟨w.heap.size + 1, 2, none⟩ = some (.int .i64 0) := (X1.cell 2).trans rfl
    have X1f0 := X1.frozen 0; have X1f1 := X1.frozen 1; have X1f2 := X1.frozen 2
    go_wp2
    refine bodyPost_ret (v := .tuple #[.agg #[.int .i64 0, .int .i64 0, .int .i64 0], .bool false]) ?_ rfl ?_; (focus (simp [results, Try.results16, go_sem, *]; done))
    exact ⟨ret_fb rfl rfl rfl rfl, by (repeat' (first | (with_reducible exact Below.refl _ _) | (with_reducible assumption) | (with_reducible refine Below.alloc ?_ ?_ _) | (with_reducible refine Below.setCell ?_ ?_ _) | (with_reducible refine Below.drew ?_) | (with_reducible refine below_drewN ?_ _) | (with_reducible refine Below.trans ?_ (Below.mono (by assumption) ?_)) | (with_reducible exact Nat.le_refl _) | (simp; done) | omega | (simp at *; omega)))⟩
theorem impl_BoardAfter (R C : Int) (A : Option Addr) (cap : Nat) (l : List (Int × Int)) (j : Int) (w : World) (hn : l.length ≤ 1048576) (hr : Rd w w.heap.size A (flat l)) :
    Calls Try.prog 20 #[.agg #[.int .i64 R, .int .i64 C, .slice A l.length cap], .int .i64 j] w (PostB w (selI (okF R C l j) R) (selI (okF R C l j) C) (afterL R C l j) (okF R C l j)) := by
  unfold afterL
  rcases Bool.eq_false_or_eq_true (okF R C l j) with ho | ho
  · have HO := Lib.hid ho
    obtain ⟨hg, h1, h2⟩ := okF_parts ho
    obtain ⟨_, _, hpos⟩ := goodB_parts hg
    obtain ⟨b, o, rfl, hbl, hc⟩ := hr (by rw [flat_length]; omega)
    have hr' : Rd w w.heap.size (some ⟨b, o, none⟩) (flat l) := fun _ => ⟨b, o, rfl, hbl, hc⟩
    obtain ⟨r, c, rfl, rfl, hG⟩ := geo_of hg
    obtain ⟨cl, rfl⟩ : ∃ cl : Nat, j = (cl : Int) := ⟨j.toNat, by omega⟩
    have hcl : cl < c := by omega
    rw [ho]
    have HLn := Lib.hid (marO_len (r : Int) (c : Int) l (cl : Int))
    have HM := Lib.hid (show flG (numL c l) r c r 0 l cl 0 [] = marO (r : Int) (c : Int) l (cl : Int) from rfl)
    clear ho hr
    go_enter Try.func20, Try.ntmps20
    obtain ⟨v0, hv0, X0, X1, B0, hz0⟩ := two_boxes w [.int .i64 (r : Int), .int .i64 (c : Int), .slice (some ⟨b, o, none⟩) l.length cap] 32 [.int .i64 0, .int .i64 0, .slice none 0 0] 32; have HV := Lib.hid hv0; have HZ := Lib.hid hz0; have hz : w.heap.size + 1 < v0.heap.size := (by omega); have hy : w.heap.size < v0.heap.size := (by omega); have hb0 := B0.size; clear hv0 hz0; go_wp2_with fail; rewrite [show (w.alloc (.cells ([.int .i64 (r : Int), .int .i64 (c : Int), .slice (some ⟨b, o, none⟩) l.length cap] : List Value).toArray 32)).alloc (.cells ([.int .i64 0, .int .i64 0, .slice none 0 0] : List Value).toArray 32) = v0 from HV.out]; clear HV
    have X0k0 : v0.cell? ⟨w.heap.size, 0, none⟩ = some (.int .i64 (r : Int)) := (X0.cell 0).trans rfl; have X0k1 : v0.cell? ⟨w.heap.size, 1, none⟩ = some (.int .i64 (c : Int)) := (X0.cell 1).trans rfl; have X0k2 : v0.cell? ⟨w.heap.size, 2, none⟩ = some (.slice (some ⟨b, o, none⟩) l.length cap) := (X0.cell 2).trans rfl
    go_wp2_with fail
    clear X0k0 X0k1 X0k2
    have bl : Below v0.heap.size v0 (v0.alloc (.cells #[.int .i64 (cl : Int)] 3)) := (Below.refl _ _).alloc (Nat.le_refl _) _; have Xl : Whole (v0.alloc (.cells #[.int .i64 (cl : Int)] 3)) (w.heap.size + 1 + 1) 3 [.int .i64 (cl : Int)] := (by have h := heap_alloc_new v0 (.cells #[.int .i64 (cl : Int)] 3); rw [HZ.out] at h; exact h); replace X0 := X0.below bl X0.lt; replace X1 := X1.below bl X1.lt; replace B0 := B0.trans (bl.mono B0.size); have hy := X0.lt; have hz := X1.lt; have hb0 := B0.size; clear bl; generalize v0.alloc (.cells #[.int .i64 (cl : Int)] 3) = v1 at *
    refine (impl_areEntries1 _ _ _ _ l _ _ _ hn ((hr'.below B0).mono B0.size) Xl).mono ?_; rintro e w1 ⟨rfl, b1⟩
    rewrite [HO.out]
    replace X0 := X0.below b1 X0.lt; replace X1 := X1.below b1 X1.lt; replace B0 := B0.trans (b1.mono B0.size); have hy := X0.lt; have hz := X1.lt; have hb0 := B0.size; clear b1
    clear Xl HZ
    have X0k0 : w1.cell? ⟨w.heap.size, 0, none⟩ = some (.int .i64 (r : Int)) := (X0.cell 0).trans rfl; have X0k1 : w1.cell? ⟨w.heap.size, 1, none⟩ = some (.int .i64 (c : Int)) := (X0.cell 1).trans rfl; have X0k2 : w1.cell? ⟨w.heap.size, 2, none⟩ = some (.slice (some ⟨b, o, none⟩) l.length cap) := (X0.cell 2).trans rfl
    go_wp2_with fail
    refine (impl_cloneBoard (r : Int) (c : Int) b o cap l _ hn ((hr'.below B0).mono B0.size)).mono ?_; rintro e w2 ⟨A5, c5, rfl, o5, n5, b2⟩
    clear X0k0 X0k1 X0k2
    have h51 : ∀ a, A5 = some a → w.heap.size + 1 < a.block := fun a ha => by have h := n5 a ha; omega
    replace X0 := X0.below b2 X0.lt; replace X1 := X1.below b2 X1.lt; replace B0 := B0.trans (b2.mono B0.size); have hy := X0.lt; have hz := X1.lt; have hb0 := B0.size; clear b2
    obtain ⟨g5, rest5, rfl, X7⟩ := o5 (by rw [flat_length]; omega)
    have h5 : w.heap.size + 1 < g5 := h51 _ rfl
    clear n5 o5 h51
    go_upto_region 4 with (fail)
    obtain ⟨v4, hv4⟩ : ∃ v4, v4 = w2.alloc (.cells #[.int .i64 (r : Int), .int .i64 (c : Int), .slice (some ⟨g5, 0, none⟩) l.length c5] 32) := ⟨_, rfl⟩
    have X4 : Whole v4 w2.heap.size 32 [.int .i64 (r : Int), .int .i64 (c : Int), .slice (some ⟨g5, 0, none⟩) l.length c5] := by rw [hv4]; exact newW
    have b4 : Below w2.heap.size w2 v4 := by rw [hv4]; exact (Below.refl _ _).alloc (Nat.le_refl _) _
    rewrite [← hv4]
    clear hv4
    have h4w : w.heap.size + 1 < w2.heap.size := hz
    have h54 : g5 < w2.heap.size := X7.lt
    replace X7 := X7.below b4 X7.lt
    replace X0 := X0.below b4 X0.lt; replace X1 := X1.below b4 X1.lt; replace B0 := B0.trans (b4.mono B0.size); have hy := X0.lt; have hz := X1.lt; have hb0 := B0.size; clear b4
    have h45 := X4.lt
    generalize w2.heap.size = g4 at *
    have X4k0 : v4.cell? ⟨g4, 0, none⟩ = some (.int .i64 (r : Int)) := (X4.cell 0).trans rfl; have X4k1 : v4.cell? ⟨g4, 1, none⟩ = some (.int .i64 (c : Int)) := (X4.cell 1).trans rfl; have X4k2 : v4.cell? ⟨g4, 2, none⟩ = some (.slice (some ⟨g5, 0, none⟩) l.length c5) := (X4.cell 2).trans rfl
    go_wp2_with fail
    refine (impl_letFall r c g5 c5 l rest5 cl _ hG hg hcl X7).mono ?_; rintro e w6 ⟨Am, cm, rfl, oA, nA, X7', gb⟩
    rw [HM.out] at X7'
    clear X4k0 X4k1 X4k2
    have n5 : ∀ {g : Nat}, g ≠ g5 → some g ≠ some g5 := fun h e => h (by injection e)
    replace X1 := X1.grown gb (n5 (by omega))
    replace X4 := X4.grown gb (n5 (by omega))
    have B6 : Below w.heap.size w w6 := B0.grown gb B0.size (fun k e => by cases e; omega)
    clear gb n5 oA nA X7 X0 B0 hb0 hy hz
    have HPo := Lib.hid (show (if true = true then (marO (r : Int) (c : Int) l (cl : Int)).cells else []) = (marO (r : Int) (c : Int) l (cl : Int)).cells from rfl)
    have X4k0 : w6.cell? ⟨g4, 0, none⟩ = some (.int .i64 (r : Int)) := (X4.cell 0).trans rfl; have X4k1 : w6.cell? ⟨g4, 1, none⟩ = some (.int .i64 (c : Int)) := (X4.cell 1).trans rfl; have X4k2 : w6.cell? ⟨g4, 2, none⟩ = some (.slice (some ⟨g5, 0, none⟩) l.length c5) := (X4.cell 2).trans rfl
    have X1k0 : w6.cell? ⟨w.heap.size + 1, 0, none⟩ = some (.int .i64 0) := (X1.cell 0).trans rfl; have X1k1 : w6.cell? ⟨w.heap.size + 1, 1, none⟩ = some (.int .i64 0) := (X1.cell 1).trans rfl; have X1k2 : w6.cell? ⟨w.heap.size + 1, 2, none⟩ = some (.slice none 0 0) := (X1.cell 2).trans rfl
    have X1f0 := X1.frozen 0; have X1f1 := X1.frozen 1; have X1f2 := X1.frozen 2
    go_wp2
    refine bodyPost_ret (v := .tuple #[.agg #[.int .i64 (r : Int), .int .i64 (c : Int), .slice (some ⟨g5, 0, none⟩) l.length c5], .bool true]) ?_ rfl ?_; (focus (simp [results, Try.results20, go_sem, *]; done))
    rw [← HLn.out]
    exact PostB.mk (fun _ => ⟨g5, rest5, rfl, three_far X7' (by omega)⟩) (fun a ha => by cases ha; show w.heap.size ≤ g5; omega) (((B6.setCell (p := ⟨w.heap.size + 1, 0, none⟩) (by show w.heap.size ≤ w.heap.size + 1; omega) _).setCell (p := ⟨w.heap.size + 1, 1, none⟩) (by show w.heap.size ≤ w.heap.size + 1; omega) _).setCell (p := ⟨w.heap.size + 1, 2, none⟩) (by show w.heap.size ≤ w.heap.size + 1; omega) _)
  · have HO := Lib.hid ho
    rw [ho]
    clear ho
    go_enter Try.func20, Try.ntmps20
    obtain ⟨v0, hv0, X0, X1, B0, hz0⟩ := two_boxes w [.int .i64 R, .int .i64 C, .slice A l.length cap] 32 [.int .i64 0, .int .i64 0, .slice none 0 0] 32; have HV := Lib.hid hv0; have HZ := Lib.hid hz0; have hz : w.heap.size + 1 < v0.heap.size := (by omega); have hy : w.heap.size < v0.heap.size := (by omega); have hb0 := B0.size; clear hv0 hz0; go_wp2_with fail; rewrite [show (w.alloc (.cells ([.int .i64 R, .int .i64 C, .slice A l.length cap] : List Value).toArray 32)).alloc (.cells ([.int .i64 0, .int .i64 0, .slice none 0 0] : List Value).toArray 32) = v0 from HV.out]; clear HV
    have X0k0 : v0.cell? ⟨w.heap.size, 0, none⟩ = some (.int .i64 R) := (X0.cell 0).trans rfl; have X0k1 : v0.cell? ⟨w.heap.size, 1, none⟩ = some (.int .i64 C) := (X0.cell 1).trans rfl; have X0k2 : v0.cell? ⟨w.heap.size, 2, none⟩ = some (.slice A l.length cap) := (X0.cell 2).trans rfl
    go_wp2_with fail
    clear X0k0 X0k1 X0k2
    have bl : Below v0.heap.size v0 (v0.alloc (.cells #[.int .i64 j] 3)) := (Below.refl _ _).alloc (Nat.le_refl _) _; have Xl : Whole (v0.alloc (.cells #[.int .i64 j] 3)) (w.heap.size + 1 + 1) 3 [.int .i64 j] := (by have h := heap_alloc_new v0 (.cells #[.int .i64 j] 3); rw [HZ.out] at h; exact h); replace X0 := X0.below bl X0.lt; replace X1 := X1.below bl X1.lt; replace B0 := B0.trans (bl.mono B0.size); have hy := X0.lt; have hz := X1.lt; have hb0 := B0.size; clear bl; generalize v0.alloc (.cells #[.int .i64 j] 3) = v1 at *
    refine (impl_areEntries1 _ _ _ _ l _ _ _ hn ((hr.below B0).mono B0.size) Xl).mono ?_; rintro e w1 ⟨rfl, b1⟩
    rewrite [HO.out]
    replace X0 := X0.below b1 X0.lt; replace X1 := X1.below b1 X1.lt; replace B0 := B0.trans (b1.mono B0.size); have hy := X0.lt; have hz := X1.lt; have hb0 := B0.size; clear b1
    have X1k0 : w1.cell? ⟨w.heap.size + 1, 0, none⟩ = some (.int .i64 0) := (X1.cell 0).trans rfl; have X1k1 : w1.cell? ⟨w.heap.size + 1, 1, none⟩ = some (.int .i64 0) := (X1.cell 1).trans rfl; have X1k2 : w1.cell? ⟨w.heap.size + 1, 2, none⟩ = some (.slice none 0 0) := (X1.cell 2).trans rfl
    have X1f0 := X1.frozen 0; have X1f1 := X1.frozen 1; have X1f2 := X1.frozen 2
    go_wp2
    refine bodyPost_ret (v := .tuple #[.agg #[.int .i64 0, .int .i64 0, .slice none 0 0], .bool false]) ?_ rfl ?_; (focus (simp [results, Try.results20, go_sem, *]; done))
    exact PostB.none_ (by (repeat' (first | (with_reducible exact Below.refl _ _) | (with_reducible assumption) | (with_reducible refine Below.alloc ?_ ?_ _) | (with_reducible refine Below.setCell ?_ ?_ _) | (with_reducible refine Below.drew ?_) | (with_reducible refine below_drewN ?_ _) | (with_reducible refine Below.trans ?_ (Below.mono (by assumption) ?_)) | (with_reducible exact Nat.le_refl _) | (simp; done) | omega | (simp at *; omega))))
end Go.Proofs.Ytoflhjekldlaiaa
