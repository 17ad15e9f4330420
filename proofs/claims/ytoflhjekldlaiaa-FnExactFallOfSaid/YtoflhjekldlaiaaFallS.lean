/- FallOf, BoardAfter, the model's. -/
import Derived.Test.YtoflhjekldlaiaaRun
namespace Go.Proofs.Ytoflhjekldlaiaa
open Go.ChangeShapes Go.WideShapes Go.ChangeAt Go.RowKit Go.Joins Go.Deep
set_option linter.unusedSimpArgs false
set_option linter.unusedVariables false
set_option maxRecDepth 100000
set_option maxHeartbeats 4000000
theorem okF_parts {R C : Int} {l : List (Int × Int)} {j : Int} (h : okF R C l j = true) : goodB R C l = true ∧ 0 ≤ j ∧ j < C := by
  unfold okF at h
  rw [Bool.and_eq_true, decide_eq_true_eq] at h
  exact h
theorem ret_fb {a b c a' b' c' : Int} {x y : Bool} (h1 : a = a') (h2 : b = b') (h3 : c = c') (h4 : x = y) : Ending.returned (.tuple #[.agg #[.int .i64 a, .int .i64 b, .int .i64 c], .bool x]) = .returned (.tuple #[.agg #[.int .i64 a', .int .i64 b', .int .i64 c'], .bool y]) := by rw [h1, h2, h3, h4]
theorem spec_FallOf (R C : Int) (A : Option Addr) (cap : Nat) (l : List (Int × Int)) (j : Int) (w : World) (hn : l.length ≤ 1048576) (hr : Rd w w.heap.size A (flat l)) :
    Calls Try.prog 14 #[.agg #[.int .i64 R, .int .i64 C, .slice A l.length cap], .int .i64 j] w fun e w' => e = .returned (.tuple #[.agg #[.int .i64 (selI (okF R C l j) (marO R C l j).e), .int .i64 (selI (okF R C l j) (marO R C l j).row), .int .i64 (selI (okF R C l j) (marO R C l j).col)], .bool (okF R C l j)]) ∧ Below w.heap.size w w' := by
  rcases Bool.eq_false_or_eq_true (okF R C l j) with ho | ho
  · have HO := Lib.hid ho
    obtain ⟨hg, h1, h2⟩ := okF_parts ho
    obtain ⟨_, _, hpos⟩ := goodB_parts hg
    obtain ⟨b, o, rfl, hbl, hc⟩ := hr (by rw [flat_length]; omega)
    have hr' : Rd w w.heap.size (some ⟨b, o, none⟩) (flat l) := fun _ => ⟨b, o, rfl, hbl, hc⟩
    obtain ⟨r, c, rfl, rfl, hG⟩ := geo_of hg
    obtain ⟨cl, rfl⟩ : ∃ cl : Nat, j = (cl : Int) := ⟨j.toNat, by omega⟩
    have hcl : cl < c := by omega
    rw [ho]
    clear ho hr hG
    go_enter Try.func14, Try.ntmps14
    obtain ⟨v0, hv0, X0, X1, B0, hz0⟩ := two_boxes w [.int .i64 (r : Int), .int .i64 (c : Int), .slice (some ⟨b, o, none⟩) l.length cap] 32 [.int .i64 0, .int .i64 0, .int .i64 0] 27; have HV := Lib.hid hv0; have hz : w.heap.size + 1 < v0.heap.size := (by omega); have hy : w.heap.size < v0.heap.size := (by omega); have hb0 := B0.size; clear hv0 hz0; go_wp2_with fail; rewrite [show (w.alloc (.cells ([.int .i64 (r : Int), .int .i64 (c : Int), .slice (some ⟨b, o, none⟩) l.length cap] : List Value).toArray 32)).alloc (.cells ([.int .i64 0, .int .i64 0, .int .i64 0] : List Value).toArray 27) = v0 from HV.out]; clear HV
    refine (spec_flHas _ _ _ _ l _ _ hn ((hr'.below B0).mono B0.size)).mono ?_; rintro e w1 ⟨rfl, b1⟩
    rewrite [HO.out]
    replace X0 := X0.below b1 X0.lt; replace X1 := X1.below b1 X1.lt; replace B0 := B0.trans (b1.mono B0.size); have hy := X0.lt; have hz := X1.lt; have hb0 := B0.size; clear b1
    have X0k0 : w1.cell? ⟨w.heap.size, 0, none⟩ = some (.int .i64 (r : Int)) := (X0.cell 0).trans rfl; have X0k1 : w1.cell? ⟨w.heap.size, 1, none⟩ = some (.int .i64 (c : Int)) := (X0.cell 1).trans rfl; have X0k2 : w1.cell? ⟨w.heap.size, 2, none⟩ = some (.slice (some ⟨b, o, none⟩) l.length cap) := (X0.cell 2).trans rfl
    go_wp2_with fail
    refine (spec_flRun r c b o cap l cl _ hg ((hr'.below B0).mono B0.size) hcl).mono ?_; rintro e w2 ⟨A5, c5, rfl, O5, N5, b2⟩
    clear X0k0 X0k1 X0k2
    replace X0 := X0.below b2 X0.lt; replace X1 := X1.below b2 X1.lt; replace B0 := B0.trans (b2.mono B0.size); have hy := X0.lt; have hz := X1.lt; have hb0 := B0.size; clear b2
    generalize hF : marO (r : Int) (c : Int) l (cl : Int) = F at *
    have HF := Lib.hid hF
    clear hF
    have X1k0 : w2.cell? ⟨w.heap.size + 1, 0, none⟩ = some (.int .i64 0) := (X1.cell 0).trans rfl; have X1k1 : w2.cell? ⟨w.heap.size + 1, 1, none⟩ = some (.int .i64 0) := (X1.cell 1).trans rfl; have X1k2 : w2.cell? ⟨w.heap.size + 1, 2, none⟩ = some (.int .i64 0) := (X1.cell 2).trans rfl
    have X1f0 := X1.frozen 0; have X1f1 := X1.frozen 1; have X1f2 := X1.frozen 2
    go_wp2
    refine bodyPost_ret (v := .tuple #[.agg #[.int .i64 F.e, .int .i64 F.row, .int .i64 F.col], .bool true]) ?_ rfl ?_; (focus (simp [results, Try.results14, go_sem, *]; done))
    exact ⟨ret_fb (by rw [HF.out]; rfl) (by rw [HF.out]; rfl) (by rw [HF.out]; rfl) rfl, by (repeat' (first | (with_reducible exact Below.refl _ _) | (with_reducible assumption) | (with_reducible refine Below.alloc ?_ ?_ _) | (with_reducible refine Below.setCell ?_ ?_ _) | (with_reducible refine Below.drew ?_) | (with_reducible refine below_drewN ?_ _) | (with_reducible refine Below.trans ?_ (Below.mono (by assumption) ?_)) | (with_reducible exact Nat.le_refl _) | (simp; done) | omega | (simp at *; omega)))⟩
  · have HO := Lib.hid ho
    rw [ho]
    clear ho
    go_enter Try.func14, Try.ntmps14
    obtain ⟨v0, hv0, X0, X1, B0, hz0⟩ := two_boxes w [.int .i64 R, .int .i64 C, .slice A l.length cap] 32 [.int .i64 0, .int .i64 0, .int .i64 0] 27; have HV := Lib.hid hv0; have hz : w.heap.size + 1 < v0.heap.size := (by omega); have hy : w.heap.size < v0.heap.size := (by omega); have hb0 := B0.size; clear hv0 hz0; go_wp2_with fail; rewrite [show (w.alloc (.cells ([.int .i64 R, .int .i64 C, .slice A l.length cap] : List Value).toArray 32)).alloc (.cells ([.int .i64 0, .int .i64 0, .int .i64 0] : List Value).toArray 27) = v0 from HV.out]; clear HV
    refine (spec_flHas _ _ _ _ l _ _ hn ((hr.below B0).mono B0.size)).mono ?_; rintro e w1 ⟨rfl, b1⟩
    rewrite [HO.out]
    replace X0 := X0.below b1 X0.lt; replace X1 := X1.below b1 X1.lt; replace B0 := B0.trans (b1.mono B0.size); have hy := X0.lt; have hz := X1.lt; have hb0 := B0.size; clear b1
    have X1k0 : w1.cell? ⟨w.heap.size + 1, 0, none⟩ = some (.int .i64 0) := (X1.cell 0).trans rfl; have X1k1 : w1.cell? ⟨w.heap.size + 1, 1, none⟩ = some (.int .i64 0) := (X1.cell 1).trans rfl; have X1k2 : w1.cell? ⟨w.heap.size + 1, 2, none⟩ = some (.int .i64 0) := (X1.cell 2).trans rfl
    have X1f0 := X1.frozen 0; have X1f1 := X1.frozen 1; have X1f2 := X1.frozen 2
    go_wp2
    refine bodyPost_ret (v := .tuple #[.agg #[.int .i64 0, .int .i64 0, .int .i64 0], .bool false]) ?_ rfl ?_; (focus (simp [results, Try.results14, go_sem, *]; done))
    exact ⟨ret_fb rfl rfl rfl rfl, by (repeat' (first | (with_reducible exact Below.refl _ _) | (with_reducible assumption) | (with_reducible refine Below.alloc ?_ ?_ _) | (with_reducible refine Below.setCell ?_ ?_ _) | (with_reducible refine Below.drew ?_) | (with_reducible refine below_drewN ?_ _) | (with_reducible refine Below.trans ?_ (Below.mono (by assumption) ?_)) | (with_reducible exact Nat.le_refl _) | (simp; done) | omega | (simp at *; omega)))⟩
def afterL (R C : Int) (l : List (Int × Int)) (j : Int) : List (Int × Int) := if okF R C l j then (marO R C l j).cells else []
theorem flG_len (nm : List Int) (r c : Nat) : ∀ (n row : Nat) (l : List (Int × Int)) (col : Nat) (side : Int) (way : List (List Nat)), (flG nm r c n row l col side way).cells.length = l.length
  | 0, _, _, _, _, _ => rfl
  | n + 1, row, l, col, side, way => by
    rw [flG_step nm r c n row l col side way _ _ rfl rfl]
    split
    · rfl
    · split
      · rw [flG_len nm r c n, passL_len]
      · exact passL_len _ _ _
theorem marO_len (R C : Int) (l : List (Int × Int)) (j : Int) : (marO R C l j).cells.length = l.length := flG_len _ _ _ _ _ _ _ _ _
theorem afterL_len (R C : Int) (l : List (Int × Int)) (j : Int) (hn : l.length ≤ 1048576) : (afterL R C l j).length ≤ 1048576 := by
  unfold afterL
  split
  · rw [marO_len]; exact hn
  · simp
theorem spec_BoardAfter (R C : Int) (A : Option Addr) (cap : Nat) (l : List (Int × Int)) (j : Int) (w : World) (hn : l.length ≤ 1048576) (hr : Rd w w.heap.size A (flat l)) :
    Calls Try.prog 19 #[.agg #[.int .i64 R, .int .i64 C, .slice A l.length cap], .int .i64 j] w (PostB w (selI (okF R C l j) R) (selI (okF R C l j) C) (afterL R C l j) (okF R C l j)) := by
  unfold afterL
  rcases Bool.eq_false_or_eq_true (okF R C l j) with ho | ho
  · have HO := Lib.hid ho
    obtain ⟨hg, h1, h2⟩ := okF_parts ho
    obtain ⟨_, _, hpos⟩ := goodB_parts hg
    obtain ⟨b, o, rfl, hbl, hc⟩ := hr (by rw [flat_length]; omega)
    have hr' : Rd w w.heap.size (some ⟨b, o, none⟩) (flat l) := fun _ => ⟨b, o, rfl, hbl, hc⟩
    obtain ⟨r, c, rfl, rfl, hG⟩ := geo_of hg
    obtain ⟨cl, rfl⟩ : ∃ cl : Nat, j = (cl : Int) := ⟨j.toNat, by omega⟩
    have hcl : cl < c := by omega
    rw [ho]
    have HLn := Lib.hid (marO_len (r : Int) (c : Int) l (cl : Int))
    clear ho hr hG
    go_enter Try.func19, Try.ntmps19
    obtain ⟨v0, hv0, X0, X1, B0, hz0⟩ := two_boxes w [.int .i64 (r : Int), .int .i64 (c : Int), .slice (some ⟨b, o, none⟩) l.length cap] 32 [.int .i64 0, .int .i64 0, .slice none 0 0] 32; have HV := Lib.hid hv0; have hz : w.heap.size + 1 < v0.heap.size := (by omega); have hy : w.heap.size < v0.heap.size := (by omega); have hb0 := B0.size; clear hv0 hz0; go_wp2_with fail; rewrite [show (w.alloc (.cells ([.int .i64 (r : Int), .int .i64 (c : Int), .slice (some ⟨b, o, none⟩) l.length cap] : List Value).toArray 32)).alloc (.cells ([.int .i64 0, .int .i64 0, .slice none 0 0] : List Value).toArray 32) = v0 from HV.out]; clear HV
    refine (spec_flHas _ _ _ _ l _ _ hn ((hr'.below B0).mono B0.size)).mono ?_; rintro e w1 ⟨rfl, b1⟩
    rewrite [HO.out]
    replace X0 := X0.below b1 X0.lt; replace X1 := X1.below b1 X1.lt; replace B0 := B0.trans (b1.mono B0.size); have hy := X0.lt; have hz := X1.lt; have hb0 := B0.size; clear b1
    have X0k0 : w1.cell? ⟨w.heap.size, 0, none⟩ = some (.int .i64 (r : Int)) := (X0.cell 0).trans rfl; have X0k1 : w1.cell? ⟨w.heap.size, 1, none⟩ = some (.int .i64 (c : Int)) := (X0.cell 1).trans rfl; have X0k2 : w1.cell? ⟨w.heap.size, 2, none⟩ = some (.slice (some ⟨b, o, none⟩) l.length cap) := (X0.cell 2).trans rfl
    go_wp2_with fail
    refine (spec_flRun r c b o cap l cl _ hg ((hr'.below B0).mono B0.size) hcl).mono ?_; rintro e w2 ⟨A5, c5, rfl, O5, N5, b2⟩
    clear X0k0 X0k1 X0k2
    replace X0 := X0.below b2 X0.lt; replace X1 := X1.below b2 X1.lt; replace B0 := B0.trans (b2.mono B0.size); have hy := X0.lt; have hz := X1.lt; have hb0 := B0.size; clear b2
    have HPo := Lib.hid (show (if true = true then (marO (r : Int) (c : Int) l (cl : Int)).cells else []) = (marO (r : Int) (c : Int) l (cl : Int)).cells from rfl)
    have X1k0 : w2.cell? ⟨w.heap.size + 1, 0, none⟩ = some (.int .i64 0) := (X1.cell 0).trans rfl; have X1k1 : w2.cell? ⟨w.heap.size + 1, 1, none⟩ = some (.int .i64 0) := (X1.cell 1).trans rfl; have X1k2 : w2.cell? ⟨w.heap.size + 1, 2, none⟩ = some (.slice none 0 0) := (X1.cell 2).trans rfl
    have X1f0 := X1.frozen 0; have X1f1 := X1.frozen 1; have X1f2 := X1.frozen 2
    have hap : ∀ a, A5 = some a → w.heap.size + 1 ≠ a.block := fun a ha => by have h := N5 a ha; omega
    go_wp2
    refine bodyPost_ret (v := .tuple #[.agg #[.int .i64 (r : Int), .int .i64 (c : Int), .slice A5 l.length c5], .bool true]) ?_ rfl ?_; (focus (simp [results, Try.results19, go_sem, *]; done))
    rw [← HLn.out]
    exact PostB.mk (((((O5.set_far ⟨w.heap.size + 1, 0, none⟩ _ hap).set_far ⟨w.heap.size + 1, 1, none⟩ _ hap).set_far ⟨w.heap.size + 1, 2, none⟩ _ hap).alloc_ _).alloc_ _) (fun a ha => by have h := N5 a ha; omega) (by (repeat' (first | (with_reducible exact Below.refl _ _) | (with_reducible assumption) | (with_reducible refine Below.alloc ?_ ?_ _) | (with_reducible refine Below.setCell ?_ ?_ _) | (with_reducible refine Below.drew ?_) | (with_reducible refine below_drewN ?_ _) | (with_reducible refine Below.trans ?_ (Below.mono (by assumption) ?_)) | (with_reducible exact Nat.le_refl _) | (simp; done) | omega | (simp at *; omega))))
  · have HO := Lib.hid ho
    rw [ho]
    clear ho
    go_enter Try.func19, Try.ntmps19
    obtain ⟨v0, hv0, X0, X1, B0, hz0⟩ := two_boxes w [.int .i64 R, .int .i64 C, .slice A l.length cap] 32 [.int .i64 0, .int .i64 0, .slice none 0 0] 32; have HV := Lib.hid hv0; have hz : w.heap.size + 1 < v0.heap.size := (by omega); have hy : w.heap.size < v0.heap.size := (by omega); have hb0 := B0.size; clear hv0 hz0; go_wp2_with fail; rewrite [show (w.alloc (.cells ([.int .i64 R, .int .i64 C, .slice A l.length cap] : List Value).toArray 32)).alloc (.cells ([.int .i64 0, .int .i64 0, .slice none 0 0] : List Value).toArray 32) = v0 from HV.out]; clear HV
    refine (spec_flHas _ _ _ _ l _ _ hn ((hr.below B0).mono B0.size)).mono ?_; rintro e w1 ⟨rfl, b1⟩
    rewrite [HO.out]
    replace X0 := X0.below b1 X0.lt; replace X1 := X1.below b1 X1.lt; replace B0 := B0.trans (b1.mono B0.size); have hy := X0.lt; have hz := X1.lt; have hb0 := B0.size; clear b1
    have X1k0 : w1.cell? ⟨w.heap.size + 1, 0, none⟩ = some (.int .i64 0) := (X1.cell 0).trans rfl; have X1k1 : w1.cell? ⟨w.heap.size + 1, 1, none⟩ = some (.int .i64 0) := (X1.cell 1).trans rfl; have X1k2 : w1.cell? ⟨w.heap.size + 1, 2, none⟩ = some (.slice none 0 0) := (X1.cell 2).trans rfl
    have X1f0 := X1.frozen 0; have X1f1 := X1.frozen 1; have X1f2 := X1.frozen 2
    go_wp2
    refine bodyPost_ret (v := .tuple #[.agg #[.int .i64 0, .int .i64 0, .slice none 0 0], .bool false]) ?_ rfl ?_; (focus (simp [results, Try.results19, go_sem, *]; done))
    exact PostB.none_ (by (repeat' (first | (with_reducible exact Below.refl _ _) | (with_reducible assumption) | (with_reducible refine Below.alloc ?_ ?_ _) | (with_reducible refine Below.setCell ?_ ?_ _) | (with_reducible refine Below.drew ?_) | (with_reducible refine below_drewN ?_ _) | (with_reducible refine Below.trans ?_ (Below.mono (by assumption) ?_)) | (with_reducible exact Nat.le_refl _) | (simp; done) | omega | (simp at *; omega))))
end Go.Proofs.Ytoflhjekldlaiaa
