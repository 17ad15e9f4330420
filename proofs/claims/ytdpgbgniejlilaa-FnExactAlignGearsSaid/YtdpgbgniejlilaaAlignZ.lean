/- AlignGears, both. -/
import Derived.Test.YtdpgbgniejlilaaAlignW
namespace Go.Proofs.Ytdpgbgniejlilaa
open Go.ChangeShapes Go.WideShapes Go.ChangeAt Go.RowKit Go.Joins Go.Deep
set_option linter.unusedSimpArgs false
set_option linter.unusedVariables false
set_option maxRecDepth 100000
set_option maxHeartbeats 4000000
theorem spec_AlignGears_not (R C : Int) (A : Option Addr) (cap : Nat) (l : List (Int × Int)) (w : World) (hh : goodB R C l = false) (hn : l.length ≤ 1048576) (hr : Rd w w.heap.size A (flat l)) :
    Calls Try.prog 17 #[.agg #[.int .i64 R, .int .i64 C, .slice A l.length cap]] w (PostB w 0 0 [] false) := by
  have HH := Lib.hid hh
  clear hh
  go_enter Try.func17, Try.ntmps17
  obtain ⟨v0, hv0, X0, X1, B0, hz0⟩ := two_boxes w [.int .i64 R, .int .i64 C, .slice A l.length cap] 30 [.int .i64 0, .int .i64 0, .slice none 0 0] 30; have HV := Lib.hid hv0; have hz : w.heap.size + 1 < v0.heap.size := (by omega); have hy : w.heap.size < v0.heap.size := (by omega); have hb0 := B0.size; clear hv0 hz0; go_wp2_with fail; rewrite [show (w.alloc (.cells ([.int .i64 R, .int .i64 C, .slice A l.length cap] : List Value).toArray 30)).alloc (.cells ([.int .i64 0, .int .i64 0, .slice none 0 0] : List Value).toArray 30) = v0 from HV.out]; clear HV
  refine (spec_boGood _ _ _ _ l _ hn ((hr.below B0).mono B0.size)).mono ?_; rintro e w1 ⟨rfl, b1⟩
  rewrite [HH.out]
  replace X0 := X0.below b1 X0.lt; replace X1 := X1.below b1 X1.lt; replace B0 := B0.trans (b1.mono B0.size); have hy := X0.lt; have hz := X1.lt; have hb0 := B0.size; clear b1
  (have X1k0 : w1.cell? ⟨w.heap.size + 1, 0, none⟩ = some (.int .i64 0) := (X1.cell 0).trans rfl; have X1k1 : w1.cell? ⟨w.heap.size + 1, 1, none⟩ = some (.int .i64 0) := (X1.cell 1).trans rfl; have X1k2 : w1.cell? ⟨w.heap.size + 1, 2, none⟩ = some (.slice none 0 0) := (X1.cell 2).trans rfl; have X1f0 := X1.frozen 0; have X1f1 := X1.frozen 1; have X1f2 := X1.frozen 2)
  go_wp2
  refine bodyPost_ret (v := .tuple #[.agg #[.int .i64 0, .int .i64 0, .slice none 0 0], .bool false]) ?_ rfl ?_; (focus (simp [results, Try.results17, go_sem, *]; done))
  exact PostB.none_ (by (repeat' (first | (with_reducible exact Below.refl _ _) | (with_reducible assumption) | (with_reducible refine Below.alloc ?_ ?_ _) | (with_reducible refine Below.setCell ?_ ?_ _) | (with_reducible refine Below.drew ?_) | (with_reducible refine below_drewN ?_ _) | (with_reducible refine Below.trans ?_ (Below.mono (by assumption) ?_)) | (with_reducible exact Nat.le_refl _) | (simp; done) | omega | (simp at *; omega))))
theorem spec_AlignGears (R C : Int) (A : Option Addr) (cap : Nat) (l : List (Int × Int)) (w : World) (hn : l.length ≤ 1048576) (hr : Rd w w.heap.size A (flat l)) :
    Calls Try.prog 17 #[.agg #[.int .i64 R, .int .i64 C, .slice A l.length cap]] w (PostB w (selI (goodB R C l) R) (selI (goodB R C l) C) (alignB R C l) (goodB R C l)) := by
  rcases Bool.eq_false_or_eq_true (goodB R C l) with hg | hg
  · have hpos := (goodB_parts hg).2.2
    obtain ⟨r, c, rfl, rfl, hG⟩ := geo_of hg
    obtain ⟨b, o, rfl, _, _⟩ := hr (by rw [flat_length]; omega)
    exact (spec_AlignGears_yes r c b o cap l w hG hg hn hr).mono fun e w' h => alB_post (ok := true) hg h
  · exact (spec_AlignGears_not R C A cap l w hg hn hr).mono fun e w' h => alB_post (ok := false) hg h
theorem impl_AlignGears_not (R C : Int) (A : Option Addr) (cap : Nat) (l : List (Int × Int)) (w : World) (hh : goodB R C l = false) (hn : l.length ≤ 1048576) (hr : Rd w w.heap.size A (flat l)) :
    Calls Try.prog 18 #[.agg #[.int .i64 R, .int .i64 C, .slice A l.length cap]] w (PostB w 0 0 [] false) := by
  have HH := Lib.hid hh
  clear hh
  go_enter Try.func18, Try.ntmps18
  obtain ⟨v0, hv0, X0, X1, B0, hz0⟩ := two_boxes w [.int .i64 R, .int .i64 C, .slice A l.length cap] 30 [.int .i64 0, .int .i64 0, .slice none 0 0] 30; have HV := Lib.hid hv0; have hz : w.heap.size + 1 < v0.heap.size := (by omega); have hy : w.heap.size < v0.heap.size := (by omega); have hb0 := B0.size; clear hv0 hz0; go_wp2_with fail; rewrite [show (w.alloc (.cells ([.int .i64 R, .int .i64 C, .slice A l.length cap] : List Value).toArray 30)).alloc (.cells ([.int .i64 0, .int .i64 0, .slice none 0 0] : List Value).toArray 30) = v0 from HV.out]; clear HV
  refine (impl_IsBoard _ _ _ _ l _ hn ((hr.below B0).mono B0.size)).mono ?_; rintro e w1 ⟨rfl, b1⟩
  rewrite [HH.out]
  replace X0 := X0.below b1 X0.lt; replace X1 := X1.below b1 X1.lt; replace B0 := B0.trans (b1.mono B0.size); have hy := X0.lt; have hz := X1.lt; have hb0 := B0.size; clear b1
  (have X1k0 : w1.cell? ⟨w.heap.size + 1, 0, none⟩ = some (.int .i64 0) := (X1.cell 0).trans rfl; have X1k1 : w1.cell? ⟨w.heap.size + 1, 1, none⟩ = some (.int .i64 0) := (X1.cell 1).trans rfl; have X1k2 : w1.cell? ⟨w.heap.size + 1, 2, none⟩ = some (.slice none 0 0) := (X1.cell 2).trans rfl; have X1f0 := X1.frozen 0; have X1f1 := X1.frozen 1; have X1f2 := X1.frozen 2)
  go_wp2
  refine bodyPost_ret (v := .tuple #[.agg #[.int .i64 0, .int .i64 0, .slice none 0 0], .bool false]) ?_ rfl ?_; (focus (simp [results, Try.results18, go_sem, *]; done))
  exact PostB.none_ (by (repeat' (first | (with_reducible exact Below.refl _ _) | (with_reducible assumption) | (with_reducible refine Below.alloc ?_ ?_ _) | (with_reducible refine Below.setCell ?_ ?_ _) | (with_reducible refine Below.drew ?_) | (with_reducible refine below_drewN ?_ _) | (with_reducible refine Below.trans ?_ (Below.mono (by assumption) ?_)) | (with_reducible exact Nat.le_refl _) | (simp; done) | omega | (simp at *; omega))))
theorem impl_AlignGears (R C : Int) (A : Option Addr) (cap : Nat) (l : List (Int × Int)) (w : World) (hn : l.length ≤ 1048576) (hr : Rd w w.heap.size A (flat l)) :
    Calls Try.prog 18 #[.agg #[.int .i64 R, .int .i64 C, .slice A l.length cap]] w (PostB w (selI (goodB R C l) R) (selI (goodB R C l) C) (alignB R C l) (goodB R C l)) := by
  rcases Bool.eq_false_or_eq_true (goodB R C l) with hg | hg
  · have hpos := (goodB_parts hg).2.2
    obtain ⟨r, c, rfl, rfl, hG⟩ := geo_of hg
    skip
    exact (impl_AlignGears_yes r c A cap l w hG hg hn hr).mono fun e w' h => alB_post (ok := true) hg h
  · exact (impl_AlignGears_not R C A cap l w hg hn hr).mono fun e w' h => alB_post (ok := false) hg h
end Go.Proofs.Ytdpgbgniejlilaa
