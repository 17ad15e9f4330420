/- TurnGear, the program's, at a gear. -/
import Derived.Test.YtdpgbgniejlilaaTurnGp
import Derived.Test.YtdpgbgniejlilaaTurnI
namespace Go.Proofs.Ytdpgbgniejlilaa
open Go.ChangeShapes Go.WideShapes Go.ChangeAt Go.RowKit Go.Joins Go.Deep
set_option linter.unusedSimpArgs false
set_option linter.unusedVariables false
set_option maxRecDepth 100000
set_option maxHeartbeats 8000000
theorem impl_TurnGear_yes (R C : Int) (A : Option Addr) (cap : Nat) (l : List (Int × Int)) (i j : Int) (w : World) (hk : okT R C l i j = true) (hn : l.length ≤ 1048576) (hr : Rd w w.heap.size A (flat l)) : Calls Try.prog 16 #[.agg #[.int .i64 R, .int .i64 C, .slice A l.length cap], .int .i64 i, .int .i64 j] w (PostB w R C (tnS l (isIn C l (nmb C l (atI C i j)))) true) := by
  have hh := okT_join hk
  have HH := Lib.hid hh
  obtain ⟨hg, hi, hJ⟩ := okJ_parts hh
  obtain ⟨-, -, hkl, h90⟩ := at_bound hg hi
  obtain ⟨r, c, rfl, rfl, hGeo⟩ := geo_of hg
  obtain ⟨b, o, rfl, hbl, hc⟩ := hr (by rw [flat_length]; omega)
  have hr' : Rd w w.heap.size (some ⟨b, o, none⟩) (flat l) := fun _ => ⟨b, o, rfl, hbl, hc⟩
  have hk6 : l[atI (c : Int) i j].1 = 6 := by
    unfold okT gearK at hk
    rw [Bool.and_eq_true, decide_eq_true_eq, List.getD_eq_getElem?_getD, List.getElem?_eq_getElem hkl] at hk
    exact hk.2
  have HGd := Lib.hid (goodB_iff.1 hg).2.2
  have HK6 := Lib.hid (show (l.getD (atI (c : Int) i j) (0, 0)).1 = 6 by rw [List.getD_eq_getElem?_getD, List.getElem?_eq_getElem hkl]; exact hk6)
  have HPG := Lib.hid (passL_gear (c := c) hkl HK6.out)
  clear hh hg hi hk hr hJ
  go_enter Try.func16, Try.ntmps16
  obtain ⟨v0, hv0, X0, X1, B0, hz0⟩ := two_boxes w [.int .i64 (r : Int), .int .i64 (c : Int), .slice (some ⟨b, o, none⟩) l.length cap] 30 [.int .i64 0, .int .i64 0, .slice none 0 0] 30; have HV := Lib.hid hv0; have hz : w.heap.size + 1 < v0.heap.size := (by omega); have hy : w.heap.size < v0.heap.size := (by omega); have hb0 := B0.size; clear hv0 hz0; go_wp2_with fail; rewrite [show (w.alloc (.cells ([.int .i64 (r : Int), .int .i64 (c : Int), .slice (some ⟨b, o, none⟩) l.length cap] : List Value).toArray 30)).alloc (.cells ([.int .i64 0, .int .i64 0, .slice none 0 0] : List Value).toArray 30) = v0 from HV.out]; clear HV
  refine (impl_joiningIndex _ _ _ _ l _ _ _ hn ((hr'.below B0).mono B0.size)).mono ?_; rintro e w1 ⟨rfl, b1⟩
  rewrite [HH.out, show selI true (atI (c : Int) i j : Int) = (atI (c : Int) i j : Int) from rfl]
  replace X0 := X0.below b1 X0.lt; replace X1 := X1.below b1 X1.lt; replace B0 := B0.trans (b1.mono B0.size); have hy := X0.lt; have hz := X1.lt; have hb0 := B0.size; clear b1
  obtain ⟨hc0, hc1⟩ := cell_at2 B0 hbl hc hkl
  rw [hk6] at hc0
  have X0k0 : w1.cell? ⟨w.heap.size, 0, none⟩ = some (.int .i64 (r : Int)) := (X0.cell 0).trans rfl; have X0k1 : w1.cell? ⟨w.heap.size, 1, none⟩ = some (.int .i64 (c : Int)) := (X0.cell 1).trans rfl; have X0k2 : w1.cell? ⟨w.heap.size, 2, none⟩ = some (.slice (some ⟨b, o, none⟩) l.length cap) := (X0.cell 2).trans rfl
  generalize atI (c : Int) i j = k0 at *
  clear hk6
  generalize l[k0].2 = st at *
  go_wp2_with fail
  refine (impl_cloneBoard (r : Int) (c : Int) b o cap l _ hn ((hr'.below B0).mono B0.size)).mono ?_
  rintro e w2 ⟨A5, c5, rfl, o5, n5, b2⟩
  clear hc0 hc1
  clear X0k0 X0k1 X0k2
  obtain ⟨g5, rest5, rfl, X7⟩ := o5 (by rw [flat_length]; omega)
  have h5 : w.heap.size + 1 < g5 := Nat.lt_of_lt_of_le hz (n5 _ rfl)
  clear n5 o5
  replace X0 := X0.below b2 X0.lt; replace X1 := X1.below b2 X1.lt; replace B0 := B0.trans (b2.mono B0.size); have hy := X0.lt; have hz := X1.lt; have hb0 := B0.size; clear b2
  go_upto_region 5 with (fail)
  obtain ⟨v4, hv4⟩ : ∃ v4, v4 = w2.alloc (.cells #[.int .i64 (r : Int), .int .i64 (c : Int), .slice (some ⟨g5, 0, none⟩) l.length c5] 30) := ⟨_, rfl⟩
  have X4 : Whole v4 w2.heap.size 30 [.int .i64 (r : Int), .int .i64 (c : Int), .slice (some ⟨g5, 0, none⟩) l.length c5] := by rw [hv4]; exact heap_alloc_new _ _
  have b4 : Below w2.heap.size w2 v4 := by rw [hv4]; exact (Below.refl _ _).alloc (Nat.le_refl _) _
  rewrite [← hv4]
  clear hv4
  have h4w : w.heap.size + 1 < w2.heap.size := hz
  have h54 : g5 < w2.heap.size := X7.lt
  replace X7 := X7.below b4 X7.lt
  replace X0 := X0.below b4 X0.lt; replace X1 := X1.below b4 X1.lt; replace B0 := B0.trans (b4.mono B0.size); have hy := X0.lt; have hz := X1.lt; have hb0 := B0.size; clear b4
  have h45 := X4.lt
  generalize w2.heap.size = g4 at *
  have X4k0 : v4.cell? ⟨g4, 0, none⟩ = some (.int .i64 (r : Int)) := (X4.cell 0).trans rfl; have X4k1 : v4.cell? ⟨g4, 1, none⟩ = some (.int .i64 (c : Int)) := (X4.cell 1).trans rfl; have X4k2 : v4.cell? ⟨g4, 2, none⟩ = some (.slice (some ⟨g5, 0, none⟩) l.length c5) := (X4.cell 2).trans rfl
  go_wp2_with fail
  refine (impl_turnGroup r c g5 c5 l rest5 k0 _ hGeo hkl HK6.out hn HGd.out X7).mono ?_; rintro e w6 ⟨rfl, X7', gb⟩
  clear X4k0 X4k1 X4k2
  have n5 : ∀ {g : Nat}, g ≠ g5 → some g ≠ some g5 := fun h e => h (by injection e)
  replace X1 := X1.grown gb (n5 (by omega))
  replace X4 := X4.grown gb (n5 (by omega))
  have B6 : Below w.heap.size w w6 := B0.grown gb B0.size (fun k e => by cases e; omega)
  clear gb n5 X7 X0 B0 hb0 hy hz
  rw [HPG.out] at X7'
  have hl := tnS_len l (isIn (c : Int) l (nmb (c : Int) l k0))
  have X4k0 : w6.cell? ⟨g4, 0, none⟩ = some (.int .i64 (r : Int)) := (X4.cell 0).trans rfl; have X4k1 : w6.cell? ⟨g4, 1, none⟩ = some (.int .i64 (c : Int)) := (X4.cell 1).trans rfl; have X4k2 : w6.cell? ⟨g4, 2, none⟩ = some (.slice (some ⟨g5, 0, none⟩) l.length c5) := (X4.cell 2).trans rfl
  have X1k0 : w6.cell? ⟨w.heap.size + 1, 0, none⟩ = some (.int .i64 0) := (X1.cell 0).trans rfl; have X1k1 : w6.cell? ⟨w.heap.size + 1, 1, none⟩ = some (.int .i64 0) := (X1.cell 1).trans rfl; have X1k2 : w6.cell? ⟨w.heap.size + 1, 2, none⟩ = some (.slice none 0 0) := (X1.cell 2).trans rfl
  have X1f0 := X1.frozen 0; have X1f1 := X1.frozen 1; have X1f2 := X1.frozen 2
  have hap : ∀ a, some (⟨g5, 0, none⟩ : Addr) = some a → w.heap.size + 1 ≠ a.block := fun a ha => by cases ha; show w.heap.size + 1 ≠ g5; omega
  have hnw : New w (some ⟨g5, 0, none⟩) := fun a ha => by cases ha; show w.heap.size ≤ g5; omega
  have ho : Own w6 (some ⟨g5, 0, none⟩) 34 (flat (tnS l (isIn (c : Int) l (nmb (c : Int) l k0)))) := fun _ => ⟨g5, rest5, rfl, X7'⟩
  have HLl := Lib.hid hl
  clear hl
  go_wp2
  refine bodyPost_ret (v := .tuple #[.agg #[.int .i64 (r : Int), .int .i64 (c : Int), .slice (some ⟨g5, 0, none⟩) l.length c5], .bool true]) ?_ rfl ?_; (focus (simp [results, Try.results16, go_sem, *]; done))
  rw [← HLl.out]
  exact PostB.mk (((ho.set_far _ _ hap).set_far _ _ hap).set_far _ _ hap) hnw (by (repeat' (first | (with_reducible exact Below.refl _ _) | (with_reducible assumption) | (with_reducible refine Below.alloc ?_ ?_ _) | (with_reducible refine Below.setCell ?_ ?_ _) | (with_reducible refine Below.drew ?_) | (with_reducible refine below_drewN ?_ _) | (with_reducible refine Below.trans ?_ (Below.mono (by assumption) ?_)) | (with_reducible exact Nat.le_refl _) | (simp; done) | omega | (simp at *; omega))))
end Go.Proofs.Ytdpgbgniejlilaa
