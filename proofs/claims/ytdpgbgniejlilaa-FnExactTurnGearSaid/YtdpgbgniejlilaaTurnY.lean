/- TurnGear, the model's, at a gear. -/
import Derived.Test.YtdpgbgniejlilaaTurnG
namespace Go.Proofs.Ytdpgbgniejlilaa
open Go.ChangeShapes Go.WideShapes Go.ChangeAt Go.RowKit Go.Joins Go.Deep
set_option linter.unusedSimpArgs false
set_option linter.unusedVariables false
set_option maxRecDepth 100000
set_option maxHeartbeats 8000000
theorem spec_TurnGear_yes (R C : Int) (A : Option Addr) (cap : Nat) (l : List (Int × Int)) (i j : Int) (w : World) (hh : hasB R C l i j = true) (hk : gearK l (atI C i j) = true) (hn : l.length ≤ 1048576) (hr : Rd w w.heap.size A (flat l)) : Calls Try.prog 15 #[.agg #[.int .i64 R, .int .i64 C, .slice A l.length cap], .int .i64 i, .int .i64 j] w (PostB w R C (tnS l (isIn C l (nmb C l (atI C i j)))) true) := by
  have HH := Lib.hid hh
  obtain ⟨hg, hi⟩ := hasB_and hh
  have HG := Lib.hid hg
  have HI := Lib.hid hi
  have hk6 : (l.getD (atI C i j) (0, 0)).1 = 6 := by unfold gearK at hk; simpa using hk
  obtain ⟨-, -, hkl, h90⟩ := at_bound hg hi
  obtain ⟨m1, m2⟩ := wrap_at hg hi
  obtain ⟨r, c, rfl, rfl, hGeo⟩ := geo_of hg
  obtain ⟨b, o, rfl, hbl, hc⟩ := hr (by rw [flat_length]; omega)
  have hr' : Rd w w.heap.size (some ⟨b, o, none⟩) (flat l) := fun _ => ⟨b, o, rfl, hbl, hc⟩
  have hfld := field_kind
  clear hh hg hi hk hr hc
  generalize hk0 : atI (c : Int) i j = k0 at *
  have hkl1 : (k0 : Int) < (l.length : Int) := by omega
  have hkl0 : (0 : Int) ≤ (k0 : Int) := by omega
  go_enter Try.func15, Try.ntmps15
  obtain ⟨v0, hv0, X0, X1, B0, hz0⟩ := two_boxes w [.int .i64 (r : Int), .int .i64 (c : Int), .slice (some ⟨b, o, none⟩) l.length cap] 30 [.int .i64 0, .int .i64 0, .slice none 0 0] 30; have HV := Lib.hid hv0; have hz : w.heap.size + 1 < v0.heap.size := (by omega); have hy : w.heap.size < v0.heap.size := (by omega); have hb0 := B0.size; clear hv0 hz0; go_wp2_with fail; rewrite [show (w.alloc (.cells ([.int .i64 (r : Int), .int .i64 (c : Int), .slice (some ⟨b, o, none⟩) l.length cap] : List Value).toArray 30)).alloc (.cells ([.int .i64 0, .int .i64 0, .slice none 0 0] : List Value).toArray 30) = v0 from HV.out]; clear HV
  refine (spec_boHas _ _ _ _ l _ _ _ hn ((hr'.below B0).mono B0.size)).mono ?_; rintro e w1 ⟨rfl, b1⟩
  rewrite [HH.out]
  replace X0 := X0.below b1 X0.lt; replace X1 := X1.below b1 X1.lt; replace B0 := B0.trans (b1.mono B0.size); have hy := X0.lt; have hz := X1.lt; have hb0 := B0.size; clear b1
  have X0k0 : w1.cell? ⟨w.heap.size, 0, none⟩ = some (.int .i64 (r : Int)) := (X0.cell 0).trans rfl; have X0k1 : w1.cell? ⟨w.heap.size, 1, none⟩ = some (.int .i64 (c : Int)) := (X0.cell 1).trans rfl; have X0k2 : w1.cell? ⟨w.heap.size, 2, none⟩ = some (.slice (some ⟨b, o, none⟩) l.length cap) := (X0.cell 2).trans rfl
  go_wp2_with fail
  refine (spec_boAt _ _ _ _ l _ _ _ HG.out HI.out ((hr'.below B0).mono B0.size)).mono ?_; rintro e w2 ⟨rfl, b2⟩
  clear X0k0 X0k1 X0k2
  replace X0 := X0.below b2 X0.lt; replace X1 := X1.below b2 X1.lt; replace B0 := B0.trans (b2.mono B0.size); have hy := X0.lt; have hz := X1.lt; have hb0 := B0.size; clear b2
  have X0k0 : w2.cell? ⟨w.heap.size, 0, none⟩ = some (.int .i64 (r : Int)) := (X0.cell 0).trans rfl; have X0k1 : w2.cell? ⟨w.heap.size, 1, none⟩ = some (.int .i64 (c : Int)) := (X0.cell 1).trans rfl; have X0k2 : w2.cell? ⟨w.heap.size, 2, none⟩ = some (.slice (some ⟨b, o, none⟩) l.length cap) := (X0.cell 2).trans rfl
  rewrite [hk0, hk6]
  clear hk6 hk0
  generalize (l.getD k0 (0, 0)).2 = st at *
  go_upto_region 3 with (fail)
  have bd : Below w2.heap.size w2 w2.drew := (Below.refl _ _).drew
  clear X0k0 X0k1 X0k2
  replace X0 := X0.below bd X0.lt; replace X1 := X1.below bd X1.lt; replace B0 := B0.trans (bd.mono B0.size); have hy := X0.lt; have hz := X1.lt; have hb0 := B0.size; clear bd
  have X0k0 : w2.drew.cell? ⟨w.heap.size, 0, none⟩ = some (.int .i64 (r : Int)) := (X0.cell 0).trans rfl; have X0k1 : w2.drew.cell? ⟨w.heap.size, 1, none⟩ = some (.int .i64 (c : Int)) := (X0.cell 1).trans rfl; have X0k2 : w2.drew.cell? ⟨w.heap.size, 2, none⟩ = some (.slice (some ⟨b, o, none⟩) l.length cap) := (X0.cell 2).trans rfl
  go_region_law (first
    | (go_simp; (with_reducible refine Calls.mono (spec_ggGroupsN r c _ cap l _ hGeo ((hr'.below B0).mono B0.size)) ?_); rintro e w3 ⟨A3, c3, rfl, o3, n3, b3⟩; clear X0k0 X0k1 X0k2; replace X0 := X0.below b3 X0.lt; replace X1 := X1.below b3 X1.lt; replace B0 := B0.trans (b3.mono B0.size); have hy := X0.lt; have hz := X1.lt; have hb0 := B0.size; clear b3; have X0k0 : w3.cell? ⟨w.heap.size, 0, none⟩ = some (.int .i64 (r : Int)) := (X0.cell 0).trans rfl; have X0k1 : w3.cell? ⟨w.heap.size, 1, none⟩ = some (.int .i64 (c : Int)) := (X0.cell 1).trans rfl; have X0k2 : w3.cell? ⟨w.heap.size, 2, none⟩ = some (.slice (some ⟨b, o, none⟩) l.length cap) := (X0.cell 2).trans rfl; obtain ⟨g3, rest3, rfl, X3⟩ := o3 (by rw [ints_length, numL_len]; omega); have hn3 : w3.cell? ⟨g3, k0, none⟩ = some (.int .i64 (nmb (c : Int) l k0)) := (X3.cell k0).trans ((List.getElem?_append_left (by rw [ints_length, numL_len]; exact hkl)).trans (numL_at hkl)); clear o3 n3 X3)
    | (go_simp; (with_reducible refine Calls.mono (spec_ggTurn r c b o cap l _ _ hGeo HG.out ((hr'.below B0).mono B0.size)) ?_); rintro e w4 ⟨A4, c4, rfl, o4, n4, b4⟩; have n4' : ∀ a, A4 = some a → w.heap.size + 1 < a.block := (fun a ha => Nat.lt_of_lt_of_le hz (n4 a ha)); clear n4 hn3; clear X0k0 X0k1 X0k2; replace X0 := X0.below b4 X0.lt; replace X1 := X1.below b4 X1.lt; replace B0 := B0.trans (b4.mono B0.size); have hy := X0.lt; have hz := X1.lt; have hb0 := B0.size; clear b4; have X1k0 : w4.cell? ⟨w.heap.size + 1, 0, none⟩ = some (.int .i64 0) := (X1.cell 0).trans rfl; have X1k1 : w4.cell? ⟨w.heap.size + 1, 1, none⟩ = some (.int .i64 0) := (X1.cell 1).trans rfl; have X1k2 : w4.cell? ⟨w.heap.size + 1, 2, none⟩ = some (.slice none 0 0) := (X1.cell 2).trans rfl; have X1f0 := X1.frozen 0; have X1f1 := X1.frozen 1; have X1f2 := X1.frozen 2)
    | fail)
  all_goals have hap : ∀ a, A4 = some a → w.heap.size + 1 ≠ a.block := fun a ha => by have h := n4' a ha; omega
  all_goals have hnw : New w A4 := fun a ha => by have h := n4' a ha; omega
  all_goals (go_wp2; refine bodyPost_ret (v := .tuple #[.agg #[.int .i64 (r : Int), .int .i64 (c : Int), .slice A4 (tnS l (isIn (c : Int) l (nmb (c : Int) l k0))).length c4], .bool true]) ?_ rfl ?_; (focus (simp [results, Try.results15, go_sem, *]; done)))
  all_goals exact PostB.mk (((o4.set_far _ _ hap).set_far _ _ hap).set_far _ _ hap) hnw (by (repeat' (first | (with_reducible exact Below.refl _ _) | (with_reducible assumption) | (with_reducible refine Below.alloc ?_ ?_ _) | (with_reducible refine Below.setCell ?_ ?_ _) | (with_reducible refine Below.drew ?_) | (with_reducible refine below_drewN ?_ _) | (with_reducible refine Below.trans ?_ (Below.mono (by assumption) ?_)) | (with_reducible exact Nat.le_refl _) | (simp; done) | omega | (simp at *; omega))))
end Go.Proofs.Ytdpgbgniejlilaa
