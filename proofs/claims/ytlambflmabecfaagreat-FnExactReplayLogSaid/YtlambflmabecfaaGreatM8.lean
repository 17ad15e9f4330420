/- Contracts of the program and of the model, walked, part 8 of 9. No condition but what each says. -/
import Derived.Test.YtlambflmabecfaaGreatM6
import Derived.Test.YtlambflmabecfaaGreatM7
namespace Go.Proofs.YtlambflmabecfaaGreat
open Go.ChangeShapes Go.WideShapes Go.ChangeAt Go.RowKit Go.Joins Go.Deep
set_option linter.unusedSimpArgs false
set_option linter.unusedVariables false
set_option maxRecDepth 100000
set_option maxHeartbeats 2000000
theorem impl_isHopper (n : Int) (w : World) :
    Calls Tryz.prog 58 #[.int .i64 n] w fun e w' => e = .returned (.bool (decide (0 ≤ n) && decide (n ≤ 30))) ∧ Below w.heap.size w w' := by
  by_cases h0 : 0 ≤ n
  · by_cases h1 : n ≤ 30
    · have HE := Lib.hid (show (decide (0 ≤ n) && decide (n ≤ 30)) = true by rw [decide_eq_true h0, decide_eq_true h1]; rfl)
      rewrite [HE.out]
      go_enter Tryz.func58, Tryz.ntmps58
      go_wp2
      go_returns
      exact ⟨rfl, by (repeat' (first | (with_reducible exact Below.refl _ _) | (with_reducible assumption) | (with_reducible refine Below.alloc ?_ ?_ _) | (with_reducible refine Below.setCell ?_ ?_ _) | (with_reducible refine Below.drew ?_) | (with_reducible refine below_drewN ?_ _) | (with_reducible refine Below.trans ?_ (Below.mono (by assumption) ?_)) | (with_reducible exact Nat.le_refl _) | (simp; done) | omega | (simp at *; omega)))⟩
    · have HE := Lib.hid (show (decide (0 ≤ n) && decide (n ≤ 30)) = false by rw [decide_eq_true h0, decide_eq_false h1]; rfl)
      rewrite [HE.out]
      go_enter Tryz.func58, Tryz.ntmps58
      go_wp2
      go_returns
      exact ⟨rfl, by (repeat' (first | (with_reducible exact Below.refl _ _) | (with_reducible assumption) | (with_reducible refine Below.alloc ?_ ?_ _) | (with_reducible refine Below.setCell ?_ ?_ _) | (with_reducible refine Below.drew ?_) | (with_reducible refine below_drewN ?_ _) | (with_reducible refine Below.trans ?_ (Below.mono (by assumption) ?_)) | (with_reducible exact Nat.le_refl _) | (simp; done) | omega | (simp at *; omega)))⟩
  · have HE := Lib.hid (show (decide (0 ≤ n) && decide (n ≤ 30)) = false by rw [decide_eq_false h0]; rfl)
    rewrite [HE.out]
    go_enter Tryz.func58, Tryz.ntmps58
    go_wp2
    go_returns
    exact ⟨rfl, by (repeat' (first | (with_reducible exact Below.refl _ _) | (with_reducible assumption) | (with_reducible refine Below.alloc ?_ ?_ _) | (with_reducible refine Below.setCell ?_ ?_ _) | (with_reducible refine Below.drew ?_) | (with_reducible refine below_drewN ?_ _) | (with_reducible refine Below.trans ?_ (Below.mono (by assumption) ?_)) | (with_reducible exact Nat.le_refl _) | (simp; done) | omega | (simp at *; omega)))⟩
theorem okC'_two (R C : Int) (l : List (Int × Int)) (j k : Int) : okC' R C l [j, k] = (okF R C l j && okF R C l k) := by
  unfold okC' okF allI
  rw [List.all_cons, List.all_cons, List.all_nil, Bool.and_true, inI_lt, inI_lt]
  cases goodB R C l <;> simp
theorem impl_areEntries2 (R C : Int) (A : Option Addr) (cap : Nat) (l : List (Int × Int)) (j k : Int) (g : Nat) (w : World) (hn : l.length ≤ 1048576) (hr : Rd w w.heap.size A (flat l)) (hg : Whole w g 3 [.int .i64 j, .int .i64 k]) :
    Calls Tryz.prog 57 #[.agg #[.int .i64 R, .int .i64 C, .slice A l.length cap], .slice (some ⟨g, 0, none⟩) 2 2] w fun e w' => e = .returned (.bool (okF R C l j && okF R C l k)) ∧ Below w.heap.size w w' := by
  rw [← okC'_two]
  exact impl_areEntries R C A cap l (some ⟨g, 0, none⟩) 2 [j, k] w hn (by simp) hr (hg.rd hg.lt)
theorem impl_IsMachine (R C : Int) (A : Option Addr) (cap : Nat) (l : List (Int × Int)) (p q bl rd nx : Int) (w : World) (hn : l.length ≤ 1048576) (hr : Rd w w.heap.size A (flat l)) :
    Calls Tryz.prog 51 #[.agg #[.int .i64 R, .int .i64 C, .slice A l.length cap, .int .i64 p, .int .i64 q, .int .i64 bl, .int .i64 rd, .int .i64 nx]] w fun e w' => e = .returned (.bool (okM R C l p q bl rd nx)) ∧ Below w.heap.size w w' := by
  have HE := Lib.hid (show okM R C l p q bl rd nx = ((okF R C l p && okF R C l q) && (decide (0 ≤ bl) && decide (bl ≤ 30)) && (decide (0 ≤ rd) && decide (rd ≤ 30)) && decide (0 ≤ nx) && decide (nx ≤ 2)) by unfold okM inM; cases okF R C l p <;> cases okF R C l q <;> simp [Bool.and_assoc])
  rewrite [HE.out]
  clear HE
  go_enter Tryz.func51, Tryz.ntmps51
  obtain ⟨v0, hv0⟩ : ∃ v, v = w.alloc (.cells #[.int .i64 R, .int .i64 C, .slice A l.length cap, .int .i64 p, .int .i64 q, .int .i64 bl, .int .i64 rd, .int .i64 nx] 36) := ⟨_, rfl⟩; have X0 : Whole v0 w.heap.size 36 [.int .i64 R, .int .i64 C, .slice A l.length cap, .int .i64 p, .int .i64 q, .int .i64 bl, .int .i64 rd, .int .i64 nx] := (by rw [hv0]; exact heap_alloc_new w _); have hb : Below w.heap.size w v0 := (by rw [hv0]; exact (Below.refl _ _).alloc (Nat.le_refl _) _); have HV := Lib.hid hv0.symm; clear hv0; go_upto_region 1 with (fail); rewrite [HV.out]; clear HV; have hy := X0.lt
  have X0k0 : v0.cell? ⟨w.heap.size, 0, none⟩ = some (.int .i64 R) := (X0.cell 0).trans rfl; have X0k1 : v0.cell? ⟨w.heap.size, 1, none⟩ = some (.int .i64 C) := (X0.cell 1).trans rfl; have X0k2 : v0.cell? ⟨w.heap.size, 2, none⟩ = some (.slice A l.length cap) := (X0.cell 2).trans rfl; have X0k3 : v0.cell? ⟨w.heap.size, 3, none⟩ = some (.int .i64 p) := (X0.cell 3).trans rfl; have X0k4 : v0.cell? ⟨w.heap.size, 4, none⟩ = some (.int .i64 q) := (X0.cell 4).trans rfl; have X0k5 : v0.cell? ⟨w.heap.size, 5, none⟩ = some (.int .i64 bl) := (X0.cell 5).trans rfl; have X0k6 : v0.cell? ⟨w.heap.size, 6, none⟩ = some (.int .i64 rd) := (X0.cell 6).trans rfl; have X0k7 : v0.cell? ⟨w.heap.size, 7, none⟩ = some (.int .i64 nx) := (X0.cell 7).trans rfl
  go_wp2_with fail
  have bl1 : Below v0.heap.size v0 (v0.alloc (.cells #[.int .i64 p, .int .i64 q] 3)) := (Below.refl _ _).alloc (Nat.le_refl _) _
  have Xl : Whole (v0.alloc (.cells #[.int .i64 p, .int .i64 q] 3)) v0.heap.size 3 [.int .i64 p, .int .i64 q] := heap_alloc_new v0 _
  clear X0k0 X0k1 X0k2 X0k3 X0k4 X0k5 X0k6 X0k7
  replace X0 := X0.below bl1 X0.lt
  replace hb := hb.trans (bl1.mono hb.size)
  clear bl1
  generalize v0.alloc (.cells #[.int .i64 p, .int .i64 q] 3) = v1 at *
  refine (impl_areEntries2 _ _ _ _ l _ _ _ _ hn ((hr.below hb).mono hb.size) Xl).mono ?_; rintro e w1 ⟨rfl, b1⟩
  clear Xl
  (replace X0 := X0.below b1 X0.lt; replace hb := hb.trans (b1.mono hb.size); have hy := X0.lt; clear b1)
  rcases Bool.eq_false_or_eq_true (okF R C l p && okF R C l q) with h1 | h1
  · rewrite [h1]
    have X0k0 : w1.cell? ⟨w.heap.size, 0, none⟩ = some (.int .i64 R) := (X0.cell 0).trans rfl; have X0k1 : w1.cell? ⟨w.heap.size, 1, none⟩ = some (.int .i64 C) := (X0.cell 1).trans rfl; have X0k2 : w1.cell? ⟨w.heap.size, 2, none⟩ = some (.slice A l.length cap) := (X0.cell 2).trans rfl; have X0k3 : w1.cell? ⟨w.heap.size, 3, none⟩ = some (.int .i64 p) := (X0.cell 3).trans rfl; have X0k4 : w1.cell? ⟨w.heap.size, 4, none⟩ = some (.int .i64 q) := (X0.cell 4).trans rfl; have X0k5 : w1.cell? ⟨w.heap.size, 5, none⟩ = some (.int .i64 bl) := (X0.cell 5).trans rfl; have X0k6 : w1.cell? ⟨w.heap.size, 6, none⟩ = some (.int .i64 rd) := (X0.cell 6).trans rfl; have X0k7 : w1.cell? ⟨w.heap.size, 7, none⟩ = some (.int .i64 nx) := (X0.cell 7).trans rfl
    go_wp2_with fail
    refine (impl_isHopper _ _).mono ?_; rintro e w3 ⟨rfl, b2⟩
    clear X0k0 X0k1 X0k2 X0k3 X0k4 X0k5 X0k6 X0k7
    (replace X0 := X0.below b2 X0.lt; replace hb := hb.trans (b2.mono hb.size); have hy := X0.lt; clear b2)
    rcases Bool.eq_false_or_eq_true (decide (0 ≤ bl) && decide (bl ≤ 30)) with h3 | h3
    · rewrite [h3]
      have X0k0 : w3.cell? ⟨w.heap.size, 0, none⟩ = some (.int .i64 R) := (X0.cell 0).trans rfl; have X0k1 : w3.cell? ⟨w.heap.size, 1, none⟩ = some (.int .i64 C) := (X0.cell 1).trans rfl; have X0k2 : w3.cell? ⟨w.heap.size, 2, none⟩ = some (.slice A l.length cap) := (X0.cell 2).trans rfl; have X0k3 : w3.cell? ⟨w.heap.size, 3, none⟩ = some (.int .i64 p) := (X0.cell 3).trans rfl; have X0k4 : w3.cell? ⟨w.heap.size, 4, none⟩ = some (.int .i64 q) := (X0.cell 4).trans rfl; have X0k5 : w3.cell? ⟨w.heap.size, 5, none⟩ = some (.int .i64 bl) := (X0.cell 5).trans rfl; have X0k6 : w3.cell? ⟨w.heap.size, 6, none⟩ = some (.int .i64 rd) := (X0.cell 6).trans rfl; have X0k7 : w3.cell? ⟨w.heap.size, 7, none⟩ = some (.int .i64 nx) := (X0.cell 7).trans rfl
      go_wp2_with fail
      refine (impl_isHopper _ _).mono ?_; rintro e w4 ⟨rfl, b3⟩
      clear X0k0 X0k1 X0k2 X0k3 X0k4 X0k5 X0k6 X0k7
      (replace X0 := X0.below b3 X0.lt; replace hb := hb.trans (b3.mono hb.size); have hy := X0.lt; clear b3)
      rcases Bool.eq_false_or_eq_true (decide (0 ≤ rd) && decide (rd ≤ 30)) with h4 | h4
      · rewrite [h4]
        have X0k0 : w4.cell? ⟨w.heap.size, 0, none⟩ = some (.int .i64 R) := (X0.cell 0).trans rfl; have X0k1 : w4.cell? ⟨w.heap.size, 1, none⟩ = some (.int .i64 C) := (X0.cell 1).trans rfl; have X0k2 : w4.cell? ⟨w.heap.size, 2, none⟩ = some (.slice A l.length cap) := (X0.cell 2).trans rfl; have X0k3 : w4.cell? ⟨w.heap.size, 3, none⟩ = some (.int .i64 p) := (X0.cell 3).trans rfl; have X0k4 : w4.cell? ⟨w.heap.size, 4, none⟩ = some (.int .i64 q) := (X0.cell 4).trans rfl; have X0k5 : w4.cell? ⟨w.heap.size, 5, none⟩ = some (.int .i64 bl) := (X0.cell 5).trans rfl; have X0k6 : w4.cell? ⟨w.heap.size, 6, none⟩ = some (.int .i64 rd) := (X0.cell 6).trans rfl; have X0k7 : w4.cell? ⟨w.heap.size, 7, none⟩ = some (.int .i64 nx) := (X0.cell 7).trans rfl
        rcases Bool.eq_false_or_eq_true (decide (0 ≤ nx)) with h5 | h5
        · have h6 := of_decide_eq_true h5
          have h7 := Lib.hid h5
          clear h5
          go_wp2
          go_returns
          exact ⟨by (first | (rw [h1, h3, h4, h7.out]; rfl) | (rw [h7.out]; rfl)), hb⟩
        · have h6 := of_decide_eq_false h5
          have h7 := Lib.hid h5
          clear h5
          go_wp2
          go_returns
          exact ⟨by (first | (rw [h1, h3, h4, h7.out]; rfl) | (rw [h7.out]; rfl)), hb⟩
      · rewrite [h4]
        go_wp2
        go_returns
        exact ⟨by rw [h1, h3, h4]; rfl, hb⟩
    · rewrite [h3]
      go_wp2
      go_returns
      exact ⟨by rw [h1, h3]; rfl, hb⟩
  · rewrite [h1]
    go_wp2
    go_returns
    exact ⟨by rw [h1]; rfl, hb⟩
theorem impl_cloneMachine (R C : Int) (b o cap : Nat) (l : List (Int × Int)) (p q bl rd nx : Int) (w : World) (hn : l.length ≤ 1048576) (hr : Rd w w.heap.size (some ⟨b, o, none⟩) (flat l)) :
    Calls Tryz.prog 52 #[.agg #[.int .i64 R, .int .i64 C, .slice (some ⟨b, o, none⟩) l.length cap, .int .i64 p, .int .i64 q, .int .i64 bl, .int .i64 rd, .int .i64 nx]] w fun e w' => ∃ A' cap', e = .returned (.agg #[.int .i64 R, .int .i64 C, .slice A' l.length cap', .int .i64 p, .int .i64 q, .int .i64 bl, .int .i64 rd, .int .i64 nx]) ∧ Own w' A' 95 (flat l) ∧ New w A' ∧ Below w.heap.size w w' := by
  go_enter Tryz.func52, Tryz.ntmps52
  obtain ⟨v0, hv0, X0, X1, B0, hz0⟩ := two_boxes w [.int .i64 R, .int .i64 C, .slice (some ⟨b, o, none⟩) l.length cap, .int .i64 p, .int .i64 q, .int .i64 bl, .int .i64 rd, .int .i64 nx] 36 [.int .i64 0, .int .i64 0, .slice none 0 0, .int .i64 0, .int .i64 0, .int .i64 0, .int .i64 0, .int .i64 0] 36; have HV := Lib.hid hv0; have hz : w.heap.size + 1 < v0.heap.size := (by omega); have hy : w.heap.size < v0.heap.size := (by omega); have hb0 := B0.size; clear hv0 hz0; go_wp2_with fail; rewrite [show (w.alloc (.cells ([.int .i64 R, .int .i64 C, .slice (some ⟨b, o, none⟩) l.length cap, .int .i64 p, .int .i64 q, .int .i64 bl, .int .i64 rd, .int .i64 nx] : List Value).toArray 36)).alloc (.cells ([.int .i64 0, .int .i64 0, .slice none 0 0, .int .i64 0, .int .i64 0, .int .i64 0, .int .i64 0, .int .i64 0] : List Value).toArray 36) = v0 from HV.out]; clear HV
  have X0k0 : v0.cell? ⟨w.heap.size, 0, none⟩ = some (.int .i64 R) := (X0.cell 0).trans rfl; have X0k1 : v0.cell? ⟨w.heap.size, 1, none⟩ = some (.int .i64 C) := (X0.cell 1).trans rfl; have X0k2 : v0.cell? ⟨w.heap.size, 2, none⟩ = some (.slice (some ⟨b, o, none⟩) l.length cap) := (X0.cell 2).trans rfl
  go_wp2_with fail
  refine (impl_cloneBoard R C b o cap l _ hn ((hr.below B0).mono B0.size)).mono ?_; rintro e w1 ⟨A5, c5, rfl, o5, n5, b1⟩
  clear X0k0 X0k1 X0k2
  have hn0 : New w A5 := fun a ha => Nat.le_trans B0.size (n5 a ha)
  replace X0 := X0.below b1 X0.lt; replace X1 := X1.below b1 X1.lt; replace B0 := B0.trans (b1.mono B0.size); have hy := X0.lt; have hz := X1.lt; have hb0 := B0.size; clear b1
  have X0k0 : w1.cell? ⟨w.heap.size, 0, none⟩ = some (.int .i64 R) := (X0.cell 0).trans rfl; have X0k1 : w1.cell? ⟨w.heap.size, 1, none⟩ = some (.int .i64 C) := (X0.cell 1).trans rfl; have X0k2 : w1.cell? ⟨w.heap.size, 2, none⟩ = some (.slice (some ⟨b, o, none⟩) l.length cap) := (X0.cell 2).trans rfl
  have X0f0 := X0.frozen 0; have X0f1 := X0.frozen 1; have X0f2 := X0.frozen 2
  have n10 : w.heap.size ≠ w.heap.size + 1 := by omega
  go_upto_region 2 with (fail)
  obtain ⟨v2, hv2⟩ : ∃ v2, v2 = (((w1.setCell ⟨w.heap.size, 0, none⟩ (.int .i64 R)).setCell ⟨w.heap.size, 1, none⟩ (.int .i64 C)).setCell ⟨w.heap.size, 2, none⟩ (.slice A5 l.length c5)) := ⟨_, rfl⟩
  have Y0 : Whole v2 w.heap.size 36 [.int .i64 R, .int .i64 C, .slice A5 l.length c5, .int .i64 p, .int .i64 q, .int .i64 bl, .int .i64 rd, .int .i64 nx] := by rw [hv2]; exact ((X0.set 0 (.int .i64 R)).set 1 (.int .i64 C)).set 2 (.slice A5 l.length c5)
  replace X1 : Whole v2 (w.heap.size + 1) 36 [.int .i64 0, .int .i64 0, .slice none 0 0, .int .i64 0, .int .i64 0, .int .i64 0, .int .i64 0, .int .i64 0] := by rw [hv2]; exact three_far X1 n10
  replace o5 : Own v2 A5 95 (flat l) := by
    rw [hv2]
    intro hx
    obtain ⟨k, rest, rfl, hk⟩ := o5 hx
    have hk0 : v0.heap.size ≤ k := n5 _ rfl
    exact ⟨k, rest, rfl, three_far hk (by have := B0.size; intro e; subst e; have := own_apart (A := some ⟨w.heap.size, 0, none⟩) (fun _ => ⟨_, rest, rfl, hk⟩) X0 (by decide) hx rfl; exact this rfl)⟩
  replace B0 : Below w.heap.size w v2 := by rw [hv2]; exact ((B0.setCell (p := ⟨w.heap.size, 0, none⟩) (Nat.le_refl _) _).setCell (p := ⟨w.heap.size, 1, none⟩) (Nat.le_refl _) _).setCell (p := ⟨w.heap.size, 2, none⟩) (Nat.le_refl _) _
  rewrite [← hv2]
  clear X0k0 X0k1 X0k2
  clear X0f0 X0f1 X0f2 hv2 n5 X0
  have X0 := Y0
  have hy := X0.lt
  have hz := X1.lt
  have X0k0 : v2.cell? ⟨w.heap.size, 0, none⟩ = some (.int .i64 R) := (X0.cell 0).trans rfl; have X0k1 : v2.cell? ⟨w.heap.size, 1, none⟩ = some (.int .i64 C) := (X0.cell 1).trans rfl; have X0k2 : v2.cell? ⟨w.heap.size, 2, none⟩ = some (.slice A5 l.length c5) := (X0.cell 2).trans rfl; have X0k3 : v2.cell? ⟨w.heap.size, 3, none⟩ = some (.int .i64 p) := (X0.cell 3).trans rfl; have X0k4 : v2.cell? ⟨w.heap.size, 4, none⟩ = some (.int .i64 q) := (X0.cell 4).trans rfl; have X0k5 : v2.cell? ⟨w.heap.size, 5, none⟩ = some (.int .i64 bl) := (X0.cell 5).trans rfl
  have X0k6 : v2.cell? ⟨w.heap.size, 6, none⟩ = some (.int .i64 rd) := (X0.cell 6).trans rfl; have X0k7 : v2.cell? ⟨w.heap.size, 7, none⟩ = some (.int .i64 nx) := (X0.cell 7).trans rfl
  have X1k0 : v2.cell? ⟨w.heap.size + 1, 0, none⟩ = some (.int .i64 0) := (X1.cell 0).trans rfl; have X1k1 : v2.cell? ⟨w.heap.size + 1, 1, none⟩ = some (.int .i64 0) := (X1.cell 1).trans rfl; have X1k2 : v2.cell? ⟨w.heap.size + 1, 2, none⟩ = some (.slice none 0 0) := (X1.cell 2).trans rfl; have X1k3 : v2.cell? ⟨w.heap.size + 1, 3, none⟩ = some (.int .i64 0) := (X1.cell 3).trans rfl; have X1k4 : v2.cell? ⟨w.heap.size + 1, 4, none⟩ = some (.int .i64 0) := (X1.cell 4).trans rfl; have X1k5 : v2.cell? ⟨w.heap.size + 1, 5, none⟩ = some (.int .i64 0) := (X1.cell 5).trans rfl
  have X1k6 : v2.cell? ⟨w.heap.size + 1, 6, none⟩ = some (.int .i64 0) := (X1.cell 6).trans rfl; have X1k7 : v2.cell? ⟨w.heap.size + 1, 7, none⟩ = some (.int .i64 0) := (X1.cell 7).trans rfl
  have X1f0 := X1.frozen 0; have X1f1 := X1.frozen 1; have X1f2 := X1.frozen 2; have X1f3 := X1.frozen 3; have X1f4 := X1.frozen 4; have X1f5 := X1.frozen 5; have X1f6 := X1.frozen 6; have X1f7 := X1.frozen 7
  go_wp2
  rewrite [mset_fold]; obtain ⟨v4, hv4⟩ : ∃ v4, v4 = mset v2 (w.heap.size + 1) (.int .i64 R) (.int .i64 C) (.slice A5 l.length c5) (.int .i64 p) (.int .i64 q) (.int .i64 bl) (.int .i64 rd) (.int .i64 nx) := ⟨_, rfl⟩; have Z1 : Whole v4 (w.heap.size + 1) 36 [.int .i64 R, .int .i64 C, .slice A5 l.length c5, .int .i64 p, .int .i64 q, .int .i64 bl, .int .i64 rd, .int .i64 nx] := (by rw [hv4]; exact Whole.mset X1 _ _ _ _ _ _ _ _)
  replace o5 : Own v4 A5 95 (flat l) := by rw [hv4]; exact own_mset o5 X1 (by decide)
  replace B0 : Below w.heap.size w v4 := by rw [hv4]; exact below_mset B0 (by omega)
  clear X0k0 X0k1 X0k2 X0k3 X0k4 X0k5 X0k6 X0k7
  clear X1k0 X1k1 X1k2 X1k3 X1k4 X1k5 X1k6 X1k7
  clear X1f0 X1f1 X1f2 X1f3 X1f4 X1f5 X1f6 X1f7
  rewrite [← hv4]
  clear hv4
  have Z1k0 : v4.cell? ⟨w.heap.size + 1, 0, none⟩ = some (.int .i64 R) := (Z1.cell 0).trans rfl; have Z1k1 : v4.cell? ⟨w.heap.size + 1, 1, none⟩ = some (.int .i64 C) := (Z1.cell 1).trans rfl; have Z1k2 : v4.cell? ⟨w.heap.size + 1, 2, none⟩ = some (.slice A5 l.length c5) := (Z1.cell 2).trans rfl; have Z1k3 : v4.cell? ⟨w.heap.size + 1, 3, none⟩ = some (.int .i64 p) := (Z1.cell 3).trans rfl; have Z1k4 : v4.cell? ⟨w.heap.size + 1, 4, none⟩ = some (.int .i64 q) := (Z1.cell 4).trans rfl; have Z1k5 : v4.cell? ⟨w.heap.size + 1, 5, none⟩ = some (.int .i64 bl) := (Z1.cell 5).trans rfl; have Z1k6 : v4.cell? ⟨w.heap.size + 1, 6, none⟩ = some (.int .i64 rd) := (Z1.cell 6).trans rfl; have Z1k7 : v4.cell? ⟨w.heap.size + 1, 7, none⟩ = some (.int .i64 nx) := (Z1.cell 7).trans rfl
  refine bodyPost_ret (v := .agg #[.int .i64 R, .int .i64 C, .slice A5 l.length c5, .int .i64 p, .int .i64 q, .int .i64 bl, .int .i64 rd, .int .i64 nx]) ?_ rfl ?_; (focus (simp [results, Tryz.results52, go_sem, *]; done))
  exact ⟨A5, c5, rfl, o5, hn0, B0⟩
end Go.Proofs.YtlambflmabecfaaGreat
namespace Go.Proofs.YtlambflmabecfaaGreat
open Go.ChangeShapes Go.WideShapes Go.ChangeAt Go.RowKit Go.Joins Go.Deep
set_option linter.unusedSimpArgs false
set_option linter.unusedVariables false
set_option maxRecDepth 100000
set_option maxHeartbeats 4000000
/-- What dropMarble leaves behind: the end, as a value of the interface, and its cells turned. -/
def PostE (w : World) (g5 : Nat) (rest5 : List Value) (F : FlR) (e : Ending) (w' : World) : Prop :=
  e = .returned (endV (F.e, F.row, F.col)) ∧ Whole w' g5 95 (flat F.cells ++ rest5) ∧ w.grownBy w' (some g5)
theorem impl_dropMarble (r c g5 cap : Nat) (l : List (Int × Int)) (rest5 : List Value) (col : Nat) (w : World) (hG : Geo r c l.length) (hgd : goodB (r : Int) (c : Int) l = true) (hcol : col < c) (X7 : Whole w g5 95 (flat l ++ rest5)) :
    Calls Tryz.prog 60 #[.agg #[.int .i64 (r : Int), .int .i64 (c : Int), .slice (some ⟨g5, 0, none⟩) l.length cap], .int .i64 (col : Int)] w (PostE w g5 rest5 (flG (numL c l) r c r 0 l col 0 [])) := by
  have mk1 : ∀ (x : Value) (w : World), (Instr.makeInterface 117 x).run Tryz.prog w = .ok (.iface 117 x) w := fun x w => run_makeInterface w _ x (by kernel_rfl)
  have mk2 : ∀ (x : Value) (w : World), (Instr.makeInterface 118 x).run Tryz.prog w = .ok (.iface 118 x) w := fun x w => run_makeInterface w _ x (by kernel_rfl)
  have hlt := X7.lt
  go_enter Tryz.func60, Tryz.ntmps60
  obtain ⟨v0, hv0⟩ : ∃ v, v = w.alloc (.cells #[.int .i64 (r : Int), .int .i64 (c : Int), .slice (some ⟨g5, 0, none⟩) l.length cap] 34) := ⟨_, rfl⟩
  have X0 : Whole v0 w.heap.size 34 [.int .i64 (r : Int), .int .i64 (c : Int), .slice (some ⟨g5, 0, none⟩) l.length cap] := by rw [hv0]; exact heap_alloc_new w _
  have hb : Below w.heap.size w v0 := by rw [hv0]; exact (Below.refl _ _).alloc (Nat.le_refl _) _
  have HV := Lib.hid hv0.symm
  clear hv0
  go_upto_region 1 with (fail)
  rewrite [HV.out]
  clear HV
  replace X7 := X7.below hb hlt
  have gb := gb_below (gb_refl w g5) hb
  have X0k0 : v0.cell? ⟨w.heap.size, 0, none⟩ = some (.int .i64 (r : Int)) := (X0.cell 0).trans rfl; have X0k1 : v0.cell? ⟨w.heap.size, 1, none⟩ = some (.int .i64 (c : Int)) := (X0.cell 1).trans rfl; have X0k2 : v0.cell? ⟨w.heap.size, 2, none⟩ = some (.slice (some ⟨g5, 0, none⟩) l.length cap) := (X0.cell 2).trans rfl
  go_wp2_with fail
  refine (impl_letFall r c g5 cap l rest5 col _ hG hgd hcol X7).mono ?_; rintro e w2 ⟨A, cp, rfl, oA, nA, X7', gb2⟩
  clear X0k0 X0k1 X0k2
  replace gb := gb_same gb gb2
  clear X0 X7 gb2 oA nA hb
  generalize flG (numL c l) r c r 0 l col 0 [] = F at *
  obtain ⟨fe, fr, fc, fl, fw⟩ := F
  by_cases hE : fe = 1
  · subst hE
    go_wp2
    refine bodyPost_ret (v := .iface 117 (.agg #[.int .i64 1, .int .i64 fr, .int .i64 fc])) ?_ rfl ?_; (focus (simp [results, Tryz.results60, go_sem, *]; done))
    exact ⟨by rw [endV_in rfl], X7'.below (by (repeat' (first | (with_reducible exact Below.refl _ _) | (with_reducible assumption) | (with_reducible refine Below.alloc ?_ ?_ _) | (with_reducible refine Below.setCell ?_ ?_ _) | (with_reducible refine Below.drew ?_) | (with_reducible refine below_drewN ?_ _) | (with_reducible refine Below.trans ?_ (Below.mono (by assumption) ?_)) | (with_reducible exact Nat.le_refl _) | (simp; done) | omega | (simp at *; omega)))) X7'.lt, gb_below gb (by (repeat' (first | (with_reducible exact Below.refl _ _) | (with_reducible assumption) | (with_reducible refine Below.alloc ?_ ?_ _) | (with_reducible refine Below.setCell ?_ ?_ _) | (with_reducible refine Below.drew ?_) | (with_reducible refine below_drewN ?_ _) | (with_reducible refine Below.trans ?_ (Below.mono (by assumption) ?_)) | (with_reducible exact Nat.le_refl _) | (simp; done) | omega | (simp at *; omega))))⟩
  · have hb : (fe == 1) = false := by simpa using hE
    go_wp2
    refine bodyPost_ret (v := .iface 118 (.agg #[.int .i64 fe, .int .i64 fr, .int .i64 fc])) ?_ rfl ?_; (focus (simp [results, Tryz.results60, go_sem, *]; done))
    exact ⟨by rw [endV_out hE], X7'.below (by (repeat' (first | (with_reducible exact Below.refl _ _) | (with_reducible assumption) | (with_reducible refine Below.alloc ?_ ?_ _) | (with_reducible refine Below.setCell ?_ ?_ _) | (with_reducible refine Below.drew ?_) | (with_reducible refine below_drewN ?_ _) | (with_reducible refine Below.trans ?_ (Below.mono (by assumption) ?_)) | (with_reducible exact Nat.le_refl _) | (simp; done) | omega | (simp at *; omega)))) X7'.lt, gb_below gb (by (repeat' (first | (with_reducible exact Below.refl _ _) | (with_reducible assumption) | (with_reducible refine Below.alloc ?_ ?_ _) | (with_reducible refine Below.setCell ?_ ?_ _) | (with_reducible refine Below.drew ?_) | (with_reducible refine below_drewN ?_ _) | (with_reducible refine Below.trans ?_ (Below.mono (by assumption) ?_)) | (with_reducible exact Nat.le_refl _) | (simp; done) | omega | (simp at *; omega))))⟩
theorem impl_arrivalColumn (f : Int × Int × Int) (w : World) :
    Calls Tryz.prog 69 #[endV f] w fun e w' => e = .returned (.tuple #[.int .i64 (if f.1 = 1 then f.2.2 else 0), .bool (decide (f.1 = 1))]) ∧ Below w.heap.size w w' := by
  obtain ⟨a, b, c⟩ := f
  have as1 : ∀ (v : Value) (w : World), (Instr.typeAssert (.iface 117 v) 83 117 true).run Tryz.prog w = .ok (.tuple #[v, .bool true]) w := fun v w => by kernel_rfl
  have as2 : ∀ (v : Value) (w : World), (Instr.typeAssert (.iface 118 v) 83 117 true).run Tryz.prog w = .ok (.tuple #[.agg #[.int .i64 0, .int .i64 0, .int .i64 0], .bool false]) w := fun v w => by kernel_rfl
  by_cases h : a = 1
  · subst h
    rw [endV_in rfl]
    have e1 : (if ((1, b, c) : Int × Int × Int).1 = 1 then ((1, b, c) : Int × Int × Int).2.2 else 0) = c := if_pos rfl
    have e2 : decide (((1, b, c) : Int × Int × Int).1 = 1) = true := decide_eq_true rfl
    rw [e1, e2]
    clear e1 e2
    go_enter Tryz.func69, Tryz.ntmps69
    go_wp2
    refine bodyPost_ret (v := .tuple #[.int .i64 c, .bool true]) ?_ rfl ?_; (focus (simp [results, Tryz.results69, go_sem, *]; done))
    exact ⟨rfl, by (repeat' (first | (with_reducible exact Below.refl _ _) | (with_reducible assumption) | (with_reducible refine Below.alloc ?_ ?_ _) | (with_reducible refine Below.setCell ?_ ?_ _) | (with_reducible refine Below.drew ?_) | (with_reducible refine below_drewN ?_ _) | (with_reducible refine Below.trans ?_ (Below.mono (by assumption) ?_)) | (with_reducible exact Nat.le_refl _) | (simp; done) | omega | (simp at *; omega)))⟩
  · rw [endV_out h]
    have e1 : (if ((a, b, c) : Int × Int × Int).1 = 1 then ((a, b, c) : Int × Int × Int).2.2 else 0) = 0 := if_neg h
    have e2 : decide (((a, b, c) : Int × Int × Int).1 = 1) = false := decide_eq_false h
    rw [e1, e2]
    clear e1 e2
    clear h
    go_enter Tryz.func69, Tryz.ntmps69
    go_wp2
    refine bodyPost_ret (v := .tuple #[.int .i64 0, .bool false]) ?_ rfl ?_; (focus (simp [results, Tryz.results69, go_sem, *]; done))
    exact ⟨rfl, by (repeat' (first | (with_reducible exact Below.refl _ _) | (with_reducible assumption) | (with_reducible refine Below.alloc ?_ ?_ _) | (with_reducible refine Below.setCell ?_ ?_ _) | (with_reducible refine Below.drew ?_) | (with_reducible refine below_drewN ?_ _) | (with_reducible refine Below.trans ?_ (Below.mono (by assumption) ?_)) | (with_reducible exact Nat.le_refl _) | (simp; done) | omega | (simp at *; omega)))⟩
def nextE (f : Int × Int × Int) (C : Int) : Int := if f.1 = 1 then (if 2 * f.2.2 < C then 0 else 1) else 2
theorem impl_nextBehind (f : Int × Int × Int) (C : Int) (w : World) (hb : f.1 = 1 → 0 ≤ f.2.2 ∧ f.2.2 ≤ 1000) :
    Calls Tryz.prog 61 #[endV f, .int .i64 C] w fun e w' => e = .returned (.int .i64 (nextE f C)) ∧ Below w.heap.size w w' := by
  unfold nextE
  by_cases h : f.1 = 1
  · obtain ⟨h1, h2⟩ := hb h
    have m1 : IntKind.i64.wrap (2 * f.2.2) = 2 * f.2.2 := IntWalk.i64_in _ (by omega)
    have HC := Lib.hid (impl_arrivalColumn f)
    rw [if_pos h]
    rw [if_pos h, decide_eq_true h] at HC
    by_cases h3 : 2 * f.2.2 < C
    · rw [if_pos h3]
      generalize endV f = ev at *
      generalize f.2.2 = cl at *
      clear h hb
      go_enter Tryz.func61, Tryz.ntmps61
      go_wp2_with fail
      refine (HC.out _).mono ?_; rintro e w1 ⟨rfl, b1⟩
      go_wp2
      go_returns
      exact ⟨rfl, by (repeat' (first | (with_reducible exact Below.refl _ _) | (with_reducible assumption) | (with_reducible refine Below.alloc ?_ ?_ _) | (with_reducible refine Below.setCell ?_ ?_ _) | (with_reducible refine Below.drew ?_) | (with_reducible refine below_drewN ?_ _) | (with_reducible refine Below.trans ?_ (Below.mono (by assumption) ?_)) | (with_reducible exact Nat.le_refl _) | (simp; done) | omega | (simp at *; omega)))⟩
    · rw [if_neg h3]
      generalize endV f = ev at *
      generalize f.2.2 = cl at *
      clear h hb
      go_enter Tryz.func61, Tryz.ntmps61
      go_wp2_with fail
      refine (HC.out _).mono ?_; rintro e w1 ⟨rfl, b1⟩
      go_wp2
      go_returns
      exact ⟨rfl, by (repeat' (first | (with_reducible exact Below.refl _ _) | (with_reducible assumption) | (with_reducible refine Below.alloc ?_ ?_ _) | (with_reducible refine Below.setCell ?_ ?_ _) | (with_reducible refine Below.drew ?_) | (with_reducible refine below_drewN ?_ _) | (with_reducible refine Below.trans ?_ (Below.mono (by assumption) ?_)) | (with_reducible exact Nat.le_refl _) | (simp; done) | omega | (simp at *; omega)))⟩
  · have HC := Lib.hid (impl_arrivalColumn f)
    rw [if_neg h]
    rw [if_neg h, decide_eq_false h] at HC
    generalize endV f = ev at *
    clear h hb
    go_enter Tryz.func61, Tryz.ntmps61
    go_wp2_with fail
    refine (HC.out _).mono ?_; rintro e w1 ⟨rfl, b1⟩
    go_wp2
    go_returns
    exact ⟨rfl, by (repeat' (first | (with_reducible exact Below.refl _ _) | (with_reducible assumption) | (with_reducible refine Below.alloc ?_ ?_ _) | (with_reducible refine Below.setCell ?_ ?_ _) | (with_reducible refine Below.drew ?_) | (with_reducible refine below_drewN ?_ _) | (with_reducible refine Below.trans ?_ (Below.mono (by assumption) ?_)) | (with_reducible exact Nat.le_refl _) | (simp; done) | omega | (simp at *; omega)))⟩
end Go.Proofs.YtlambflmabecfaaGreat
namespace Go.Proofs.YtlambflmabecfaaGreat
open Go.ChangeShapes Go.WideShapes Go.ChangeAt Go.RowKit Go.Joins Go.Deep
set_option linter.unusedSimpArgs false
set_option linter.unusedVariables false
set_option maxRecDepth 100000
set_option maxHeartbeats 4000000
/-- What releaseNext leaves behind, where a step is possible. -/
def PostR (w : World) (r c g g5 cap : Nat) (l : List (Int × Int)) (rest5 : List Value) (p q bl rd nx : Int) (e : Ending) (w' : World) : Prop :=
  e = .returned (.tuple #[.agg #[.int .i64 nx, endV ((marO (r : Int) (c : Int) l (colM p q nx)).e, (marO (r : Int) (c : Int) l (colM p q nx)).row, (marO (r : Int) (c : Int) l (colM p q nx)).col)], .bool true]) ∧
  Whole w' g 36 [.int .i64 (r : Int), .int .i64 (c : Int), .slice (some ⟨g5, 0, none⟩) l.length cap, .int .i64 p, .int .i64 q, .int .i64 (if nx = 0 then bl - 1 else bl), .int .i64 (if nx = 0 then rd else rd - 1), .int .i64 (nextM (c : Int) (marO (r : Int) (c : Int) l (colM p q nx)))] ∧
  Whole w' g5 95 (flat (marO (r : Int) (c : Int) l (colM p q nx)).cells ++ rest5) ∧ Gr2 w w' g g5
theorem nextE_M (f : FlR) (C : Int) : nextE (f.e, f.row, f.col) C = nextM C f := rfl
theorem endV_iface (f : Int × Int × Int) : ∃ T v, endV f = .iface T v := ⟨_, _, rfl⟩
theorem gr_far {w v : World} {g k a : Nat} (h : Gr2 w v g k) (ha : w.heap.size ≤ a) (j : Nat) (u : Value) : Gr2 w (v.setCell ⟨a, j, none⟩ u) g k :=
  ⟨h.os, h.tape, h.output, by rw [World.size_setCell]; exact h.size, fun i hi h1 h2 => (Below.heap_setCell _ _ _ _ (by show i ≠ a; omega)).trans (h.block i hi h1 h2)⟩
theorem impl_releaseNext_yes (r c g g5 cap : Nat) (l : List (Int × Int)) (rest5 : List Value) (p q bl rd nx : Int) (col : Nat) (w : World) (hG : Geo r c l.length) (hgd : goodB (r : Int) (c : Int) l = true) (hc : canM bl rd nx = true) (hbl : bl ≤ 30) (hrd : rd ≤ 30) (hcol : colM p q nx = (col : Int)) (hlt : col < c) (hne : g ≠ g5)
    (X0 : Whole w g 36 [.int .i64 (r : Int), .int .i64 (c : Int), .slice (some ⟨g5, 0, none⟩) l.length cap, .int .i64 p, .int .i64 q, .int .i64 bl, .int .i64 rd, .int .i64 nx]) (X7 : Whole w g5 95 (flat l ++ rest5)) :
    Calls Tryz.prog 53 #[.pointer (some ⟨g, 0, none⟩)] w (PostR w r c g g5 cap l rest5 p q bl rd nx) := by
  have hgw := X0.lt
  have h5w := X7.lt
  have n1 : w.heap.size ≠ g := by omega
  have n2 : w.heap.size ≠ g5 := by omega
  obtain ⟨s1, s2, s3, s4⟩ := sizeB_iff.1 (goodB_iff.1 hgd).1
  rw [canM_iff] at hc
  by_cases h0 : nx = 0
  · have hb : 0 < bl := by omega
    subst h0
    obtain rfl : p = (col : Int) := hcol
    clear hc
    have m1 : IntKind.i64.wrap (bl - 1) = bl - 1 := IntWalk.i64_in _ (by omega)
    go_enter Tryz.func53, Tryz.ntmps53
    obtain ⟨v0, hv0⟩ : ∃ v, v = w.alloc (.cells #[.int .i64 0, .nilIface] 85) := ⟨_, rfl⟩
    have XR : Whole v0 w.heap.size 85 [.int .i64 0, .nilIface] := by rw [hv0]; exact heap_alloc_new w _
    have hb0 : Below w.heap.size w v0 := by rw [hv0]; exact (Below.refl _ _).alloc (Nat.le_refl _) _
    have HV := Lib.hid hv0.symm
    clear hv0
    have gr : Gr2 w v0 g g5 := (Gr2.refl w g g5).below hb0
    replace X0 := X0.below hb0 X0.lt
    replace X7 := X7.below hb0 X7.lt
    go_upto_region 1 with (fail)
    rewrite [HV.out]
    clear HV hb0
    have hgl := X0.lt
    have X0k0 : v0.cell? ⟨g, 0, none⟩ = some (.int .i64 (r : Int)) := (X0.cell 0).trans rfl; have X0k1 : v0.cell? ⟨g, 1, none⟩ = some (.int .i64 (c : Int)) := (X0.cell 1).trans rfl; have X0k2 : v0.cell? ⟨g, 2, none⟩ = some (.slice (some ⟨g5, 0, none⟩) l.length cap) := (X0.cell 2).trans rfl; have X0k3 : v0.cell? ⟨g, 3, none⟩ = some (.int .i64 (col : Int)) := (X0.cell 3).trans rfl; have X0k4 : v0.cell? ⟨g, 4, none⟩ = some (.int .i64 q) := (X0.cell 4).trans rfl; have X0k5 : v0.cell? ⟨g, 5, none⟩ = some (.int .i64 bl) := (X0.cell 5).trans rfl
    have X0k6 : v0.cell? ⟨g, 6, none⟩ = some (.int .i64 rd) := (X0.cell 6).trans rfl; have X0k7 : v0.cell? ⟨g, 7, none⟩ = some (.int .i64 0) := (X0.cell 7).trans rfl
    have X0f5 := X0.frozen 5
    have X0f6 := X0.frozen 6
    go_region
    go_upto_region 8 with (fail)
    clear X0k0 X0k1 X0k2 X0k3 X0k4 X0k5 X0k6 X0k7
    obtain ⟨v2, hv2⟩ : ∃ v2, v2 = (v0.setCell ⟨g, 5, none⟩ (.int .i64 (bl - 1))).drew := ⟨_, rfl⟩
    have Y0 : Whole v2 g 36 [.int .i64 (r : Int), .int .i64 (c : Int), .slice (some ⟨g5, 0, none⟩) l.length cap, .int .i64 (col : Int), .int .i64 q, .int .i64 (bl - 1), .int .i64 rd, .int .i64 0] := by rw [hv2]; exact X0.set 5 (.int .i64 (bl - 1))
    replace XR : Whole v2 w.heap.size 85 [.int .i64 0, .nilIface] := by rw [hv2]; exact XR.set_far _ _ n1.symm
    replace X7 : Whole v2 g5 95 (flat l ++ rest5) := by rw [hv2]; exact X7.set_far _ _ hne
    replace gr : Gr2 w v2 g g5 := by rw [hv2]; exact (gr.set 5 _).below ((Below.refl _ _).drew)
    rewrite [← hv2]
    clear hv2 X0 X0f5 X0f6 hgl
    have hgl := Y0.lt
    have Y0k0 : v2.cell? ⟨g, 0, none⟩ = some (.int .i64 (r : Int)) := (Y0.cell 0).trans rfl; have Y0k1 : v2.cell? ⟨g, 1, none⟩ = some (.int .i64 (c : Int)) := (Y0.cell 1).trans rfl; have Y0k2 : v2.cell? ⟨g, 2, none⟩ = some (.slice (some ⟨g5, 0, none⟩) l.length cap) := (Y0.cell 2).trans rfl
    go_wp2_with fail
    refine (impl_dropMarble r c g5 cap l rest5 col _ hG hgd hlt X7).mono ?_; rintro e w3 ⟨rfl, X7', gb⟩
    clear Y0k0 Y0k1 Y0k2
    replace Y0 := Y0.grown gb (fun e => hne (by injection e))
    replace XR := XR.grown gb (fun e => n2 (by injection e))
    replace gr := gr.grown gb
    clear X7 gb hgl
    have hok := flG_okE (numL c l) r c r 0 l col 0 [] hlt
    have HF := Lib.hid (show marO (r : Int) (c : Int) l (colM (col : Int) q 0) = flG (numL c l) r c r 0 l col 0 [] from rfl)
    generalize flG (numL c l) r c r 0 l col 0 [] = F at *
    have HN := Lib.hid (nextE_M F (c : Int))
    have hbd : (F.e, F.row, F.col).1 = 1 → 0 ≤ (F.e, F.row, F.col).2.2 ∧ (F.e, F.row, F.col).2.2 ≤ 1000 := fun h => by
      rcases hok with h1 | h1 | h1
      · have h2 := h1.2.1; have h3 := h1.2.2; exact ⟨h2, by omega⟩
      · have h2 : F.e = 2 := h1; have h3 : F.e = 1 := h; omega
      · have h2 : F.e = 3 := h1; have h3 : F.e = 1 := h; omega
    have HB := Lib.hid hbd
    clear hok hbd
    generalize hev : (F.e, F.row, F.col) = f at *
    have hgl := Y0.lt
    have Y0k0 : w3.cell? ⟨g, 0, none⟩ = some (.int .i64 (r : Int)) := (Y0.cell 0).trans rfl; have Y0k1 : w3.cell? ⟨g, 1, none⟩ = some (.int .i64 (c : Int)) := (Y0.cell 1).trans rfl; have Y0k2 : w3.cell? ⟨g, 2, none⟩ = some (.slice (some ⟨g5, 0, none⟩) l.length cap) := (Y0.cell 2).trans rfl
    go_wp2_with fail
    refine (impl_nextBehind f (c : Int) _ HB.out).mono ?_; rintro e w4 ⟨rfl, b4⟩
    clear Y0k0 Y0k1 Y0k2
    rewrite [HN.out]
    replace Y0 := Y0.below b4 Y0.lt
    replace XR := XR.below b4 XR.lt
    replace X7' := X7'.below b4 X7'.lt
    replace gr := gr.below b4
    clear b4 hgl
    have hgl := Y0.lt
    have hrl := XR.lt
    obtain ⟨T, ev, hE⟩ := endV_iface f
    have HE := Lib.hid hE
    rewrite [hE]
    clear hE
    have Y0f7 := Y0.frozen 7
    have Y0k7 : w4.cell? ⟨g, 7, none⟩ = some (.int .i64 0) := (Y0.cell 7).trans rfl
    have XRk0 : w4.cell? ⟨w.heap.size, 0, none⟩ = some (.int .i64 0) := (XR.cell 0).trans rfl
    have XRk1 : w4.cell? ⟨w.heap.size, 1, none⟩ = some (.nilIface) := (XR.cell 1).trans rfl
    have XRf0 := XR.frozen 0
    have XRf1 := XR.frozen 1
    go_wp2
    refine bodyPost_ret (v := .tuple #[.agg #[.int .i64 0, .iface T ev], .bool true]) ?_ rfl ?_; (focus (simp [results, Tryz.results53, go_sem, *]; done))
    unfold PostR
    rewrite [HF.out, hev, HE.out]
    refine ⟨rfl, ?_, ?_, ?_⟩
    · exact ((Y0.set 7 (.int .i64 (nextM (c : Int) F))).set_far _ _ n1).set_far _ _ n1
    · exact ((X7'.set_far _ _ hne).set_far _ _ n2).set_far _ _ n2
    · exact gr_far (gr_far (gr.set 7 _) (by omega) _ _) (by omega) _ _
  · have h1 : nx = 1 := by omega
    have hr : 0 < rd := by omega
    subst h1
    obtain rfl : q = (col : Int) := hcol
    clear hc h0
    have m1 : IntKind.i64.wrap (rd - 1) = rd - 1 := IntWalk.i64_in _ (by omega)
    go_enter Tryz.func53, Tryz.ntmps53
    obtain ⟨v0, hv0⟩ : ∃ v, v = w.alloc (.cells #[.int .i64 0, .nilIface] 85) := ⟨_, rfl⟩
    have XR : Whole v0 w.heap.size 85 [.int .i64 0, .nilIface] := by rw [hv0]; exact heap_alloc_new w _
    have hb0 : Below w.heap.size w v0 := by rw [hv0]; exact (Below.refl _ _).alloc (Nat.le_refl _) _
    have HV := Lib.hid hv0.symm
    clear hv0
    have gr : Gr2 w v0 g g5 := (Gr2.refl w g g5).below hb0
    replace X0 := X0.below hb0 X0.lt
    replace X7 := X7.below hb0 X7.lt
    go_upto_region 1 with (fail)
    rewrite [HV.out]
    clear HV hb0
    have hgl := X0.lt
    have X0k0 : v0.cell? ⟨g, 0, none⟩ = some (.int .i64 (r : Int)) := (X0.cell 0).trans rfl; have X0k1 : v0.cell? ⟨g, 1, none⟩ = some (.int .i64 (c : Int)) := (X0.cell 1).trans rfl; have X0k2 : v0.cell? ⟨g, 2, none⟩ = some (.slice (some ⟨g5, 0, none⟩) l.length cap) := (X0.cell 2).trans rfl; have X0k3 : v0.cell? ⟨g, 3, none⟩ = some (.int .i64 p) := (X0.cell 3).trans rfl; have X0k4 : v0.cell? ⟨g, 4, none⟩ = some (.int .i64 (col : Int)) := (X0.cell 4).trans rfl; have X0k5 : v0.cell? ⟨g, 5, none⟩ = some (.int .i64 bl) := (X0.cell 5).trans rfl
    have X0k6 : v0.cell? ⟨g, 6, none⟩ = some (.int .i64 rd) := (X0.cell 6).trans rfl; have X0k7 : v0.cell? ⟨g, 7, none⟩ = some (.int .i64 1) := (X0.cell 7).trans rfl
    have X0f5 := X0.frozen 5
    have X0f6 := X0.frozen 6
    go_region
    go_upto_region 8 with (fail)
    clear X0k0 X0k1 X0k2 X0k3 X0k4 X0k5 X0k6 X0k7
    obtain ⟨v2, hv2⟩ : ∃ v2, v2 = (v0.setCell ⟨g, 6, none⟩ (.int .i64 (rd - 1))).drew := ⟨_, rfl⟩
    have Y0 : Whole v2 g 36 [.int .i64 (r : Int), .int .i64 (c : Int), .slice (some ⟨g5, 0, none⟩) l.length cap, .int .i64 p, .int .i64 (col : Int), .int .i64 bl, .int .i64 (rd - 1), .int .i64 1] := by rw [hv2]; exact X0.set 6 (.int .i64 (rd - 1))
    replace XR : Whole v2 w.heap.size 85 [.int .i64 0, .nilIface] := by rw [hv2]; exact XR.set_far _ _ n1.symm
    replace X7 : Whole v2 g5 95 (flat l ++ rest5) := by rw [hv2]; exact X7.set_far _ _ hne
    replace gr : Gr2 w v2 g g5 := by rw [hv2]; exact (gr.set 6 _).below ((Below.refl _ _).drew)
    rewrite [← hv2]
    clear hv2 X0 X0f5 X0f6 hgl
    have hgl := Y0.lt
    have Y0k0 : v2.cell? ⟨g, 0, none⟩ = some (.int .i64 (r : Int)) := (Y0.cell 0).trans rfl; have Y0k1 : v2.cell? ⟨g, 1, none⟩ = some (.int .i64 (c : Int)) := (Y0.cell 1).trans rfl; have Y0k2 : v2.cell? ⟨g, 2, none⟩ = some (.slice (some ⟨g5, 0, none⟩) l.length cap) := (Y0.cell 2).trans rfl
    go_wp2_with fail
    refine (impl_dropMarble r c g5 cap l rest5 col _ hG hgd hlt X7).mono ?_; rintro e w3 ⟨rfl, X7', gb⟩
    clear Y0k0 Y0k1 Y0k2
    replace Y0 := Y0.grown gb (fun e => hne (by injection e))
    replace XR := XR.grown gb (fun e => n2 (by injection e))
    replace gr := gr.grown gb
    clear X7 gb hgl
    have hok := flG_okE (numL c l) r c r 0 l col 0 [] hlt
    have HF := Lib.hid (show marO (r : Int) (c : Int) l (colM p (col : Int) 1) = flG (numL c l) r c r 0 l col 0 [] from rfl)
    generalize flG (numL c l) r c r 0 l col 0 [] = F at *
    have HN := Lib.hid (nextE_M F (c : Int))
    have hbd : (F.e, F.row, F.col).1 = 1 → 0 ≤ (F.e, F.row, F.col).2.2 ∧ (F.e, F.row, F.col).2.2 ≤ 1000 := fun h => by
      rcases hok with h1 | h1 | h1
      · have h2 := h1.2.1; have h3 := h1.2.2; exact ⟨h2, by omega⟩
      · have h2 : F.e = 2 := h1; have h3 : F.e = 1 := h; omega
      · have h2 : F.e = 3 := h1; have h3 : F.e = 1 := h; omega
    have HB := Lib.hid hbd
    clear hok hbd
    generalize hev : (F.e, F.row, F.col) = f at *
    have hgl := Y0.lt
    have Y0k0 : w3.cell? ⟨g, 0, none⟩ = some (.int .i64 (r : Int)) := (Y0.cell 0).trans rfl; have Y0k1 : w3.cell? ⟨g, 1, none⟩ = some (.int .i64 (c : Int)) := (Y0.cell 1).trans rfl; have Y0k2 : w3.cell? ⟨g, 2, none⟩ = some (.slice (some ⟨g5, 0, none⟩) l.length cap) := (Y0.cell 2).trans rfl
    go_wp2_with fail
    refine (impl_nextBehind f (c : Int) _ HB.out).mono ?_; rintro e w4 ⟨rfl, b4⟩
    clear Y0k0 Y0k1 Y0k2
    rewrite [HN.out]
    replace Y0 := Y0.below b4 Y0.lt
    replace XR := XR.below b4 XR.lt
    replace X7' := X7'.below b4 X7'.lt
    replace gr := gr.below b4
    clear b4 hgl
    have hgl := Y0.lt
    have hrl := XR.lt
    obtain ⟨T, ev, hE⟩ := endV_iface f
    have HE := Lib.hid hE
    rewrite [hE]
    clear hE
    have Y0f7 := Y0.frozen 7
    have Y0k7 : w4.cell? ⟨g, 7, none⟩ = some (.int .i64 1) := (Y0.cell 7).trans rfl
    have XRk0 : w4.cell? ⟨w.heap.size, 0, none⟩ = some (.int .i64 0) := (XR.cell 0).trans rfl
    have XRk1 : w4.cell? ⟨w.heap.size, 1, none⟩ = some (.nilIface) := (XR.cell 1).trans rfl
    have XRf0 := XR.frozen 0
    have XRf1 := XR.frozen 1
    go_wp2
    refine bodyPost_ret (v := .tuple #[.agg #[.int .i64 1, .iface T ev], .bool true]) ?_ rfl ?_; (focus (simp [results, Tryz.results53, go_sem, *]; done))
    unfold PostR
    rewrite [HF.out, hev, HE.out]
    refine ⟨rfl, ?_, ?_, ?_⟩
    · exact ((Y0.set 7 (.int .i64 (nextM (c : Int) F))).set_far _ _ n1).set_far _ _ n1
    · exact ((X7'.set_far _ _ hne).set_far _ _ n2).set_far _ _ n2
    · exact gr_far (gr_far (gr.set 7 _) (by omega) _ _) (by omega) _ _
end Go.Proofs.YtlambflmabecfaaGreat
namespace Go.Proofs.YtlambflmabecfaaGreat
open Go.ChangeShapes Go.WideShapes Go.ChangeAt Go.RowKit Go.Joins Go.Deep
set_option linter.unusedSimpArgs false
set_option linter.unusedVariables false
set_option maxRecDepth 100000
set_option maxHeartbeats 4000000
theorem impl_releaseNext_no (R C : Int) (A : Option Addr) (n cap g : Nat) (p q bl rd nx : Int) (w : World) (hc : canM bl rd nx = false)
    (X0 : Whole w g 36 [.int .i64 R, .int .i64 C, .slice A n cap, .int .i64 p, .int .i64 q, .int .i64 bl, .int .i64 rd, .int .i64 nx]) :
    Calls Tryz.prog 53 #[.pointer (some ⟨g, 0, none⟩)] w fun e w' => e = .returned (.tuple #[.agg #[.int .i64 0, .nilIface], .bool false]) ∧ Below w.heap.size w w' := by
  have hgw := X0.lt
  have hx : ¬(nx = 0 ∧ 0 < bl ∨ nx = 1 ∧ 0 < rd) := fun h => by rw [canM_iff.2 h] at hc; cases hc
  clear hc
  by_cases h0 : nx = 0
  · have hb : ¬ 0 < bl := by omega
    subst h0
    clear hx
    go_enter Tryz.func53, Tryz.ntmps53
    obtain ⟨v0, hv0⟩ : ∃ v, v = w.alloc (.cells #[.int .i64 0, .nilIface] 85) := ⟨_, rfl⟩
    have XR : Whole v0 w.heap.size 85 [.int .i64 0, .nilIface] := by rw [hv0]; exact heap_alloc_new w _
    have hb0 : Below w.heap.size w v0 := by rw [hv0]; exact (Below.refl _ _).alloc (Nat.le_refl _) _
    have HV := Lib.hid hv0.symm
    clear hv0
    replace X0 := X0.below hb0 X0.lt
    go_upto_region 1 with (fail)
    rewrite [HV.out]
    clear HV
    have hgl := X0.lt
    have hrl := XR.lt
    have X0k0 : v0.cell? ⟨g, 0, none⟩ = some (.int .i64 R) := (X0.cell 0).trans rfl; have X0k1 : v0.cell? ⟨g, 1, none⟩ = some (.int .i64 C) := (X0.cell 1).trans rfl; have X0k2 : v0.cell? ⟨g, 2, none⟩ = some (.slice A n cap) := (X0.cell 2).trans rfl; have X0k3 : v0.cell? ⟨g, 3, none⟩ = some (.int .i64 p) := (X0.cell 3).trans rfl; have X0k4 : v0.cell? ⟨g, 4, none⟩ = some (.int .i64 q) := (X0.cell 4).trans rfl; have X0k5 : v0.cell? ⟨g, 5, none⟩ = some (.int .i64 bl) := (X0.cell 5).trans rfl
    have X0k6 : v0.cell? ⟨g, 6, none⟩ = some (.int .i64 rd) := (X0.cell 6).trans rfl; have X0k7 : v0.cell? ⟨g, 7, none⟩ = some (.int .i64 0) := (X0.cell 7).trans rfl
    go_region
    have XRk0 : v0.cell? ⟨w.heap.size, 0, none⟩ = some (.int .i64 0) := (XR.cell 0).trans rfl
    have XRk1 : v0.cell? ⟨w.heap.size, 1, none⟩ = some (.nilIface) := (XR.cell 1).trans rfl
    have XRf0 := XR.frozen 0
    have XRf1 := XR.frozen 1
    go_wp2
    refine bodyPost_ret (v := .tuple #[.agg #[.int .i64 0, .nilIface], .bool false]) ?_ rfl ?_; (focus (simp [results, Tryz.results53, go_sem, *]; done))
    exact ⟨rfl, by (repeat' (first | (with_reducible exact Below.refl _ _) | (with_reducible assumption) | (with_reducible refine Below.alloc ?_ ?_ _) | (with_reducible refine Below.setCell ?_ ?_ _) | (with_reducible refine Below.drew ?_) | (with_reducible refine below_drewN ?_ _) | (with_reducible refine Below.trans ?_ (Below.mono (by assumption) ?_)) | (with_reducible exact Nat.le_refl _) | (simp; done) | omega | (simp at *; omega)))⟩
  · have hb0 : (nx == 0) = false := by simpa using h0
    by_cases h1 : nx = 1
    · have hr : ¬ 0 < rd := by omega
      subst h1
      clear hx h0
      go_enter Tryz.func53, Tryz.ntmps53
      obtain ⟨v0, hv0⟩ : ∃ v, v = w.alloc (.cells #[.int .i64 0, .nilIface] 85) := ⟨_, rfl⟩
      have XR : Whole v0 w.heap.size 85 [.int .i64 0, .nilIface] := by rw [hv0]; exact heap_alloc_new w _
      have hb0 : Below w.heap.size w v0 := by rw [hv0]; exact (Below.refl _ _).alloc (Nat.le_refl _) _
      have HV := Lib.hid hv0.symm
      clear hv0
      replace X0 := X0.below hb0 X0.lt
      go_upto_region 1 with (fail)
      rewrite [HV.out]
      clear HV
      have hgl := X0.lt
      have hrl := XR.lt
      have X0k0 : v0.cell? ⟨g, 0, none⟩ = some (.int .i64 R) := (X0.cell 0).trans rfl; have X0k1 : v0.cell? ⟨g, 1, none⟩ = some (.int .i64 C) := (X0.cell 1).trans rfl; have X0k2 : v0.cell? ⟨g, 2, none⟩ = some (.slice A n cap) := (X0.cell 2).trans rfl; have X0k3 : v0.cell? ⟨g, 3, none⟩ = some (.int .i64 p) := (X0.cell 3).trans rfl; have X0k4 : v0.cell? ⟨g, 4, none⟩ = some (.int .i64 q) := (X0.cell 4).trans rfl; have X0k5 : v0.cell? ⟨g, 5, none⟩ = some (.int .i64 bl) := (X0.cell 5).trans rfl
      have X0k6 : v0.cell? ⟨g, 6, none⟩ = some (.int .i64 rd) := (X0.cell 6).trans rfl; have X0k7 : v0.cell? ⟨g, 7, none⟩ = some (.int .i64 1) := (X0.cell 7).trans rfl
      go_region
      have XRk0 : v0.cell? ⟨w.heap.size, 0, none⟩ = some (.int .i64 0) := (XR.cell 0).trans rfl
      have XRk1 : v0.cell? ⟨w.heap.size, 1, none⟩ = some (.nilIface) := (XR.cell 1).trans rfl
      have XRf0 := XR.frozen 0
      have XRf1 := XR.frozen 1
      go_wp2
      refine bodyPost_ret (v := .tuple #[.agg #[.int .i64 0, .nilIface], .bool false]) ?_ rfl ?_; (focus (simp [results, Tryz.results53, go_sem, *]; done))
      exact ⟨rfl, by (repeat' (first | (with_reducible exact Below.refl _ _) | (with_reducible assumption) | (with_reducible refine Below.alloc ?_ ?_ _) | (with_reducible refine Below.setCell ?_ ?_ _) | (with_reducible refine Below.drew ?_) | (with_reducible refine below_drewN ?_ _) | (with_reducible refine Below.trans ?_ (Below.mono (by assumption) ?_)) | (with_reducible exact Nat.le_refl _) | (simp; done) | omega | (simp at *; omega)))⟩
    · have hb1 : (nx == 1) = false := by simpa using h1
      clear hx h0 h1
      go_enter Tryz.func53, Tryz.ntmps53
      obtain ⟨v0, hv0⟩ : ∃ v, v = w.alloc (.cells #[.int .i64 0, .nilIface] 85) := ⟨_, rfl⟩
      have XR : Whole v0 w.heap.size 85 [.int .i64 0, .nilIface] := by rw [hv0]; exact heap_alloc_new w _
      have hb0 : Below w.heap.size w v0 := by rw [hv0]; exact (Below.refl _ _).alloc (Nat.le_refl _) _
      have HV := Lib.hid hv0.symm
      clear hv0
      replace X0 := X0.below hb0 X0.lt
      go_upto_region 1 with (fail)
      rewrite [HV.out]
      clear HV
      have hgl := X0.lt
      have hrl := XR.lt
      have X0k0 : v0.cell? ⟨g, 0, none⟩ = some (.int .i64 R) := (X0.cell 0).trans rfl; have X0k1 : v0.cell? ⟨g, 1, none⟩ = some (.int .i64 C) := (X0.cell 1).trans rfl; have X0k2 : v0.cell? ⟨g, 2, none⟩ = some (.slice A n cap) := (X0.cell 2).trans rfl; have X0k3 : v0.cell? ⟨g, 3, none⟩ = some (.int .i64 p) := (X0.cell 3).trans rfl; have X0k4 : v0.cell? ⟨g, 4, none⟩ = some (.int .i64 q) := (X0.cell 4).trans rfl; have X0k5 : v0.cell? ⟨g, 5, none⟩ = some (.int .i64 bl) := (X0.cell 5).trans rfl
      have X0k6 : v0.cell? ⟨g, 6, none⟩ = some (.int .i64 rd) := (X0.cell 6).trans rfl; have X0k7 : v0.cell? ⟨g, 7, none⟩ = some (.int .i64 nx) := (X0.cell 7).trans rfl
      go_region
      have XRk0 : v0.cell? ⟨w.heap.size, 0, none⟩ = some (.int .i64 0) := (XR.cell 0).trans rfl
      have XRk1 : v0.cell? ⟨w.heap.size, 1, none⟩ = some (.nilIface) := (XR.cell 1).trans rfl
      have XRf0 := XR.frozen 0
      have XRf1 := XR.frozen 1
      go_wp2
      refine bodyPost_ret (v := .tuple #[.agg #[.int .i64 0, .nilIface], .bool false]) ?_ rfl ?_; (focus (simp [results, Tryz.results53, go_sem, *]; done))
      exact ⟨rfl, by (repeat' (first | (with_reducible exact Below.refl _ _) | (with_reducible assumption) | (with_reducible refine Below.alloc ?_ ?_ _) | (with_reducible refine Below.setCell ?_ ?_ _) | (with_reducible refine Below.drew ?_) | (with_reducible refine below_drewN ?_ _) | (with_reducible refine Below.trans ?_ (Below.mono (by assumption) ?_)) | (with_reducible exact Nat.le_refl _) | (simp; done) | omega | (simp at *; omega)))⟩
theorem releaseInfo : (Tryz.prog.info? 85).map (fun i => (i.zero, i.size, i.bytes)) = some (some (.agg #[.int .i64 0, .nilIface]), 2, 24) := by kernel_rfl
theorem two_cellsR {w : World} {o : Obj} {x y : Value} {t : TypeId} : ∀ j u, [x, y][j]? = some u → ((w.alloc o).alloc (.cells #[x, y] t)).cell? ((⟨w.heap.size + 1, 0, none⟩ : Addr).add j) = some u := by
  intro j u h
  have hn := heap_alloc_new (w.alloc o) (.cells #[x, y] t)
  rw [World.size_alloc] at hn
  have hw : Whole ((w.alloc o).alloc (.cells #[x, y] t)) (w.heap.size + 1) t [x, y] := hn
  have hj := hw.cell j
  rw [h] at hj
  rw [← hj]
  by_cases h0 : j = 0
  · subst h0; simp [Addr.add]
  · simp [Addr.add, h0]
theorem two_oneR {a : Int} {T : TypeId} {v : Value} : ∀ u ∈ [Value.int .i64 a, Value.iface T v], u.oneCell' = true := by
  intro u hu
  simp only [List.mem_cons, List.not_mem_nil, or_false] at hu
  rcases hu with rfl | rfl <;> rfl
/-- What runSteps hands back for a valid machine: the machine behind its steps, and what each of them released. -/
def PostS (w : World) (r c : Nat) (p q : Int) (s : MSt) (e : Ending) (w' : World) : Prop :=
  ∃ A5 c5 v, e = .returned (.tuple #[.agg #[.int .i64 (r : Int), .int .i64 (c : Int), .slice A5 s.l.length c5, .int .i64 p, .int .i64 q, .int .i64 s.bl, .int .i64 s.rd, .int .i64 s.nx], v, .bool true]) ∧ Own w' A5 95 (flat s.l) ∧ New w A5 ∧ w'.ownsRow w.heap.size 85 2 v (relS s).length (flatR (relS s)) ∧ Below w.heap.size w w'
theorem PostS.drew {w w' : World} {r c : Nat} {p q : Int} {s : MSt} {e : Ending} (h : PostS w r c p q s e w') : PostS w r c p q s e w'.drew := by
  obtain ⟨A5, c5, v, h1, h2, h3, h4, h5⟩ := h
  exact ⟨A5, c5, v, h1, h2.keep ((Below.refl _ _).drew), h3, row_keep h4 ((Below.refl _ _).drew), h5.trans ((Below.refl _ _).drew)⟩
theorem impl_runSteps_no (R C : Int) (A : Option Addr) (cap : Nat) (l : List (Int × Int)) (p q bl rd nx n : Int) (w : World) (hok : okM R C l p q bl rd nx = false) (hn : l.length ≤ 1048576) (hr : Rd w w.heap.size A (flat l)) :
    Calls Tryz.prog 40 #[.agg #[.int .i64 R, .int .i64 C, .slice A l.length cap, .int .i64 p, .int .i64 q, .int .i64 bl, .int .i64 rd, .int .i64 nx], .int .i64 n] w fun e w' => e = .returned (.tuple #[.agg #[.int .i64 0, .int .i64 0, .slice none 0 0, .int .i64 0, .int .i64 0, .int .i64 0, .int .i64 0, .int .i64 0], .slice none 0 0, .bool false]) ∧ Below w.heap.size w w' := by
  have HO := Lib.hid hok
  clear hok
  go_enter Tryz.func40, Tryz.ntmps40
  obtain ⟨v0, hv0, X0, X1, B0, hz0⟩ := two_boxes w [.int .i64 R, .int .i64 C, .slice A l.length cap, .int .i64 p, .int .i64 q, .int .i64 bl, .int .i64 rd, .int .i64 nx] 36 [.int .i64 0, .int .i64 0, .slice none 0 0, .int .i64 0, .int .i64 0, .int .i64 0, .int .i64 0, .int .i64 0] 36; have HV := Lib.hid hv0; have hz : w.heap.size + 1 < v0.heap.size := (by omega); have hy : w.heap.size < v0.heap.size := (by omega); have hb0 := B0.size; clear hv0 hz0; go_wp2_with fail; rewrite [show (w.alloc (.cells ([.int .i64 R, .int .i64 C, .slice A l.length cap, .int .i64 p, .int .i64 q, .int .i64 bl, .int .i64 rd, .int .i64 nx] : List Value).toArray 36)).alloc (.cells ([.int .i64 0, .int .i64 0, .slice none 0 0, .int .i64 0, .int .i64 0, .int .i64 0, .int .i64 0, .int .i64 0] : List Value).toArray 36) = v0 from HV.out]; clear HV
  have X0k0 : v0.cell? ⟨w.heap.size, 0, none⟩ = some (.int .i64 R) := (X0.cell 0).trans rfl; have X0k1 : v0.cell? ⟨w.heap.size, 1, none⟩ = some (.int .i64 C) := (X0.cell 1).trans rfl; have X0k2 : v0.cell? ⟨w.heap.size, 2, none⟩ = some (.slice A l.length cap) := (X0.cell 2).trans rfl; have X0k3 : v0.cell? ⟨w.heap.size, 3, none⟩ = some (.int .i64 p) := (X0.cell 3).trans rfl; have X0k4 : v0.cell? ⟨w.heap.size, 4, none⟩ = some (.int .i64 q) := (X0.cell 4).trans rfl; have X0k5 : v0.cell? ⟨w.heap.size, 5, none⟩ = some (.int .i64 bl) := (X0.cell 5).trans rfl
  have X0k6 : v0.cell? ⟨w.heap.size, 6, none⟩ = some (.int .i64 rd) := (X0.cell 6).trans rfl; have X0k7 : v0.cell? ⟨w.heap.size, 7, none⟩ = some (.int .i64 nx) := (X0.cell 7).trans rfl
  go_wp2_with fail
  refine (impl_IsMachine _ _ _ _ l _ _ _ _ _ _ hn ((hr.below B0).mono B0.size)).mono ?_; rintro e w1 ⟨rfl, b1⟩
  clear X0k0 X0k1 X0k2 X0k3 X0k4 X0k5 X0k6 X0k7
  rewrite [HO.out]
  replace X0 := X0.below b1 X0.lt; replace X1 := X1.below b1 X1.lt; replace B0 := B0.trans (b1.mono B0.size); have hy := X0.lt; have hz := X1.lt; have hb0 := B0.size; clear b1
  have X1k0 : w1.cell? ⟨w.heap.size + 1, 0, none⟩ = some (.int .i64 0) := (X1.cell 0).trans rfl; have X1k1 : w1.cell? ⟨w.heap.size + 1, 1, none⟩ = some (.int .i64 0) := (X1.cell 1).trans rfl; have X1k2 : w1.cell? ⟨w.heap.size + 1, 2, none⟩ = some (.slice none 0 0) := (X1.cell 2).trans rfl; have X1k3 : w1.cell? ⟨w.heap.size + 1, 3, none⟩ = some (.int .i64 0) := (X1.cell 3).trans rfl; have X1k4 : w1.cell? ⟨w.heap.size + 1, 4, none⟩ = some (.int .i64 0) := (X1.cell 4).trans rfl; have X1k5 : w1.cell? ⟨w.heap.size + 1, 5, none⟩ = some (.int .i64 0) := (X1.cell 5).trans rfl
  have X1k6 : w1.cell? ⟨w.heap.size + 1, 6, none⟩ = some (.int .i64 0) := (X1.cell 6).trans rfl; have X1k7 : w1.cell? ⟨w.heap.size + 1, 7, none⟩ = some (.int .i64 0) := (X1.cell 7).trans rfl
  have X1f0 := X1.frozen 0; have X1f1 := X1.frozen 1; have X1f2 := X1.frozen 2; have X1f3 := X1.frozen 3; have X1f4 := X1.frozen 4; have X1f5 := X1.frozen 5; have X1f6 := X1.frozen 6; have X1f7 := X1.frozen 7
  go_wp2
  rewrite [mset_fold]
  obtain ⟨v4, hv4⟩ : ∃ v4, v4 = mset w1 (w.heap.size + 1) (.int .i64 0) (.int .i64 0) (.slice none 0 0) (.int .i64 0) (.int .i64 0) (.int .i64 0) (.int .i64 0) (.int .i64 0) := ⟨_, rfl⟩
  have Z1 : Whole v4 (w.heap.size + 1) 36 [.int .i64 0, .int .i64 0, .slice none 0 0, .int .i64 0, .int .i64 0, .int .i64 0, .int .i64 0, .int .i64 0] := by rw [hv4]; exact X1.mset _ _ _ _ _ _ _ _
  replace B0 : Below w.heap.size w v4 := by rw [hv4]; exact below_mset B0 (by omega)
  clear X1k0 X1k1 X1k2 X1k3 X1k4 X1k5 X1k6 X1k7
  clear X1f0 X1f1 X1f2 X1f3 X1f4 X1f5 X1f6 X1f7
  rewrite [← hv4]
  clear hv4
  have Z1k0 : v4.cell? ⟨w.heap.size + 1, 0, none⟩ = some (.int .i64 0) := (Z1.cell 0).trans rfl; have Z1k1 : v4.cell? ⟨w.heap.size + 1, 1, none⟩ = some (.int .i64 0) := (Z1.cell 1).trans rfl; have Z1k2 : v4.cell? ⟨w.heap.size + 1, 2, none⟩ = some (.slice none 0 0) := (Z1.cell 2).trans rfl; have Z1k3 : v4.cell? ⟨w.heap.size + 1, 3, none⟩ = some (.int .i64 0) := (Z1.cell 3).trans rfl; have Z1k4 : v4.cell? ⟨w.heap.size + 1, 4, none⟩ = some (.int .i64 0) := (Z1.cell 4).trans rfl; have Z1k5 : v4.cell? ⟨w.heap.size + 1, 5, none⟩ = some (.int .i64 0) := (Z1.cell 5).trans rfl
  have Z1k6 : v4.cell? ⟨w.heap.size + 1, 6, none⟩ = some (.int .i64 0) := (Z1.cell 6).trans rfl; have Z1k7 : v4.cell? ⟨w.heap.size + 1, 7, none⟩ = some (.int .i64 0) := (Z1.cell 7).trans rfl
  refine bodyPost_ret (v := .tuple #[.agg #[.int .i64 0, .int .i64 0, .slice none 0 0, .int .i64 0, .int .i64 0, .int .i64 0, .int .i64 0, .int .i64 0], .slice none 0 0, .bool false]) ?_ rfl ?_; (focus (simp [results, Tryz.results40, go_sem, *]; done))
  exact ⟨rfl, B0⟩
end Go.Proofs.YtlambflmabecfaaGreat
namespace Go.Proofs.YtlambflmabecfaaGreat
open Go.ChangeShapes Go.WideShapes Go.ChangeAt Go.RowKit Go.Joins Go.Deep
set_option linter.unusedSimpArgs false
set_option linter.unusedVariables false
set_option maxRecDepth 100000
set_option maxHeartbeats 4000000
theorem PostS.mk {w w' : World} {r c g5 c5 k n : Nat} {p q : Int} {s : MSt} {rest5 : List Value} {v : Value} (hl : s.l.length = n) (hf : (relS s).length = k) (hg : w.heap.size ≤ g5) (X7 : Whole w' g5 95 (flat s.l ++ rest5)) (hown : w'.ownsRow w.heap.size 85 2 v k (flatR (relS s))) (B : Below w.heap.size w w') :
    PostS w r c p q s (.returned (.tuple #[.agg #[.int .i64 (r : Int), .int .i64 (c : Int), .slice (some ⟨g5, 0, none⟩) n c5, .int .i64 p, .int .i64 q, .int .i64 s.bl, .int .i64 s.rd, .int .i64 s.nx], v, .bool true])) w' := by
  subst hl hf
  exact ⟨_, _, _, rfl, fun _ => ⟨g5, rest5, rfl, X7⟩, fun a ha => by cases ha; exact hg, hown, B⟩
theorem impl_runSteps_yes (r c b o cap : Nat) (l : List (Int × Int)) (p q bl rd nx : Int) (n : Nat) (w : World) (hok : okM (r : Int) (c : Int) l p q bl rd nx = true) (hn : n ≤ 60) (hr : Rd w w.heap.size (some ⟨b, o, none⟩) (flat l)) :
    Calls Tryz.prog 40 #[.agg #[.int .i64 (r : Int), .int .i64 (c : Int), .slice (some ⟨b, o, none⟩) l.length cap, .int .i64 p, .int .i64 q, .int .i64 bl, .int .i64 rd, .int .i64 nx], .int .i64 (n : Int)] w (PostS w r c p q (runM (r : Int) (c : Int) p q n ⟨l, bl, rd, nx, [], []⟩)) := by
  have HO := Lib.hid hok
  obtain ⟨r', c', er, ec, hG, hgd, hp, hq⟩ := okM_ints hok
  obtain rfl : r = r' := by omega
  obtain rfl : c = c' := by omega
  obtain ⟨_, h90, hpos⟩ := goodB_parts hgd
  have hln : l.length ≤ 1048576 := by omega
  have HGe := Lib.hid hG
  have HGd := Lib.hid hgd
  have hst := MOk.start hok
  obtain ⟨S, hS⟩ : ∃ S, runM (r : Int) (c : Int) p q n ⟨l, bl, rd, nx, [], []⟩ = S := ⟨_, rfl⟩
  have hS0 : runM (r : Int) (c : Int) p q (n - 0) ⟨l, bl, rd, nx, [], []⟩ = S := hS
  rewrite [hS]
  obtain ⟨i0, hi, hz0, hz1, hz2⟩ := info_parts releaseInfo
  clear hok hS er ec hG hgd
  go_enter Tryz.func40, Tryz.ntmps40
  obtain ⟨v0, hv0, X0, X1, B0, hz0⟩ := two_boxes w [.int .i64 (r : Int), .int .i64 (c : Int), .slice (some ⟨b, o, none⟩) l.length cap, .int .i64 p, .int .i64 q, .int .i64 bl, .int .i64 rd, .int .i64 nx] 36 [.int .i64 0, .int .i64 0, .slice none 0 0, .int .i64 0, .int .i64 0, .int .i64 0, .int .i64 0, .int .i64 0] 36; have HV := Lib.hid hv0; have hz : w.heap.size + 1 < v0.heap.size := (by omega); have hy : w.heap.size < v0.heap.size := (by omega); have hb0 := B0.size; clear hv0 hz0; go_wp2_with fail; rewrite [show (w.alloc (.cells ([.int .i64 (r : Int), .int .i64 (c : Int), .slice (some ⟨b, o, none⟩) l.length cap, .int .i64 p, .int .i64 q, .int .i64 bl, .int .i64 rd, .int .i64 nx] : List Value).toArray 36)).alloc (.cells ([.int .i64 0, .int .i64 0, .slice none 0 0, .int .i64 0, .int .i64 0, .int .i64 0, .int .i64 0, .int .i64 0] : List Value).toArray 36) = v0 from HV.out]; clear HV
  have X0k0 : v0.cell? ⟨w.heap.size, 0, none⟩ = some (.int .i64 (r : Int)) := (X0.cell 0).trans rfl; have X0k1 : v0.cell? ⟨w.heap.size, 1, none⟩ = some (.int .i64 (c : Int)) := (X0.cell 1).trans rfl; have X0k2 : v0.cell? ⟨w.heap.size, 2, none⟩ = some (.slice (some ⟨b, o, none⟩) l.length cap) := (X0.cell 2).trans rfl; have X0k3 : v0.cell? ⟨w.heap.size, 3, none⟩ = some (.int .i64 p) := (X0.cell 3).trans rfl; have X0k4 : v0.cell? ⟨w.heap.size, 4, none⟩ = some (.int .i64 q) := (X0.cell 4).trans rfl; have X0k5 : v0.cell? ⟨w.heap.size, 5, none⟩ = some (.int .i64 bl) := (X0.cell 5).trans rfl
  have X0k6 : v0.cell? ⟨w.heap.size, 6, none⟩ = some (.int .i64 rd) := (X0.cell 6).trans rfl; have X0k7 : v0.cell? ⟨w.heap.size, 7, none⟩ = some (.int .i64 nx) := (X0.cell 7).trans rfl
  go_wp2_with fail
  refine (impl_IsMachine _ _ _ _ l _ _ _ _ _ _ hln ((hr.below B0).mono B0.size)).mono ?_; rintro e w1 ⟨rfl, b1⟩
  clear X0k0 X0k1 X0k2 X0k3 X0k4 X0k5 X0k6 X0k7
  rewrite [HO.out]
  replace X0 := X0.below b1 X0.lt; replace X1 := X1.below b1 X1.lt; replace B0 := B0.trans (b1.mono B0.size); have hy := X0.lt; have hz := X1.lt; have hb0 := B0.size; clear b1
  have X0k0 : w1.cell? ⟨w.heap.size, 0, none⟩ = some (.int .i64 (r : Int)) := (X0.cell 0).trans rfl; have X0k1 : w1.cell? ⟨w.heap.size, 1, none⟩ = some (.int .i64 (c : Int)) := (X0.cell 1).trans rfl; have X0k2 : w1.cell? ⟨w.heap.size, 2, none⟩ = some (.slice (some ⟨b, o, none⟩) l.length cap) := (X0.cell 2).trans rfl; have X0k3 : w1.cell? ⟨w.heap.size, 3, none⟩ = some (.int .i64 p) := (X0.cell 3).trans rfl; have X0k4 : w1.cell? ⟨w.heap.size, 4, none⟩ = some (.int .i64 q) := (X0.cell 4).trans rfl; have X0k5 : w1.cell? ⟨w.heap.size, 5, none⟩ = some (.int .i64 bl) := (X0.cell 5).trans rfl
  have X0k6 : w1.cell? ⟨w.heap.size, 6, none⟩ = some (.int .i64 rd) := (X0.cell 6).trans rfl; have X0k7 : w1.cell? ⟨w.heap.size, 7, none⟩ = some (.int .i64 nx) := (X0.cell 7).trans rfl
  go_wp2_with fail
  refine (impl_cloneMachine (r : Int) (c : Int) b o cap l p q bl rd nx _ hln ((hr.below B0).mono B0.size)).mono ?_; rintro e w2 ⟨A5, c5, rfl, o5, n5, b2⟩
  clear X0k0 X0k1 X0k2 X0k3 X0k4 X0k5 X0k6 X0k7
  have h51 : ∀ a, A5 = some a → w.heap.size + 1 < a.block := fun a ha => by have h := n5 a ha; omega
  replace X0 := X0.below b2 X0.lt; replace X1 := X1.below b2 X1.lt; replace B0 := B0.trans (b2.mono B0.size); have hy := X0.lt; have hz := X1.lt; have hb0 := B0.size; clear b2
  obtain ⟨g5, rest5, rfl, X7⟩ := o5 (by rw [flat_length]; omega)
  have h5 : w.heap.size + 1 < g5 := h51 _ rfl
  clear n5 o5 h51
  go_upto_region 4 with (fail)
  obtain ⟨v4, hv4⟩ : ∃ v4, v4 = w2.alloc (.cells #[.int .i64 (r : Int), .int .i64 (c : Int), .slice (some ⟨g5, 0, none⟩) l.length c5, .int .i64 p, .int .i64 q, .int .i64 bl, .int .i64 rd, .int .i64 nx] 36) := ⟨_, rfl⟩
  have X4 : Whole v4 w2.heap.size 36 [.int .i64 (r : Int), .int .i64 (c : Int), .slice (some ⟨g5, 0, none⟩) l.length c5, .int .i64 p, .int .i64 q, .int .i64 bl, .int .i64 rd, .int .i64 nx] := by rw [hv4]; exact newW
  have b4 : Below w2.heap.size w2 v4 := by rw [hv4]; exact (Below.refl _ _).alloc (Nat.le_refl _) _
  rewrite [← hv4]
  clear hv4
  have h4w : w.heap.size + 1 < w2.heap.size := hz
  have h54 : g5 < w2.heap.size := X7.lt
  replace X7 := X7.below b4 X7.lt
  replace X0 := X0.below b4 X0.lt; replace X1 := X1.below b4 X1.lt; replace B0 := B0.trans (b4.mono B0.size); have hy := X0.lt; have hz := X1.lt; have hb0 := B0.size; clear b4
  generalize w2.heap.size = g4 at *
  have hown : v4.ownsRow w.heap.size 85 2 (.slice none 0 0) 0 [] := World.ownsRow_nil _ _ _ _
  clear X0 hy hz HO
  go_wp2
  go_loopw [8, 18] (fun v i wr => ∃ (k : Nat) (s : MSt), i = .int .i64 k ∧ k ≤ n ∧ s.fs.length = k ∧ MOk (r : Int) (c : Int) p q l.length s ∧ runM (r : Int) (c : Int) p q (n - k) s = S ∧ wr.ownsRow w.heap.size 85 2 v k (flatR (relS s)) ∧
    Whole wr g4 36 [.int .i64 (r : Int), .int .i64 (c : Int), .slice (some ⟨g5, 0, none⟩) l.length c5, .int .i64 p, .int .i64 q, .int .i64 s.bl, .int .i64 s.rd, .int .i64 s.nx] ∧ Whole wr g5 95 (flat s.l ++ rest5) ∧ Whole wr (w.heap.size + 1) 36 [.int .i64 0, .int .i64 0, .slice none 0 0, .int .i64 0, .int .i64 0, .int .i64 0, .int .i64 0, .int .i64 0] ∧ Below w.heap.size w wr) (fun _ i _ => n - (intOf i).toNat)
  case atStart => exact ⟨0, ⟨l, bl, rd, nx, [], []⟩, rfl, Nat.zero_le _, rfl, hst, hS0, hown, X4, X7, X1, B0⟩
  case round =>
    clear hown X4 X7 X1 B0 hb0 hst hS0
    obtain ⟨k, s, rfl, hk, hfk, hmk, hS, hown, X4, X7, X1, B0⟩ := hrel
    have hs := B0.size
    have h4l := X4.lt
    have h5l := X7.lt
    have h1l := X1.lt
    have HRl := Lib.hid ((relS_len hmk.same).trans hfk)
    by_cases hlt : k < n
    · rcases Bool.eq_false_or_eq_true (canM s.bl s.rd s.nx) with hc | hc
      · obtain ⟨col, hcol, hcl⟩ : ∃ j : Nat, colM p q s.nx = (j : Int) ∧ j < c := by
          rcases colM_or p q s.nx with e | e
          · exact ⟨p.toNat, by rw [e]; omega, by omega⟩
          · exact ⟨q.toNat, by rw [e]; omega, by omega⟩
        have HM2 := Lib.hid (hmk.step hp hq hc)
        have HS2 := Lib.hid (show runM (r : Int) (c : Int) p q (n - (k + 1)) (stepM (r : Int) (c : Int) p q s) = S by
          rw [← hS, show n - k = (n - (k + 1)) + 1 by omega, runM_go hc])
        have HR2 := Lib.hid (relS_step (r : Int) (c : Int) p q hmk.same)
        have hlk := hmk.len
        have HQ := impl_releaseNext_yes r c g4 g5 c5 s.l rest5 p q s.bl s.rd s.nx col wr (by rw [hlk]; exact HGe.out) hmk.good hc hmk.bl1 hmk.rd1 hcol hcl (by omega) (by rw [hlk]; exact X4) X7
        unfold PostR at HQ
        rw [hlk] at HQ
        have HF2 := Lib.hid (show (stepM (r : Int) (c : Int) p q s).fs.length = k + 1 by show (s.fs ++ [_]).length = _; rw [List.length_append, hfk]; rfl)
        obtain ⟨s2, hs2⟩ : ∃ s2, stepM (r : Int) (c : Int) p q s = s2 := ⟨_, rfl⟩
        have e1 : s2.l = (marO (r : Int) (c : Int) s.l (colM p q s.nx)).cells := by rw [← hs2]; rfl
        have e2 : s2.bl = if s.nx = 0 then s.bl - 1 else s.bl := by rw [← hs2]; rfl
        have e3 : s2.rd = if s.nx = 0 then s.rd else s.rd - 1 := by rw [← hs2]; rfl
        have e4 : s2.nx = nextM (c : Int) (marO (r : Int) (c : Int) s.l (colM p q s.nx)) := by rw [← hs2]; rfl
        rw [← e1, ← e2, ← e3, ← e4] at HQ
        rw [hs2] at HM2 HS2 HR2 HF2
        clear e1 e2 e3 e4 hs2 hlk hcol hcl hc hS hmk hfk
        generalize ((marO (r : Int) (c : Int) s.l (colM p q s.nx)).e, (marO (r : Int) (c : Int) s.l (colM p q s.nx)).row, (marO (r : Int) (c : Int) s.l (colM p q s.nx)).col) = f at *
        obtain ⟨T, ev, hE⟩ := endV_iface f
        have HE := Lib.hid hE
        rw [hE] at HQ
        clear hE
        generalize hx : s.nx = x at *
        go_wp2_with fail
        refine HQ.mono ?_; rintro e w5 ⟨rfl, X4', X7', gr⟩
        clear HQ
        have ha4 := row_apart hown X4 (by decide)
        have ha5 := row_apart hown X7 (by decide)
        replace hown := gr.row hown (fun e => ha4 e.symm) (fun e => ha5 e.symm)
        replace X1 := gr.whole X1 (by omega) (by omega)
        replace B0 := B0.trans (gr.toBelow hs (by omega) (by omega))
        replace hs := B0.size
        clear X4 X7 ha4 ha5 gr
        have hownY := ((hown.alloc (.cells #[.int .i64 x, .iface T ev] 85)).alloc (.cells #[.int .i64 x, .iface T ev] 85))
        go_upto_region 10 with (first | (at_builtin; go_loud (refine wpList_append_own _ rfl (.tmp 26) (.tmp 28) 79 rfl w.heap.size 85 i0 _ 2 24 Tryz.underlying79 hi hz0 hz1 hz2 rfl (by omega) u8 k _ rfl ((hown.alloc _).alloc _) ⟨w5.heap.size + 1, 0, none⟩ 1 1 [.int .i64 x, .iface T ev] rfl rfl two_cellsR two_oneR (by unfold maxLen; omega) (by omega) (by rw [World.size_alloc, World.size_alloc]; omega) ?_; intro v7 w7 hown7 hg7 _)) | fail)
        have X47 := ((X4'.alloc _).alloc _).grown hg7 (row_apart hownY ((X4'.alloc _).alloc _) (by decide))
        have X77 := ((X7'.alloc _).alloc _).grown hg7 (row_apart hownY ((X7'.alloc _).alloc _) (by decide))
        have X17 := ((X1.alloc _).alloc _).grown hg7 (row_apart hownY ((X1.alloc _).alloc _) (by decide))
        have B7 := row_below hownY ((B0.alloc (by omega) _).alloc (by rw [World.size_alloc]; omega) _) (by rw [World.size_alloc, World.size_alloc]; omega) hg7
        clear X1 X4' X7' hownY
        go_wp2
        refine ⟨⟨k + 1, s2, by go_num, by omega, HF2.out, HM2.out, HS2.out, ?_, X47, X77, X17, B7⟩, by simp [intOf]; omega⟩
        rw [HR2.out, flatR_app]
        have ef : flatR [(x, f)] = [.int .i64 x, .iface T ev] := by
          show [_, endV f] = _
          rw [HE.out]
        rw [ef]
        exact hown7
      · have HSs := Lib.hid ((runM_stop hc).symm.trans hS)
        have HQ := impl_releaseNext_no (r : Int) (c : Int) (some ⟨g5, 0, none⟩) l.length c5 g4 p q s.bl s.rd s.nx wr hc X4
        clear hS hc
        go_wp2_with fail
        refine HQ.mono ?_; rintro e w5 ⟨rfl, b5⟩
        clear HQ
        replace X4 := X4.below b5 X4.lt
        replace X7 := X7.below b5 X7.lt
        replace X1 := X1.below b5 X1.lt
        replace hown := row_keep hown b5
        replace B0 := B0.trans (b5.mono hs)
        clear b5 hs h4l h5l h1l
        go_upto_region 8 with (fail)
        have ba : Below w5.heap.size w5 (w5.alloc (.cells #[.int .i64 0, .nilIface] 85)) := (Below.refl _ _).alloc (Nat.le_refl _) _
        replace X4 := X4.below ba X4.lt
        replace X7 := X7.below ba X7.lt
        replace X1 := X1.below ba X1.lt
        replace hown := row_keep hown ba
        replace B0 := B0.trans (ba.mono B0.size)
        clear ba
        generalize w5.alloc (.cells #[.int .i64 0, .nilIface] 85) = w6 at *
        have HLk := Lib.hid hmk.len
        clear hmk hfk
        have h4l := X4.lt
        have h1l := X1.lt
        have hne := row_apart hown X1 (by decide)
        have h15 : w.heap.size + 1 ≠ g5 := by omega
        have h5g : w.heap.size ≤ g5 := by omega
        obtain ⟨sl, sb, sr, sx, scs, sfs⟩ := s
        have X4k0 : w6.cell? ⟨g4, 0, none⟩ = some (.int .i64 (r : Int)) := (X4.cell 0).trans rfl; have X4k1 : w6.cell? ⟨g4, 1, none⟩ = some (.int .i64 (c : Int)) := (X4.cell 1).trans rfl; have X4k2 : w6.cell? ⟨g4, 2, none⟩ = some (.slice (some ⟨g5, 0, none⟩) l.length c5) := (X4.cell 2).trans rfl; have X4k3 : w6.cell? ⟨g4, 3, none⟩ = some (.int .i64 p) := (X4.cell 3).trans rfl; have X4k4 : w6.cell? ⟨g4, 4, none⟩ = some (.int .i64 q) := (X4.cell 4).trans rfl; have X4k5 : w6.cell? ⟨g4, 5, none⟩ = some (.int .i64 sb) := (X4.cell 5).trans rfl
        have X4k6 : w6.cell? ⟨g4, 6, none⟩ = some (.int .i64 sr) := (X4.cell 6).trans rfl; have X4k7 : w6.cell? ⟨g4, 7, none⟩ = some (.int .i64 sx) := (X4.cell 7).trans rfl
        have X1k0 : w6.cell? ⟨w.heap.size + 1, 0, none⟩ = some (.int .i64 0) := (X1.cell 0).trans rfl; have X1k1 : w6.cell? ⟨w.heap.size + 1, 1, none⟩ = some (.int .i64 0) := (X1.cell 1).trans rfl; have X1k2 : w6.cell? ⟨w.heap.size + 1, 2, none⟩ = some (.slice none 0 0) := (X1.cell 2).trans rfl; have X1k3 : w6.cell? ⟨w.heap.size + 1, 3, none⟩ = some (.int .i64 0) := (X1.cell 3).trans rfl; have X1k4 : w6.cell? ⟨w.heap.size + 1, 4, none⟩ = some (.int .i64 0) := (X1.cell 4).trans rfl; have X1k5 : w6.cell? ⟨w.heap.size + 1, 5, none⟩ = some (.int .i64 0) := (X1.cell 5).trans rfl
        have X1k6 : w6.cell? ⟨w.heap.size + 1, 6, none⟩ = some (.int .i64 0) := (X1.cell 6).trans rfl; have X1k7 : w6.cell? ⟨w.heap.size + 1, 7, none⟩ = some (.int .i64 0) := (X1.cell 7).trans rfl
        have X1f0 := X1.frozen 0; have X1f1 := X1.frozen 1; have X1f2 := X1.frozen 2; have X1f3 := X1.frozen 3; have X1f4 := X1.frozen 4; have X1f5 := X1.frozen 5; have X1f6 := X1.frozen 6; have X1f7 := X1.frozen 7
        go_wp2
        rewrite [mset_fold]; obtain ⟨v4, hv4⟩ : ∃ v4, v4 = mset w6 (w.heap.size + 1) (.int .i64 (r : Int)) (.int .i64 (c : Int)) (.slice (some ⟨g5, 0, none⟩) l.length c5) (.int .i64 p) (.int .i64 q) (.int .i64 sb) (.int .i64 sr) (.int .i64 sx) := ⟨_, rfl⟩; have Z1 : Whole v4 (w.heap.size + 1) 36 [.int .i64 (r : Int), .int .i64 (c : Int), .slice (some ⟨g5, 0, none⟩) l.length c5, .int .i64 p, .int .i64 q, .int .i64 sb, .int .i64 sr, .int .i64 sx] := (by rw [hv4]; exact Whole.mset X1 _ _ _ _ _ _ _ _)
        replace X7 : Whole v4 g5 95 (flat sl ++ rest5) := by rw [hv4]; exact X7.mset_far h15
        replace hown : v4.ownsRow w.heap.size 85 2 u8 k (flatR (relS ⟨sl, sb, sr, sx, scs, sfs⟩)) := by rw [hv4]; exact row_mset hown hne
        replace B0 : Below w.heap.size w v4 := by rw [hv4]; exact below_mset B0 (by omega)
        clear X4k0 X4k1 X4k2 X4k3 X4k4 X4k5 X4k6 X4k7
        clear X1k0 X1k1 X1k2 X1k3 X1k4 X1k5 X1k6 X1k7
        clear X1f0 X1f1 X1f2 X1f3 X1f4 X1f5 X1f6 X1f7
        rewrite [← hv4]
        clear hv4 X1 X4 hne
        have Z1k0 : v4.cell? ⟨w.heap.size + 1, 0, none⟩ = some (.int .i64 (r : Int)) := (Z1.cell 0).trans rfl; have Z1k1 : v4.cell? ⟨w.heap.size + 1, 1, none⟩ = some (.int .i64 (c : Int)) := (Z1.cell 1).trans rfl; have Z1k2 : v4.cell? ⟨w.heap.size + 1, 2, none⟩ = some (.slice (some ⟨g5, 0, none⟩) l.length c5) := (Z1.cell 2).trans rfl; have Z1k3 : v4.cell? ⟨w.heap.size + 1, 3, none⟩ = some (.int .i64 p) := (Z1.cell 3).trans rfl; have Z1k4 : v4.cell? ⟨w.heap.size + 1, 4, none⟩ = some (.int .i64 q) := (Z1.cell 4).trans rfl; have Z1k5 : v4.cell? ⟨w.heap.size + 1, 5, none⟩ = some (.int .i64 sb) := (Z1.cell 5).trans rfl; have Z1k6 : v4.cell? ⟨w.heap.size + 1, 6, none⟩ = some (.int .i64 sr) := (Z1.cell 6).trans rfl; have Z1k7 : v4.cell? ⟨w.heap.size + 1, 7, none⟩ = some (.int .i64 sx) := (Z1.cell 7).trans rfl
        refine bodyPost_ret (v := .tuple #[.agg #[.int .i64 (r : Int), .int .i64 (c : Int), .slice (some ⟨g5, 0, none⟩) l.length c5, .int .i64 p, .int .i64 q, .int .i64 sb, .int .i64 sr, .int .i64 sx], u8, .bool true]) ?_ rfl ?_; (focus (simp [results, Tryz.results40, go_sem, *]; done))
        rewrite [← HSs.out]
        exact PostS.mk (s := ⟨sl, sb, sr, sx, scs, sfs⟩) HLk.out HRl.out h5g X7 hown B0
    · have HSs := Lib.hid (show s = S by rw [← hS, show n - k = 0 by omega]; rfl)
      clear hS hs h4l h5l h1l
      generalize wr = w6 at *
      have HLk := Lib.hid hmk.len
      clear hmk hfk
      have h4l := X4.lt
      have h1l := X1.lt
      have hne := row_apart hown X1 (by decide)
      have h15 : w.heap.size + 1 ≠ g5 := by omega
      have h5g : w.heap.size ≤ g5 := by omega
      obtain ⟨sl, sb, sr, sx, scs, sfs⟩ := s
      have X4k0 : w6.cell? ⟨g4, 0, none⟩ = some (.int .i64 (r : Int)) := (X4.cell 0).trans rfl; have X4k1 : w6.cell? ⟨g4, 1, none⟩ = some (.int .i64 (c : Int)) := (X4.cell 1).trans rfl; have X4k2 : w6.cell? ⟨g4, 2, none⟩ = some (.slice (some ⟨g5, 0, none⟩) l.length c5) := (X4.cell 2).trans rfl; have X4k3 : w6.cell? ⟨g4, 3, none⟩ = some (.int .i64 p) := (X4.cell 3).trans rfl; have X4k4 : w6.cell? ⟨g4, 4, none⟩ = some (.int .i64 q) := (X4.cell 4).trans rfl; have X4k5 : w6.cell? ⟨g4, 5, none⟩ = some (.int .i64 sb) := (X4.cell 5).trans rfl
      have X4k6 : w6.cell? ⟨g4, 6, none⟩ = some (.int .i64 sr) := (X4.cell 6).trans rfl; have X4k7 : w6.cell? ⟨g4, 7, none⟩ = some (.int .i64 sx) := (X4.cell 7).trans rfl
      have X1k0 : w6.cell? ⟨w.heap.size + 1, 0, none⟩ = some (.int .i64 0) := (X1.cell 0).trans rfl; have X1k1 : w6.cell? ⟨w.heap.size + 1, 1, none⟩ = some (.int .i64 0) := (X1.cell 1).trans rfl; have X1k2 : w6.cell? ⟨w.heap.size + 1, 2, none⟩ = some (.slice none 0 0) := (X1.cell 2).trans rfl; have X1k3 : w6.cell? ⟨w.heap.size + 1, 3, none⟩ = some (.int .i64 0) := (X1.cell 3).trans rfl; have X1k4 : w6.cell? ⟨w.heap.size + 1, 4, none⟩ = some (.int .i64 0) := (X1.cell 4).trans rfl; have X1k5 : w6.cell? ⟨w.heap.size + 1, 5, none⟩ = some (.int .i64 0) := (X1.cell 5).trans rfl
      have X1k6 : w6.cell? ⟨w.heap.size + 1, 6, none⟩ = some (.int .i64 0) := (X1.cell 6).trans rfl; have X1k7 : w6.cell? ⟨w.heap.size + 1, 7, none⟩ = some (.int .i64 0) := (X1.cell 7).trans rfl
      have X1f0 := X1.frozen 0; have X1f1 := X1.frozen 1; have X1f2 := X1.frozen 2; have X1f3 := X1.frozen 3; have X1f4 := X1.frozen 4; have X1f5 := X1.frozen 5; have X1f6 := X1.frozen 6; have X1f7 := X1.frozen 7
      go_wp2
      rewrite [mset_fold]; obtain ⟨v4, hv4⟩ : ∃ v4, v4 = mset w6 (w.heap.size + 1) (.int .i64 (r : Int)) (.int .i64 (c : Int)) (.slice (some ⟨g5, 0, none⟩) l.length c5) (.int .i64 p) (.int .i64 q) (.int .i64 sb) (.int .i64 sr) (.int .i64 sx) := ⟨_, rfl⟩; have Z1 : Whole v4 (w.heap.size + 1) 36 [.int .i64 (r : Int), .int .i64 (c : Int), .slice (some ⟨g5, 0, none⟩) l.length c5, .int .i64 p, .int .i64 q, .int .i64 sb, .int .i64 sr, .int .i64 sx] := (by rw [hv4]; exact Whole.mset X1 _ _ _ _ _ _ _ _)
      replace X7 : Whole v4 g5 95 (flat sl ++ rest5) := by rw [hv4]; exact X7.mset_far h15
      replace hown : v4.ownsRow w.heap.size 85 2 u8 k (flatR (relS ⟨sl, sb, sr, sx, scs, sfs⟩)) := by rw [hv4]; exact row_mset hown hne
      replace B0 : Below w.heap.size w v4 := by rw [hv4]; exact below_mset B0 (by omega)
      clear X4k0 X4k1 X4k2 X4k3 X4k4 X4k5 X4k6 X4k7
      clear X1k0 X1k1 X1k2 X1k3 X1k4 X1k5 X1k6 X1k7
      clear X1f0 X1f1 X1f2 X1f3 X1f4 X1f5 X1f6 X1f7
      rewrite [← hv4]
      clear hv4 X1 X4 hne
      have Z1k0 : v4.cell? ⟨w.heap.size + 1, 0, none⟩ = some (.int .i64 (r : Int)) := (Z1.cell 0).trans rfl; have Z1k1 : v4.cell? ⟨w.heap.size + 1, 1, none⟩ = some (.int .i64 (c : Int)) := (Z1.cell 1).trans rfl; have Z1k2 : v4.cell? ⟨w.heap.size + 1, 2, none⟩ = some (.slice (some ⟨g5, 0, none⟩) l.length c5) := (Z1.cell 2).trans rfl; have Z1k3 : v4.cell? ⟨w.heap.size + 1, 3, none⟩ = some (.int .i64 p) := (Z1.cell 3).trans rfl; have Z1k4 : v4.cell? ⟨w.heap.size + 1, 4, none⟩ = some (.int .i64 q) := (Z1.cell 4).trans rfl; have Z1k5 : v4.cell? ⟨w.heap.size + 1, 5, none⟩ = some (.int .i64 sb) := (Z1.cell 5).trans rfl; have Z1k6 : v4.cell? ⟨w.heap.size + 1, 6, none⟩ = some (.int .i64 sr) := (Z1.cell 6).trans rfl; have Z1k7 : v4.cell? ⟨w.heap.size + 1, 7, none⟩ = some (.int .i64 sx) := (Z1.cell 7).trans rfl
      refine bodyPost_ret (v := .tuple #[.agg #[.int .i64 (r : Int), .int .i64 (c : Int), .slice (some ⟨g5, 0, none⟩) l.length c5, .int .i64 p, .int .i64 q, .int .i64 sb, .int .i64 sr, .int .i64 sx], u8, .bool true]) ?_ rfl ?_; (focus (simp [results, Tryz.results40, go_sem, *]; done))
      rewrite [← HSs.out]
      exact PostS.mk (s := ⟨sl, sb, sr, sx, scs, sfs⟩) HLk.out HRl.out h5g X7 hown B0
end Go.Proofs.YtlambflmabecfaaGreat
namespace Go.Proofs.YtlambflmabecfaaGreat
open Go.ChangeShapes Go.WideShapes Go.ChangeAt Go.RowKit Go.Joins Go.Deep
set_option linter.unusedSimpArgs false
set_option linter.unusedVariables false
set_option maxRecDepth 100000
set_option maxHeartbeats 4000000
def noM : MSt := ⟨[], 0, 0, 0, [], []⟩
def okR (R C : Int) (l : List (Int × Int)) (p q bl rd nx n : Int) : Bool := okM R C l p q bl rd nx && inM 0 60 n
def runO (R C : Int) (l : List (Int × Int)) (p q bl rd nx n : Int) : MSt := if okR R C l p q bl rd nx n then runM R C p q n.toNat ⟨l, bl, rd, nx, [], []⟩ else noM
/-- A machine of the call's own, a number, and whether it succeeds. -/
def PostAI (w : World) (R C : Int) (p q : Int) (s : MSt) (k : Int) (ok : Bool) (e : Ending) (w' : World) : Prop :=
  ∃ A' cap', e = .returned (.tuple #[.agg #[.int .i64 R, .int .i64 C, .slice A' s.l.length cap', .int .i64 p, .int .i64 q, .int .i64 s.bl, .int .i64 s.rd, .int .i64 s.nx], .int .i64 k, .bool ok]) ∧ Own w' A' 95 (flat s.l) ∧ New w A' ∧ Below w.heap.size w w'
theorem PostAI.none_ {w w' : World} (b : Below w.heap.size w w') : PostAI w 0 0 0 0 noM 0 false (.returned (.tuple #[(.agg #[.int .i64 0, .int .i64 0, .slice none 0 0, .int .i64 0, .int .i64 0, .int .i64 0, .int .i64 0, .int .i64 0]), .int .i64 0, .bool false])) w' :=
  ⟨none, 0, rfl, Own.none_, New.none_, b⟩
theorem own_slice {w : World} {base : Nat} {e : TypeId} {size n : Nat} {v : Value} {xs : List Value} (h : w.ownsRow base e size v n xs) : ∃ A cap, v = .slice A n cap ∧ Own w A e xs ∧ ∀ a, A = some a → base ≤ a.block := by
  obtain ⟨A, cap, rfl⟩ := slice_of_row h
  exact ⟨A, cap, rfl, own_of_row h⟩
theorem runO_len (R C : Int) (l : List (Int × Int)) (p q bl rd nx n : Int) (hn : l.length ≤ 1048576) : (runO R C l p q bl rd nx n).l.length ≤ 1048576 := by
  unfold runO
  split
  · next h =>
    have h1 : okM R C l p q bl rd nx = true := (Bool.and_eq_true _ _ ▸ h : _ ∧ _).1
    obtain ⟨r, c, rfl, rfl, hG, hg, hp, hq⟩ := okM_ints h1
    rw [(MOk.run hp hq _ _ (MOk.start h1)).len]
    exact hn
  · exact Nat.zero_le _
theorem impl_RunMachine (R C : Int) (A : Option Addr) (cap : Nat) (l : List (Int × Int)) (p q bl rd nx n : Int) (w : World) (hn : l.length ≤ 1048576) (hr : Rd w w.heap.size A (flat l)) :
    Calls Tryz.prog 30 #[.agg #[.int .i64 R, .int .i64 C, .slice A l.length cap, .int .i64 p, .int .i64 q, .int .i64 bl, .int .i64 rd, .int .i64 nx], .int .i64 n] w (PostAI w (selI (okR R C l p q bl rd nx n) R) (selI (okR R C l p q bl rd nx n) C) (selI (okR R C l p q bl rd nx n) p) (selI (okR R C l p q bl rd nx n) q) (runO R C l p q bl rd nx n) (runO R C l p q bl rd nx n).fs.length (okR R C l p q bl rd nx n)) := by
  unfold runO okR
  rcases Bool.eq_false_or_eq_true (inM 0 60 n) with hi | hi
  · have hb : 0 ≤ n ∧ n ≤ 60 := by unfold inM at hi; simpa using hi
    obtain ⟨k, rfl⟩ : ∃ k : Nat, n = (k : Int) := ⟨n.toNat, by omega⟩
    have hk : k ≤ 60 := by omega
    rcases Bool.eq_false_or_eq_true (okM R C l p q bl rd nx) with ho | ho
    · rw [ho, hi, show (true && true) = true from rfl, if_pos rfl, Int.toNat_natCast]
      obtain ⟨r, c, rfl, rfl, hG, hg, hp, hq⟩ := okM_ints ho
      obtain ⟨_, _, hpos⟩ := goodB_parts hg
      obtain ⟨b, o, rfl, hbl, hc⟩ := hr (by rw [flat_length]; omega)
      have hr' : Rd w w.heap.size (some ⟨b, o, none⟩) (flat l) := fun _ => ⟨b, o, rfl, hbl, hc⟩
      have hmk := MOk.run hp hq k _ (MOk.start ho)
      have HG := Lib.hid (fun w' h => impl_runSteps_yes r c b o cap l p q bl rd nx k w' ho hk h)
      generalize runM (r : Int) (c : Int) p q k ⟨l, bl, rd, nx, [], []⟩ = s at *
      clear ho hi hr hG hg hp hq hc hbl
      go_enter Tryz.func30, Tryz.ntmps30
      obtain ⟨v0, hv0, X0, X1, B0, hz0⟩ := two_boxes w [.int .i64 (r : Int), .int .i64 (c : Int), .slice (some ⟨b, o, none⟩) l.length cap, .int .i64 p, .int .i64 q, .int .i64 bl, .int .i64 rd, .int .i64 nx] 36 [.int .i64 0, .int .i64 0, .slice none 0 0, .int .i64 0, .int .i64 0, .int .i64 0, .int .i64 0, .int .i64 0] 36; have HV := Lib.hid hv0; have hz : w.heap.size + 1 < v0.heap.size := (by omega); have hy : w.heap.size < v0.heap.size := (by omega); have hb0 := B0.size; clear hv0 hz0; go_wp2_with fail; rewrite [show (w.alloc (.cells ([.int .i64 (r : Int), .int .i64 (c : Int), .slice (some ⟨b, o, none⟩) l.length cap, .int .i64 p, .int .i64 q, .int .i64 bl, .int .i64 rd, .int .i64 nx] : List Value).toArray 36)).alloc (.cells ([.int .i64 0, .int .i64 0, .slice none 0 0, .int .i64 0, .int .i64 0, .int .i64 0, .int .i64 0, .int .i64 0] : List Value).toArray 36) = v0 from HV.out]; clear HV
      refine (HG.out _ ((hr'.below B0).mono B0.size)).mono ?_; rintro e w3 hP
      obtain ⟨A5, c5, v2, rfl, O5, N5, h2, b3⟩ := hP
      clear HG
      have N5w : New w A5 := fun a ha => Nat.le_trans B0.size (N5 a ha)
      obtain ⟨A6, c6, rfl, -, -⟩ := own_slice h2
      have HS := Lib.hid (relS_len hmk.same)
      have hcb : (relS s).length ≤ 60 := by have := hmk.few; rw [relS_len hmk.same]; omega
      generalize (relS s).length = kr at *
      replace X0 := X0.below b3 X0.lt; replace X1 := X1.below b3 X1.lt; replace B0 := B0.trans (b3.mono B0.size); have hy := X0.lt; have hz := X1.lt; have hb0 := B0.size; clear b3
      clear h2 N5 X0 hmk hb
      obtain ⟨sl, sb, sr, sx, scs, sfs⟩ := s
      go_upto_region 4 with (fail)
      obtain ⟨v6, hv6⟩ : ∃ v6, v6 = w3.alloc (.cells #[.int .i64 (r : Int), .int .i64 (c : Int), .slice A5 sl.length c5, .int .i64 p, .int .i64 q, .int .i64 sb, .int .i64 sr, .int .i64 sx] 36) := ⟨_, rfl⟩
      have Xm : Whole v6 w3.heap.size 36 [.int .i64 (r : Int), .int .i64 (c : Int), .slice A5 sl.length c5, .int .i64 p, .int .i64 q, .int .i64 sb, .int .i64 sr, .int .i64 sx] := by rw [hv6]; exact newW
      have b6 : Below w3.heap.size w3 v6 := by rw [hv6]; exact (Below.refl _ _).alloc (Nat.le_refl _) _
      rewrite [← hv6]
      clear hv6
      replace X1 := X1.below b6 X1.lt
      replace O5 := O5.keep b6
      replace B0 := B0.trans (b6.mono B0.size)
      generalize w3.heap.size = gm at *
      clear b6 hy hz hb0
      have h1l := X1.lt
      have hml := Xm.lt
      have Xmk0 : v6.cell? ⟨gm, 0, none⟩ = some (.int .i64 (r : Int)) := (Xm.cell 0).trans rfl; have Xmk1 : v6.cell? ⟨gm, 1, none⟩ = some (.int .i64 (c : Int)) := (Xm.cell 1).trans rfl; have Xmk2 : v6.cell? ⟨gm, 2, none⟩ = some (.slice A5 sl.length c5) := (Xm.cell 2).trans rfl; have Xmk3 : v6.cell? ⟨gm, 3, none⟩ = some (.int .i64 p) := (Xm.cell 3).trans rfl; have Xmk4 : v6.cell? ⟨gm, 4, none⟩ = some (.int .i64 q) := (Xm.cell 4).trans rfl; have Xmk5 : v6.cell? ⟨gm, 5, none⟩ = some (.int .i64 sb) := (Xm.cell 5).trans rfl
      have Xmk6 : v6.cell? ⟨gm, 6, none⟩ = some (.int .i64 sr) := (Xm.cell 6).trans rfl; have Xmk7 : v6.cell? ⟨gm, 7, none⟩ = some (.int .i64 sx) := (Xm.cell 7).trans rfl
      have X1k0 : v6.cell? ⟨w.heap.size + 1, 0, none⟩ = some (.int .i64 0) := (X1.cell 0).trans rfl; have X1k1 : v6.cell? ⟨w.heap.size + 1, 1, none⟩ = some (.int .i64 0) := (X1.cell 1).trans rfl; have X1k2 : v6.cell? ⟨w.heap.size + 1, 2, none⟩ = some (.slice none 0 0) := (X1.cell 2).trans rfl; have X1k3 : v6.cell? ⟨w.heap.size + 1, 3, none⟩ = some (.int .i64 0) := (X1.cell 3).trans rfl; have X1k4 : v6.cell? ⟨w.heap.size + 1, 4, none⟩ = some (.int .i64 0) := (X1.cell 4).trans rfl; have X1k5 : v6.cell? ⟨w.heap.size + 1, 5, none⟩ = some (.int .i64 0) := (X1.cell 5).trans rfl
      have X1k6 : v6.cell? ⟨w.heap.size + 1, 6, none⟩ = some (.int .i64 0) := (X1.cell 6).trans rfl; have X1k7 : v6.cell? ⟨w.heap.size + 1, 7, none⟩ = some (.int .i64 0) := (X1.cell 7).trans rfl
      have X1f0 := X1.frozen 0; have X1f1 := X1.frozen 1; have X1f2 := X1.frozen 2; have X1f3 := X1.frozen 3; have X1f4 := X1.frozen 4; have X1f5 := X1.frozen 5; have X1f6 := X1.frozen 6; have X1f7 := X1.frozen 7
      go_wp2
      rewrite [mset_fold]; obtain ⟨v4, hv4⟩ : ∃ v4, v4 = mset v6 (w.heap.size + 1) (.int .i64 (r : Int)) (.int .i64 (c : Int)) (.slice A5 sl.length c5) (.int .i64 p) (.int .i64 q) (.int .i64 sb) (.int .i64 sr) (.int .i64 sx) := ⟨_, rfl⟩; have Z1 : Whole v4 (w.heap.size + 1) 36 [.int .i64 (r : Int), .int .i64 (c : Int), .slice A5 sl.length c5, .int .i64 p, .int .i64 q, .int .i64 sb, .int .i64 sr, .int .i64 sx] := (by rw [hv4]; exact Whole.mset X1 _ _ _ _ _ _ _ _)
      replace O5 : Own v4 A5 95 (flat sl) := by rw [hv4]; exact own_mset O5 X1 (by decide)
      replace B0 : Below w.heap.size w v4 := by rw [hv4]; exact below_mset B0 (by omega)
      clear Xmk0 Xmk1 Xmk2 Xmk3 Xmk4 Xmk5 Xmk6 Xmk7
      clear X1k0 X1k1 X1k2 X1k3 X1k4 X1k5 X1k6 X1k7
      clear X1f0 X1f1 X1f2 X1f3 X1f4 X1f5 X1f6 X1f7
      rewrite [← hv4]
      clear hv4 X1 Xm
      have Z1k0 : v4.cell? ⟨w.heap.size + 1, 0, none⟩ = some (.int .i64 (r : Int)) := (Z1.cell 0).trans rfl; have Z1k1 : v4.cell? ⟨w.heap.size + 1, 1, none⟩ = some (.int .i64 (c : Int)) := (Z1.cell 1).trans rfl; have Z1k2 : v4.cell? ⟨w.heap.size + 1, 2, none⟩ = some (.slice A5 sl.length c5) := (Z1.cell 2).trans rfl; have Z1k3 : v4.cell? ⟨w.heap.size + 1, 3, none⟩ = some (.int .i64 p) := (Z1.cell 3).trans rfl; have Z1k4 : v4.cell? ⟨w.heap.size + 1, 4, none⟩ = some (.int .i64 q) := (Z1.cell 4).trans rfl; have Z1k5 : v4.cell? ⟨w.heap.size + 1, 5, none⟩ = some (.int .i64 sb) := (Z1.cell 5).trans rfl; have Z1k6 : v4.cell? ⟨w.heap.size + 1, 6, none⟩ = some (.int .i64 sr) := (Z1.cell 6).trans rfl; have Z1k7 : v4.cell? ⟨w.heap.size + 1, 7, none⟩ = some (.int .i64 sx) := (Z1.cell 7).trans rfl
      refine bodyPost_ret (v := .tuple #[.agg #[.int .i64 (r : Int), .int .i64 (c : Int), .slice A5 sl.length c5, .int .i64 p, .int .i64 q, .int .i64 sb, .int .i64 sr, .int .i64 sx], .int .i64 (kr : Int), .bool true]) ?_ rfl ?_; (focus (simp [results, Tryz.results30, go_sem, *]; done))
      rewrite [HS.out]
      exact ⟨A5, c5, rfl, O5, N5w, B0⟩
    · rw [ho, show (false && inM 0 60 (k : Int)) = false from rfl, if_neg (by decide)]
      have HG := Lib.hid (fun w' h => impl_runSteps_no R C A cap l p q bl rd nx (k : Int) w' ho hn h)
      clear ho hi
      go_enter Tryz.func30, Tryz.ntmps30
      obtain ⟨v0, hv0, X0, X1, B0, hz0⟩ := two_boxes w [.int .i64 R, .int .i64 C, .slice A l.length cap, .int .i64 p, .int .i64 q, .int .i64 bl, .int .i64 rd, .int .i64 nx] 36 [.int .i64 0, .int .i64 0, .slice none 0 0, .int .i64 0, .int .i64 0, .int .i64 0, .int .i64 0, .int .i64 0] 36; have HV := Lib.hid hv0; have hz : w.heap.size + 1 < v0.heap.size := (by omega); have hy : w.heap.size < v0.heap.size := (by omega); have hb0 := B0.size; clear hv0 hz0; go_wp2_with fail; rewrite [show (w.alloc (.cells ([.int .i64 R, .int .i64 C, .slice A l.length cap, .int .i64 p, .int .i64 q, .int .i64 bl, .int .i64 rd, .int .i64 nx] : List Value).toArray 36)).alloc (.cells ([.int .i64 0, .int .i64 0, .slice none 0 0, .int .i64 0, .int .i64 0, .int .i64 0, .int .i64 0, .int .i64 0] : List Value).toArray 36) = v0 from HV.out]; clear HV
      refine (HG.out _ ((hr.below B0).mono B0.size)).mono ?_; rintro e w3 ⟨rfl, b3⟩
      clear HG
      replace X0 := X0.below b3 X0.lt; replace X1 := X1.below b3 X1.lt; replace B0 := B0.trans (b3.mono B0.size); have hy := X0.lt; have hz := X1.lt; have hb0 := B0.size; clear b3
      clear X0 hy hb0
      (go_upto_region 4 with (fail); obtain ⟨v6, hv6⟩ : ∃ v6, v6 = w3.alloc (.cells #[.int .i64 0, .int .i64 0, .slice none 0 0, .int .i64 0, .int .i64 0, .int .i64 0, .int .i64 0, .int .i64 0] 36) := ⟨_, rfl⟩; have Xm : Whole v6 w3.heap.size 36 [.int .i64 0, .int .i64 0, .slice none 0 0, .int .i64 0, .int .i64 0, .int .i64 0, .int .i64 0, .int .i64 0] := (by rw [hv6]; exact newW); have b6 : Below w3.heap.size w3 v6 := (by rw [hv6]; exact (Below.refl _ _).alloc (Nat.le_refl _) _); rewrite [← hv6]; clear hv6; replace X1 := X1.below b6 X1.lt; replace B0 := B0.trans (b6.mono B0.size); generalize w3.heap.size = gm at *; clear b6; have hz := X1.lt; have hml := Xm.lt; have Xmk0 : v6.cell? ⟨gm, 0, none⟩ = some (.int .i64 0) := (Xm.cell 0).trans rfl; have Xmk1 : v6.cell? ⟨gm, 1, none⟩ = some (.int .i64 0) := (Xm.cell 1).trans rfl; have Xmk2 : v6.cell? ⟨gm, 2, none⟩ = some (.slice none 0 0) := (Xm.cell 2).trans rfl; have Xmk3 : v6.cell? ⟨gm, 3, none⟩ = some (.int .i64 0) := (Xm.cell 3).trans rfl; have Xmk4 : v6.cell? ⟨gm, 4, none⟩ = some (.int .i64 0) := (Xm.cell 4).trans rfl; have Xmk5 : v6.cell? ⟨gm, 5, none⟩ = some (.int .i64 0) := (Xm.cell 5).trans rfl; have Xmk6 : v6.cell? ⟨gm, 6, none⟩ = some (.int .i64 0) := (Xm.cell 6).trans rfl; have Xmk7 : v6.cell? ⟨gm, 7, none⟩ = some (.int .i64 0) := (Xm.cell 7).trans rfl)
      (have X1 := X1; have X1k0 : v6.cell? ⟨w.heap.size + 1, 0, none⟩ = some (.int .i64 0) := (X1.cell 0).trans rfl; have X1k1 : v6.cell? ⟨w.heap.size + 1, 1, none⟩ = some (.int .i64 0) := (X1.cell 1).trans rfl; have X1k2 : v6.cell? ⟨w.heap.size + 1, 2, none⟩ = some (.slice none 0 0) := (X1.cell 2).trans rfl; have X1k3 : v6.cell? ⟨w.heap.size + 1, 3, none⟩ = some (.int .i64 0) := (X1.cell 3).trans rfl; have X1k4 : v6.cell? ⟨w.heap.size + 1, 4, none⟩ = some (.int .i64 0) := (X1.cell 4).trans rfl; have X1k5 : v6.cell? ⟨w.heap.size + 1, 5, none⟩ = some (.int .i64 0) := (X1.cell 5).trans rfl; have X1k6 : v6.cell? ⟨w.heap.size + 1, 6, none⟩ = some (.int .i64 0) := (X1.cell 6).trans rfl; have X1k7 : v6.cell? ⟨w.heap.size + 1, 7, none⟩ = some (.int .i64 0) := (X1.cell 7).trans rfl; have X1f0 := X1.frozen 0; have X1f1 := X1.frozen 1; have X1f2 := X1.frozen 2; have X1f3 := X1.frozen 3; have X1f4 := X1.frozen 4; have X1f5 := X1.frozen 5; have X1f6 := X1.frozen 6; have X1f7 := X1.frozen 7; go_wp2; rewrite [mset_fold]; obtain ⟨v4, hv4⟩ : ∃ v4, v4 = mset v6 (w.heap.size + 1) (.int .i64 0) (.int .i64 0) (.slice none 0 0) (.int .i64 0) (.int .i64 0) (.int .i64 0) (.int .i64 0) (.int .i64 0) := ⟨_, rfl⟩; have Z1 : Whole v4 (w.heap.size + 1) 36 [.int .i64 0, .int .i64 0, .slice none 0 0, .int .i64 0, .int .i64 0, .int .i64 0, .int .i64 0, .int .i64 0] := (by rw [hv4]; exact Whole.mset X1 _ _ _ _ _ _ _ _); replace B0 : Below w.heap.size w v4 := (by rw [hv4]; exact below_mset B0 (by omega)); clear X1k0 X1k1 X1k2 X1k3 X1k4 X1k5 X1k6 X1k7; clear X1f0 X1f1 X1f2 X1f3 X1f4 X1f5 X1f6 X1f7; rewrite [← hv4]; clear hv4; have Z1k0 : v4.cell? ⟨w.heap.size + 1, 0, none⟩ = some (.int .i64 0) := (Z1.cell 0).trans rfl; have Z1k1 : v4.cell? ⟨w.heap.size + 1, 1, none⟩ = some (.int .i64 0) := (Z1.cell 1).trans rfl; have Z1k2 : v4.cell? ⟨w.heap.size + 1, 2, none⟩ = some (.slice none 0 0) := (Z1.cell 2).trans rfl; have Z1k3 : v4.cell? ⟨w.heap.size + 1, 3, none⟩ = some (.int .i64 0) := (Z1.cell 3).trans rfl; have Z1k4 : v4.cell? ⟨w.heap.size + 1, 4, none⟩ = some (.int .i64 0) := (Z1.cell 4).trans rfl; have Z1k5 : v4.cell? ⟨w.heap.size + 1, 5, none⟩ = some (.int .i64 0) := (Z1.cell 5).trans rfl; have Z1k6 : v4.cell? ⟨w.heap.size + 1, 6, none⟩ = some (.int .i64 0) := (Z1.cell 6).trans rfl; have Z1k7 : v4.cell? ⟨w.heap.size + 1, 7, none⟩ = some (.int .i64 0) := (Z1.cell 7).trans rfl)
      refine bodyPost_ret (v := .tuple #[(.agg #[.int .i64 0, .int .i64 0, .slice none 0 0, .int .i64 0, .int .i64 0, .int .i64 0, .int .i64 0, .int .i64 0]), .int .i64 0, .bool false]) ?_ rfl ?_; (focus (simp [results, Tryz.results30, go_sem, *]; done))
      exact PostAI.none_ B0
  · have hb : ¬ (0 ≤ n ∧ n ≤ 60) := fun h => by
      have : inM 0 60 n = true := by unfold inM; rw [decide_eq_true h.1, decide_eq_true h.2]; rfl
      rw [this] at hi; cases hi
    rw [hi, Bool.and_false, if_neg (by decide)]
    clear hi
    by_cases h0 : n < 0
    · go_enter Tryz.func30, Tryz.ntmps30
      obtain ⟨v0, hv0, X0, X1, B0, hz0⟩ := two_boxes w [.int .i64 R, .int .i64 C, .slice A l.length cap, .int .i64 p, .int .i64 q, .int .i64 bl, .int .i64 rd, .int .i64 nx] 36 [.int .i64 0, .int .i64 0, .slice none 0 0, .int .i64 0, .int .i64 0, .int .i64 0, .int .i64 0, .int .i64 0] 36; have HV := Lib.hid hv0; have hz : w.heap.size + 1 < v0.heap.size := (by omega); have hy : w.heap.size < v0.heap.size := (by omega); have hb0 := B0.size; clear hv0 hz0; go_upto_region 1 with (fail); rewrite [show (w.alloc (.cells ([.int .i64 R, .int .i64 C, .slice A l.length cap, .int .i64 p, .int .i64 q, .int .i64 bl, .int .i64 rd, .int .i64 nx] : List Value).toArray 36)).alloc (.cells ([.int .i64 0, .int .i64 0, .slice none 0 0, .int .i64 0, .int .i64 0, .int .i64 0, .int .i64 0, .int .i64 0] : List Value).toArray 36) = v0 from HV.out]; clear HV
      (have X1 := X1; have X1k0 : v0.cell? ⟨w.heap.size + 1, 0, none⟩ = some (.int .i64 0) := (X1.cell 0).trans rfl; have X1k1 : v0.cell? ⟨w.heap.size + 1, 1, none⟩ = some (.int .i64 0) := (X1.cell 1).trans rfl; have X1k2 : v0.cell? ⟨w.heap.size + 1, 2, none⟩ = some (.slice none 0 0) := (X1.cell 2).trans rfl; have X1k3 : v0.cell? ⟨w.heap.size + 1, 3, none⟩ = some (.int .i64 0) := (X1.cell 3).trans rfl; have X1k4 : v0.cell? ⟨w.heap.size + 1, 4, none⟩ = some (.int .i64 0) := (X1.cell 4).trans rfl; have X1k5 : v0.cell? ⟨w.heap.size + 1, 5, none⟩ = some (.int .i64 0) := (X1.cell 5).trans rfl; have X1k6 : v0.cell? ⟨w.heap.size + 1, 6, none⟩ = some (.int .i64 0) := (X1.cell 6).trans rfl; have X1k7 : v0.cell? ⟨w.heap.size + 1, 7, none⟩ = some (.int .i64 0) := (X1.cell 7).trans rfl; have X1f0 := X1.frozen 0; have X1f1 := X1.frozen 1; have X1f2 := X1.frozen 2; have X1f3 := X1.frozen 3; have X1f4 := X1.frozen 4; have X1f5 := X1.frozen 5; have X1f6 := X1.frozen 6; have X1f7 := X1.frozen 7; go_wp2; rewrite [mset_fold]; obtain ⟨v4, hv4⟩ : ∃ v4, v4 = mset v0 (w.heap.size + 1) (.int .i64 0) (.int .i64 0) (.slice none 0 0) (.int .i64 0) (.int .i64 0) (.int .i64 0) (.int .i64 0) (.int .i64 0) := ⟨_, rfl⟩; have Z1 : Whole v4 (w.heap.size + 1) 36 [.int .i64 0, .int .i64 0, .slice none 0 0, .int .i64 0, .int .i64 0, .int .i64 0, .int .i64 0, .int .i64 0] := (by rw [hv4]; exact Whole.mset X1 _ _ _ _ _ _ _ _); replace B0 : Below w.heap.size w v4 := (by rw [hv4]; exact below_mset B0 (by omega)); clear X1k0 X1k1 X1k2 X1k3 X1k4 X1k5 X1k6 X1k7; clear X1f0 X1f1 X1f2 X1f3 X1f4 X1f5 X1f6 X1f7; rewrite [← hv4]; clear hv4; have Z1k0 : v4.cell? ⟨w.heap.size + 1, 0, none⟩ = some (.int .i64 0) := (Z1.cell 0).trans rfl; have Z1k1 : v4.cell? ⟨w.heap.size + 1, 1, none⟩ = some (.int .i64 0) := (Z1.cell 1).trans rfl; have Z1k2 : v4.cell? ⟨w.heap.size + 1, 2, none⟩ = some (.slice none 0 0) := (Z1.cell 2).trans rfl; have Z1k3 : v4.cell? ⟨w.heap.size + 1, 3, none⟩ = some (.int .i64 0) := (Z1.cell 3).trans rfl; have Z1k4 : v4.cell? ⟨w.heap.size + 1, 4, none⟩ = some (.int .i64 0) := (Z1.cell 4).trans rfl; have Z1k5 : v4.cell? ⟨w.heap.size + 1, 5, none⟩ = some (.int .i64 0) := (Z1.cell 5).trans rfl; have Z1k6 : v4.cell? ⟨w.heap.size + 1, 6, none⟩ = some (.int .i64 0) := (Z1.cell 6).trans rfl; have Z1k7 : v4.cell? ⟨w.heap.size + 1, 7, none⟩ = some (.int .i64 0) := (Z1.cell 7).trans rfl)
      refine bodyPost_ret (v := .tuple #[(.agg #[.int .i64 0, .int .i64 0, .slice none 0 0, .int .i64 0, .int .i64 0, .int .i64 0, .int .i64 0, .int .i64 0]), .int .i64 0, .bool false]) ?_ rfl ?_; (focus (simp [results, Tryz.results30, go_sem, *]; done))
      exact PostAI.none_ B0
    · have h6 : 60 < n := by omega
      go_enter Tryz.func30, Tryz.ntmps30
      obtain ⟨v0, hv0, X0, X1, B0, hz0⟩ := two_boxes w [.int .i64 R, .int .i64 C, .slice A l.length cap, .int .i64 p, .int .i64 q, .int .i64 bl, .int .i64 rd, .int .i64 nx] 36 [.int .i64 0, .int .i64 0, .slice none 0 0, .int .i64 0, .int .i64 0, .int .i64 0, .int .i64 0, .int .i64 0] 36; have HV := Lib.hid hv0; have hz : w.heap.size + 1 < v0.heap.size := (by omega); have hy : w.heap.size < v0.heap.size := (by omega); have hb0 := B0.size; clear hv0 hz0; go_upto_region 1 with (fail); rewrite [show (w.alloc (.cells ([.int .i64 R, .int .i64 C, .slice A l.length cap, .int .i64 p, .int .i64 q, .int .i64 bl, .int .i64 rd, .int .i64 nx] : List Value).toArray 36)).alloc (.cells ([.int .i64 0, .int .i64 0, .slice none 0 0, .int .i64 0, .int .i64 0, .int .i64 0, .int .i64 0, .int .i64 0] : List Value).toArray 36) = v0 from HV.out]; clear HV
      (have X1 := X1; have X1k0 : v0.cell? ⟨w.heap.size + 1, 0, none⟩ = some (.int .i64 0) := (X1.cell 0).trans rfl; have X1k1 : v0.cell? ⟨w.heap.size + 1, 1, none⟩ = some (.int .i64 0) := (X1.cell 1).trans rfl; have X1k2 : v0.cell? ⟨w.heap.size + 1, 2, none⟩ = some (.slice none 0 0) := (X1.cell 2).trans rfl; have X1k3 : v0.cell? ⟨w.heap.size + 1, 3, none⟩ = some (.int .i64 0) := (X1.cell 3).trans rfl; have X1k4 : v0.cell? ⟨w.heap.size + 1, 4, none⟩ = some (.int .i64 0) := (X1.cell 4).trans rfl; have X1k5 : v0.cell? ⟨w.heap.size + 1, 5, none⟩ = some (.int .i64 0) := (X1.cell 5).trans rfl; have X1k6 : v0.cell? ⟨w.heap.size + 1, 6, none⟩ = some (.int .i64 0) := (X1.cell 6).trans rfl; have X1k7 : v0.cell? ⟨w.heap.size + 1, 7, none⟩ = some (.int .i64 0) := (X1.cell 7).trans rfl; have X1f0 := X1.frozen 0; have X1f1 := X1.frozen 1; have X1f2 := X1.frozen 2; have X1f3 := X1.frozen 3; have X1f4 := X1.frozen 4; have X1f5 := X1.frozen 5; have X1f6 := X1.frozen 6; have X1f7 := X1.frozen 7; go_wp2; rewrite [mset_fold]; obtain ⟨v4, hv4⟩ : ∃ v4, v4 = mset v0 (w.heap.size + 1) (.int .i64 0) (.int .i64 0) (.slice none 0 0) (.int .i64 0) (.int .i64 0) (.int .i64 0) (.int .i64 0) (.int .i64 0) := ⟨_, rfl⟩; have Z1 : Whole v4 (w.heap.size + 1) 36 [.int .i64 0, .int .i64 0, .slice none 0 0, .int .i64 0, .int .i64 0, .int .i64 0, .int .i64 0, .int .i64 0] := (by rw [hv4]; exact Whole.mset X1 _ _ _ _ _ _ _ _); replace B0 : Below w.heap.size w v4 := (by rw [hv4]; exact below_mset B0 (by omega)); clear X1k0 X1k1 X1k2 X1k3 X1k4 X1k5 X1k6 X1k7; clear X1f0 X1f1 X1f2 X1f3 X1f4 X1f5 X1f6 X1f7; rewrite [← hv4]; clear hv4; have Z1k0 : v4.cell? ⟨w.heap.size + 1, 0, none⟩ = some (.int .i64 0) := (Z1.cell 0).trans rfl; have Z1k1 : v4.cell? ⟨w.heap.size + 1, 1, none⟩ = some (.int .i64 0) := (Z1.cell 1).trans rfl; have Z1k2 : v4.cell? ⟨w.heap.size + 1, 2, none⟩ = some (.slice none 0 0) := (Z1.cell 2).trans rfl; have Z1k3 : v4.cell? ⟨w.heap.size + 1, 3, none⟩ = some (.int .i64 0) := (Z1.cell 3).trans rfl; have Z1k4 : v4.cell? ⟨w.heap.size + 1, 4, none⟩ = some (.int .i64 0) := (Z1.cell 4).trans rfl; have Z1k5 : v4.cell? ⟨w.heap.size + 1, 5, none⟩ = some (.int .i64 0) := (Z1.cell 5).trans rfl; have Z1k6 : v4.cell? ⟨w.heap.size + 1, 6, none⟩ = some (.int .i64 0) := (Z1.cell 6).trans rfl; have Z1k7 : v4.cell? ⟨w.heap.size + 1, 7, none⟩ = some (.int .i64 0) := (Z1.cell 7).trans rfl)
      refine bodyPost_ret (v := .tuple #[(.agg #[.int .i64 0, .int .i64 0, .slice none 0 0, .int .i64 0, .int .i64 0, .int .i64 0, .int .i64 0, .int .i64 0]), .int .i64 0, .bool false]) ?_ rfl ?_; (focus (simp [results, Tryz.results30, go_sem, *]; done))
      exact PostAI.none_ B0
end Go.Proofs.YtlambflmabecfaaGreat
namespace Go.Proofs.YtlambflmabecfaaGreat
open Go.ChangeShapes Go.WideShapes Go.ChangeAt Go.RowKit Go.Joins Go.Deep
set_option linter.unusedSimpArgs false
set_option linter.unusedVariables false
set_option maxRecDepth 100000
set_option maxHeartbeats 4000000
theorem okR_60 (R C : Int) (l : List (Int × Int)) (p q bl rd nx : Int) : okR R C l p q bl rd nx 60 = okM R C l p q bl rd nx := by
  unfold okR
  rw [show inM 0 60 60 = true from by decide, Bool.and_true]
/-- The state in which the whole run ends. -/
def finO (R C : Int) (l : List (Int × Int)) (p q bl rd nx : Int) : MSt := if okM R C l p q bl rd nx then runM R C p q 60 ⟨l, bl, rd, nx, [], []⟩ else noM
theorem runO_60 (R C : Int) (l : List (Int × Int)) (p q bl rd nx : Int) : runO R C l p q bl rd nx 60 = finO R C l p q bl rd nx := by
  unfold runO finO
  rw [okR_60]
  rfl
def endO (s : MSt) : Int := if s.nx = 2 then 1 else 0
end Go.Proofs.YtlambflmabecfaaGreat
namespace Go.Proofs.YtlambflmabecfaaGreat
open Go.ChangeShapes Go.WideShapes Go.ChangeAt Go.RowKit Go.Joins Go.Deep
set_option linter.unusedSimpArgs false
set_option linter.unusedVariables false
set_option maxRecDepth 100000
set_option maxHeartbeats 4000000
theorem one_cellI2 {w : World} {o : Obj} {x : Value} {t : TypeId} : ∀ j u, [x][j]? = some u → ((w.alloc o).alloc (.cells #[x] t)).cell? ((⟨w.heap.size + 1, 0, none⟩ : Addr).add j) = some u := by
  intro j u h
  have hn := heap_alloc_new (w.alloc o) (.cells #[x] t)
  rw [World.size_alloc] at hn
  have hw : Whole ((w.alloc o).alloc (.cells #[x] t)) (w.heap.size + 1) t [x] := hn
  have hj := hw.cell j
  rw [h] at hj
  rw [← hj]
  by_cases h0 : j = 0
  · subst h0; simp [Addr.add]
  · simp [Addr.add, h0]
theorem finO_few (R C : Int) (l : List (Int × Int)) (p q bl rd nx : Int) : (finO R C l p q bl rd nx).fs.length ≤ 60 ∧ (finO R C l p q bl rd nx).cs.length = (finO R C l p q bl rd nx).fs.length := by
  unfold finO
  split
  · next h1 =>
    obtain ⟨r, c, rfl, rfl, hG, hg, hp, hq⟩ := okM_ints h1
    have hm := MOk.run hp hq 60 _ (MOk.start h1)
    have := hm.few
    exact ⟨by omega, hm.same⟩
  · exact ⟨Nat.zero_le _, rfl⟩
theorem PostL.of_row {w w' : World} {l : List Int} {ok : Bool} {v : Value} {n : Nat} (hn : l.length = n) (h : w'.ownsRow w.heap.size 3 1 v n (ints l)) (b : Below w.heap.size w w') : PostL w l ok (.returned (.tuple #[v, .bool ok])) w' := by
  subst hn
  obtain ⟨A, cap, rfl, O, N⟩ := own_slice h
  exact PostL.mk O N b
end Go.Proofs.YtlambflmabecfaaGreat
