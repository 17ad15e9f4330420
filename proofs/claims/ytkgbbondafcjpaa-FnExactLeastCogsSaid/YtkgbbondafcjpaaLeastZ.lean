/- LeastCogs, the model's, whole. -/
import Derived.Test.YtkgbbondafcjpaaLeastS
namespace Go.Proofs.Ytkgbbondafcjpaa
open Go.ChangeShapes Go.WideShapes Go.ChangeAt Go.RowKit Go.Joins Go.Deep
set_option linter.unusedSimpArgs false
set_option linter.unusedVariables false
set_option maxRecDepth 100000
set_option maxHeartbeats 4000000
theorem spec_LeastCogs (R C : Int) (A : Option Addr) (cap : Nat) (l : List (Int × Int)) (i j i2 j2 : Int) (w : World) (hn : l.length ≤ 1048576) (hr : Rd w w.heap.size A (flat l)) : Calls Try.prog 32 #[.agg #[.int .i64 R, .int .i64 C, .slice A l.length cap], .int .i64 i, .int .i64 j, .int .i64 i2, .int .i64 j2] w (fun e w' => e = .returned (.tuple #[.int .i64 (lcV R C l i j i2 j2), .bool (okC R C l i j i2 j2)]) ∧ Below w.heap.size w w') := by
  unfold lcV okC okJJ
  rcases Bool.eq_false_or_eq_true (okJ R C l i j) with h1 | h1
  · rcases Bool.eq_false_or_eq_true (okJ R C l i2 j2) with h2 | h2
    · have e12 : (okJ R C l i j && okJ R C l i2 j2) = true := by rw [h1, h2]; rfl
      rw [e12, Bool.true_and]
      obtain ⟨hg, hi, _⟩ := okJ_parts h1
      obtain ⟨_, hi2, _⟩ := okJ_parts h2
      obtain ⟨_, _, hk1, h90⟩ := at_bound hg hi
      obtain ⟨_, _, hk2, _⟩ := at_bound hg hi2
      obtain ⟨m1, m2⟩ := wrap_at hg hi
      obtain ⟨m3, m4⟩ := wrap_at hg hi2
      obtain ⟨r, c, rfl, rfl, hG⟩ := geo_of hg
      refine (spec_LeastCogs_yes r c _ _ A cap l i j i2 j2 w hn hr hG h1 h2 rfl rfl m1 m2 m3 m4 hk1 hk2).mono ?_
      rintro e w' ⟨rfl, b⟩
      refine ⟨ret_ib ?_ rfl, b⟩
      unfold selI
      by_cases hF : 0 ≤ lcF (c : Int) l (atI (c : Int) i j) (atI (c : Int) i2 j2)
      · rw [if_pos hF, if_pos (decide_eq_true hF)]
      · rw [if_neg hF, if_neg (by simpa using hF)]
    · have H1 := Lib.hid h1
      have H2 := Lib.hid h2
      rw [h1, h2, Bool.and_false, Bool.false_and]
      clear h1 h2
      go_enter Try.func32, Try.ntmps32
      obtain ⟨v0, hv0⟩ : ∃ v, v = w.alloc (.cells #[.int .i64 R, .int .i64 C, .slice A l.length cap] 31) := ⟨_, rfl⟩; have X0 : Whole v0 w.heap.size 31 [.int .i64 R, .int .i64 C, .slice A l.length cap] := (by rw [hv0]; exact heap_alloc_new w _); have hb : Below w.heap.size w v0 := (by rw [hv0]; exact (Below.refl _ _).alloc (Nat.le_refl _) _); have HV := Lib.hid hv0.symm; clear hv0; go_upto_region 1 with (fail); rewrite [HV.out]; clear HV; have X0k0 : v0.cell? ⟨w.heap.size, 0, none⟩ = some (.int .i64 R) := (X0.cell 0).trans rfl; have X0k1 : v0.cell? ⟨w.heap.size, 1, none⟩ = some (.int .i64 C) := (X0.cell 1).trans rfl; have X0k2 : v0.cell? ⟨w.heap.size, 2, none⟩ = some (.slice A l.length cap) := (X0.cell 2).trans rfl
      go_wp2_with fail
      refine (spec_ggHas _ _ _ _ l _ _ _ hn ((hr.below hb).mono hb.size)).mono ?_; rintro e w1 ⟨rfl, b1⟩
      rewrite [H1.out]
      (clear X0k0 X0k1 X0k2; replace X0 := X0.below b1 X0.lt; replace hb := hb.trans (b1.mono hb.size); clear b1; have X0k0 : w1.cell? ⟨w.heap.size, 0, none⟩ = some (.int .i64 R) := (X0.cell 0).trans rfl; have X0k1 : w1.cell? ⟨w.heap.size, 1, none⟩ = some (.int .i64 C) := (X0.cell 1).trans rfl; have X0k2 : w1.cell? ⟨w.heap.size, 2, none⟩ = some (.slice A l.length cap) := (X0.cell 2).trans rfl)
      go_wp2_with fail
      refine (spec_ggHas _ _ _ _ l _ _ _ hn ((hr.below hb).mono hb.size)).mono ?_; rintro e w2 ⟨rfl, b2⟩
      rewrite [H2.out]
      (clear X0k0 X0k1 X0k2; replace X0 := X0.below b2 X0.lt; replace hb := hb.trans (b2.mono hb.size); clear b2; have X0k0 : w2.cell? ⟨w.heap.size, 0, none⟩ = some (.int .i64 R) := (X0.cell 0).trans rfl; have X0k1 : w2.cell? ⟨w.heap.size, 1, none⟩ = some (.int .i64 C) := (X0.cell 1).trans rfl; have X0k2 : w2.cell? ⟨w.heap.size, 2, none⟩ = some (.slice A l.length cap) := (X0.cell 2).trans rfl)
      go_wp2
      go_returns
      exact ⟨ret_ib rfl rfl, by (repeat' (first | (with_reducible exact Below.refl _ _) | (with_reducible assumption) | (with_reducible refine Below.alloc ?_ ?_ _) | (with_reducible refine Below.setCell ?_ ?_ _) | (with_reducible refine Below.drew ?_) | (with_reducible refine below_drewN ?_ _) | (with_reducible refine Below.trans ?_ (Below.mono (by assumption) ?_)) | (with_reducible exact Nat.le_refl _) | (simp; done) | omega | (simp at *; omega)))⟩
  · have H1 := Lib.hid h1
    rw [h1, Bool.false_and, Bool.false_and]
    clear h1
    go_enter Try.func32, Try.ntmps32
    obtain ⟨v0, hv0⟩ : ∃ v, v = w.alloc (.cells #[.int .i64 R, .int .i64 C, .slice A l.length cap] 31) := ⟨_, rfl⟩; have X0 : Whole v0 w.heap.size 31 [.int .i64 R, .int .i64 C, .slice A l.length cap] := (by rw [hv0]; exact heap_alloc_new w _); have hb : Below w.heap.size w v0 := (by rw [hv0]; exact (Below.refl _ _).alloc (Nat.le_refl _) _); have HV := Lib.hid hv0.symm; clear hv0; go_upto_region 1 with (fail); rewrite [HV.out]; clear HV; have X0k0 : v0.cell? ⟨w.heap.size, 0, none⟩ = some (.int .i64 R) := (X0.cell 0).trans rfl; have X0k1 : v0.cell? ⟨w.heap.size, 1, none⟩ = some (.int .i64 C) := (X0.cell 1).trans rfl; have X0k2 : v0.cell? ⟨w.heap.size, 2, none⟩ = some (.slice A l.length cap) := (X0.cell 2).trans rfl
    go_wp2_with fail
    refine (spec_ggHas _ _ _ _ l _ _ _ hn ((hr.below hb).mono hb.size)).mono ?_; rintro e w1 ⟨rfl, b1⟩
    rewrite [H1.out]
    (clear X0k0 X0k1 X0k2; replace X0 := X0.below b1 X0.lt; replace hb := hb.trans (b1.mono hb.size); clear b1; have X0k0 : w1.cell? ⟨w.heap.size, 0, none⟩ = some (.int .i64 R) := (X0.cell 0).trans rfl; have X0k1 : w1.cell? ⟨w.heap.size, 1, none⟩ = some (.int .i64 C) := (X0.cell 1).trans rfl; have X0k2 : w1.cell? ⟨w.heap.size, 2, none⟩ = some (.slice A l.length cap) := (X0.cell 2).trans rfl)
    go_wp2
    go_returns
    exact ⟨ret_ib rfl rfl, by (repeat' (first | (with_reducible exact Below.refl _ _) | (with_reducible assumption) | (with_reducible refine Below.alloc ?_ ?_ _) | (with_reducible refine Below.setCell ?_ ?_ _) | (with_reducible refine Below.drew ?_) | (with_reducible refine below_drewN ?_ _) | (with_reducible refine Below.trans ?_ (Below.mono (by assumption) ?_)) | (with_reducible exact Nat.le_refl _) | (simp; done) | omega | (simp at *; omega)))⟩
end Go.Proofs.Ytkgbbondafcjpaa
