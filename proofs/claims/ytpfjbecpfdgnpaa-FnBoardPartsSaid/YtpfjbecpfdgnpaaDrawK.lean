/- The draw of a board and two rows. -/
import Derived.Test.YtpfjbecpfdgnpaaDrawC
namespace Go.Proofs.Ytpfjbecpfdgnpaa
open Go.ChangeShapes Go.WideShapes Go.ChangeAt Go.RowKit Go.Joins Go.Deep
set_option linter.unusedSimpArgs false
set_option linter.unusedVariables false
set_option maxRecDepth 100000
set_option maxHeartbeats 4000000
theorem DrawCutRows_any (A : Option Addr) (cap : Nat) (l : List Int) (w : World) (h : Bytes w A l) :
    Calls Try.prog 26 #[.slice A l.length cap] w fun e w' => ∃ (R C : Int) (B : Option Addr) (k : Nat) (m : List (Int × Int)) (i j : Int), e = .returned (.tuple #[.agg #[.int .i64 R, .int .i64 C, .slice B m.length k], .int .i64 i, .int .i64 j]) ∧ (-1 ≤ i ∧ i ≤ 20) ∧ (-1 ≤ j ∧ j ≤ 22) ∧ BoardOut w w' R C B k m ∧ Below w.heap.size w w' := by
  obtain ⟨v0, hv0, X0, XC, B0, hz0⟩ := two_boxes w [.int .i64 0, .int .i64 0, .slice none 0 0] 25 [.slice A l.length cap, .int .i64 0, .int .u64 0] 83
  have HV := Lib.hid hv0
  clear hv0
  have C0 := cur_new h B0 (by omega) XC
  go_enter Try.func26, Try.ntmps26
  go_wp2_with fail
  rewrite [show (w.alloc (.cells ([.int .i64 0, .int .i64 0, .slice none 0 0] : List Value).toArray 25)).alloc (.cells ([.slice A l.length cap, .int .i64 0, .int .u64 0] : List Value).toArray 83) = v0 from HV.out]
  clear HV
  refine (anyBoard_any _ 0 _ C0 (by omega)).mono ?_; rintro e w1 ⟨R, C, B, k, m, rfl, hR, hC, h90, hk, ho, hn1, c1, g1⟩
  replace X0 := X0.grownC g1 (by omega)
  have B1 : Below w.heap.size w w1 := grown_old B0 g1 (by omega)
  have hBn : ∀ a, B = some a → w.heap.size + 1 < a.block := fun a ha => by have := hn1 a ha; omega
  have hp1 := c1.lt
  clear C0 XC g1 hn1 hz0
  obtain ⟨v1, hv1, XB, B2, hz1⟩ := one_box w1 [.int .i64 R, .int .i64 C, .slice B m.length k] 25
  have HV := Lib.hid hv1
  clear hv1
  have c2 : Cr v1 (w.heap.size + 1) 2200 := c1.keep (below_grown (row := none) B2) (by simp)
  replace X0 := X0.new B2
  replace ho := ho.new B2
  replace B1 := B1.trans (B2.mono B1.size)
  clear c1 B2
  (obtain ⟨b0, b1, b2⟩ := whole3 XB)
  go_wp2_with fail
  rewrite [show w1.alloc (.cells ([.int .i64 R, .int .i64 C, .slice B m.length k] : List Value).toArray 25) = v1 from HV.out]
  clear HV
  refine (rowOf_any (w.heap.size + 1) 2200 R C B m.length k _ c2 (by omega) (by omega) (by omega)).mono ?_; rintro e w4 ⟨i, rfl, hi, c4, g4⟩
  replace XB := XB.grownC g4 (by omega)
  replace X0 := X0.grownC g4 (by omega)
  replace ho := ho.grownC g4 (fun a ha => by have := hBn a ha; omega)
  replace B1 := grown_old B1 g4 (by omega)
  have hz4 := XB.lt
  clear c2 g4 b0 b1 b2 hz1
  (obtain ⟨b0, b1, b2⟩ := whole3 XB)
  go_upto_region 4 with fail
  have hne : w.heap.size ≠ w1.heap.size := by omega
  go_region_held3 (fun w' => w'.cell? ⟨w1.heap.size, 0, none⟩ = some (.int .i64 R) ∧ w'.cell? ⟨w1.heap.size, 1, none⟩ = some (.int .i64 C) ∧ w'.cell? ⟨w1.heap.size, 2, none⟩ = some (.slice B m.length k))
    ((refine whole3 (t := 25) ?_; (repeat (with_reducible refine Whole.set_far ?_ _ _ (by exact hne))); (first | exact XB5.new (by (repeat' (first | (with_reducible exact Below.refl _ _) | (with_reducible assumption) | (with_reducible refine Below.alloc ?_ ?_ _) | (with_reducible refine Below.setCell ?_ ?_ _) | (with_reducible refine Below.drew ?_) | (with_reducible refine below_drewN ?_ _) | (with_reducible refine Below.trans ?_ (Below.mono (by assumption) ?_)) | go_size)) : Below w5.heap.size w5 _) | exact XB.new (by (repeat' (first | (with_reducible exact Below.refl _ _) | (with_reducible assumption) | (with_reducible refine Below.alloc ?_ ?_ _) | (with_reducible refine Below.setCell ?_ ?_ _) | (with_reducible refine Below.drew ?_) | (with_reducible refine below_drewN ?_ _) | (with_reducible refine Below.trans ?_ (Below.mono (by assumption) ?_)) | go_size)) : Below w4.heap.size w4 _) | fail)))
    (((go_at_call 88; (refine (among_any (w.heap.size + 1) (2200 + 6) _ 6 [i, IntKind.i64.wrap (i + 1), IntKind.i64.wrap (i + 2), R, R, IntKind.i64.wrap (R + 1)] _ ?_ (by omega) (by simp) (by simp) ?_ ?_).mono ?_); (focus exact c4.keep (below_grown (row := none) (by (repeat' (first | (with_reducible exact Below.refl _ _) | (with_reducible assumption) | (with_reducible refine Below.alloc ?_ ?_ _) | (with_reducible refine Below.setCell ?_ ?_ _) | (with_reducible refine Below.drew ?_) | (with_reducible refine below_drewN ?_ _) | (with_reducible refine Below.trans ?_ (Below.mono (by assumption) ?_)) | go_size)) : Below w4.heap.size w4 _)) (by simp)); (focus (first | exact Whole.rdI (heap_alloc_new _ _) | exact (Whole.new (heap_alloc_new _ _) (by (repeat' (first | (with_reducible exact Below.refl _ _) | (with_reducible assumption) | (with_reducible refine Below.alloc ?_ ?_ _) | (with_reducible refine Below.setCell ?_ ?_ _) | (with_reducible refine Below.drew ?_) | (with_reducible refine below_drewN ?_ _) | (with_reducible refine Below.trans ?_ (Below.mono (by assumption) ?_)) | go_size)))).rdI | fail)); (focus (intro a ha; cases ha; simp; omega)); rintro e w5 ⟨j, rfl, hj, c5, g5⟩; have G5 := (below_grown (row := some (w.heap.size + 1)) (by (repeat' (first | (with_reducible exact Below.refl _ _) | (with_reducible assumption) | (with_reducible refine Below.alloc ?_ ?_ _) | (with_reducible refine Below.setCell ?_ ?_ _) | (with_reducible refine Below.drew ?_) | (with_reducible refine below_drewN ?_ _) | (with_reducible refine Below.trans ?_ (Below.mono (by assumption) ?_)) | go_size)) : Below w4.heap.size w4 _)).trans g5; have XB5 := XB.grownC G5 (by omega); have X05 := X0.grownC G5 (by omega); clear g5; have f0 := X05.frozen 0; have f1 := X05.frozen 1; have f2 := X05.frozen 2; (obtain ⟨q0, q1, q2⟩ := whole3 X05))))
  have ew : ∀ n : Int, -100 ≤ n → n ≤ 100 → IntKind.i64.wrap n = n := fun n h1 h2 => by
    first
    | (show wrap64 n = n; unfold wrap64; omega)
    | (rw [IntKind.wrap_i64]; unfold wrap64; omega)
    | (rw [IntKind.wrap_i64]; omega)
  rw [ew _ (by omega) (by omega), ew _ (by omega) (by omega), ew _ (by omega) (by omega)] at hj
  have hj2 : -1 ≤ j ∧ j ≤ 22 := by simp at hj; omega
  clear hj
  have B5 : Below w.heap.size w w5 := grown_old B1 G5 (by omega)
  have ho5 := ho.grownC G5 (fun a ha => by have := hBn a ha; omega)
  go_wp2
  refine bodyPost_ret (v := .tuple #[.agg #[.int .i64 R, .int .i64 C, .slice B m.length k], .int .i64 i, .int .i64 j]) ?_ rfl ?_; (focus (simp [results, Try.results26, go_sem, *]; done))
  exact ⟨R, C, B, k, m, i, j, rfl, hi, hj2, ⟨hR, hC, h90, hk, ((ho5.set_far _ _ (fun a ha => by have := hBn a ha; simp; omega)).set_far _ _ (fun a ha => by have := hBn a ha; simp; omega)).set_far _ _ (fun a ha => by have := hBn a ha; simp; omega), fun a ha => by have := hBn a ha; omega⟩, ((B5.setCell (Nat.le_refl _) _).setCell (Nat.le_refl _) _).setCell (Nat.le_refl _) _⟩
end Go.Proofs.Ytpfjbecpfdgnpaa
