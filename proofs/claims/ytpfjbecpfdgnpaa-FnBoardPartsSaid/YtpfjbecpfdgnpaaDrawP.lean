/- The draw of a board, a row, a column and a cell. -/
import Derived.Test.YtpfjbecpfdgnpaaDrawC
namespace Go.Proofs.Ytpfjbecpfdgnpaa
open Go.ChangeShapes Go.WideShapes Go.ChangeAt Go.RowKit Go.Joins Go.Deep
set_option linter.unusedSimpArgs false
set_option linter.unusedVariables false
set_option maxRecDepth 100000
set_option maxHeartbeats 4000000
theorem DrawPutCell_any (A : Option Addr) (cap : Nat) (l : List Int) (w : World) (h : Bytes w A l) :
    Calls Try.prog 14 #[.slice A l.length cap] w fun e w' => ∃ (R C : Int) (B : Option Addr) (k : Nat) (m : List (Int × Int)) (i j x y : Int), e = .returned (.tuple #[.agg #[.int .i64 R, .int .i64 C, .slice B m.length k], .int .i64 i, .int .i64 j, .agg #[.int .i64 x, .int .i64 y]]) ∧ (-1 ≤ i ∧ i ≤ 20) ∧ (-1 ≤ j ∧ j ≤ 20) ∧ (-1 ≤ x ∧ x ≤ 8 ∧ -1 ≤ y ∧ y ≤ 2) ∧ BoardOut w w' R C B k m ∧ Below w.heap.size w w' := by
  obtain ⟨v0, hv0, X0, XE, XC, B0, hz0⟩ := three_boxes w [.int .i64 0, .int .i64 0, .slice none 0 0] 25 [.int .i64 0, .int .i64 0] 27 [.slice A l.length cap, .int .i64 0, .int .u64 0] 83
  have HV := Lib.hid hv0
  clear hv0
  have C0 := cur_new h B0 (by omega) XC
  go_enter Try.func14, Try.ntmps14
  go_wp2_with fail
  rewrite [show ((w.alloc (.cells ([.int .i64 0, .int .i64 0, .slice none 0 0] : List Value).toArray 25)).alloc (.cells ([.int .i64 0, .int .i64 0] : List Value).toArray 27)).alloc (.cells ([.slice A l.length cap, .int .i64 0, .int .u64 0] : List Value).toArray 83) = v0 from HV.out]
  clear HV
  refine (anyBoard_any _ 0 _ C0 (by omega)).mono ?_; rintro e w1 ⟨R, C, B, k, m, rfl, hR, hC, h90, hk, ho, hn1, c1, g1⟩
  replace X0 := X0.grownC g1 (by omega)
  replace XE := XE.grownC g1 (by omega)
  have B1 : Below w.heap.size w w1 := grown_old B0 g1 (by omega)
  have hBn : ∀ a, B = some a → w.heap.size + 1 + 1 < a.block := fun a ha => by have := hn1 a ha; omega
  have hp1 := c1.lt
  clear C0 XC g1 hn1 hz0
  obtain ⟨v1, hv1, XB, B2, hz1⟩ := one_box w1 [.int .i64 R, .int .i64 C, .slice B m.length k] 25
  have HV := Lib.hid hv1
  clear hv1
  have c2 : Cr v1 (w.heap.size + 1 + 1) 2200 := c1.keep (below_grown (row := none) B2) (by simp)
  replace X0 := X0.new B2
  replace XE := XE.new B2
  replace ho := ho.new B2
  replace B1 := B1.trans (B2.mono B1.size)
  clear c1 B2
  go_upto_region 3 with fail
  rewrite [show w1.alloc (.cells ([.int .i64 R, .int .i64 C, .slice B m.length k] : List Value).toArray 25) = v1 from HV.out]
  clear HV
  obtain ⟨b0, b1, b2⟩ := whole3 XB
  have hne : w.heap.size ≠ w1.heap.size := by omega
  have hne2 : w.heap.size + 1 ≠ w1.heap.size := by omega
  have hne3 : w.heap.size + 1 ≠ w.heap.size := by omega
  have hne4 : w.heap.size ≠ w.heap.size + 1 := by omega
  go_region_held3 (fun w' => w'.cell? ⟨w1.heap.size, 0, none⟩ = some (.int .i64 R) ∧ w'.cell? ⟨w1.heap.size, 1, none⟩ = some (.int .i64 C) ∧ w'.cell? ⟨w1.heap.size, 2, none⟩ = some (.slice B m.length k))
    ((refine whole3 (t := 25) ?_; (repeat (with_reducible refine Whole.set_far ?_ _ _ (by first | exact hne | exact hne2))); (first | exact XB6.new (by (repeat' (first | (with_reducible exact Below.refl _ _) | (with_reducible assumption) | (with_reducible refine Below.alloc ?_ ?_ _) | (with_reducible refine Below.setCell ?_ ?_ _) | (with_reducible refine Below.drew ?_) | (with_reducible refine below_drewN ?_ _) | (with_reducible refine Below.trans ?_ (Below.mono (by assumption) ?_)) | go_size)) : Below w6.heap.size w6 _) | exact XB5.new (by (repeat' (first | (with_reducible exact Below.refl _ _) | (with_reducible assumption) | (with_reducible refine Below.alloc ?_ ?_ _) | (with_reducible refine Below.setCell ?_ ?_ _) | (with_reducible refine Below.drew ?_) | (with_reducible refine below_drewN ?_ _) | (with_reducible refine Below.trans ?_ (Below.mono (by assumption) ?_)) | go_size)) : Below w5.heap.size w5 _) | exact XB4.new (by (repeat' (first | (with_reducible exact Below.refl _ _) | (with_reducible assumption) | (with_reducible refine Below.alloc ?_ ?_ _) | (with_reducible refine Below.setCell ?_ ?_ _) | (with_reducible refine Below.drew ?_) | (with_reducible refine below_drewN ?_ _) | (with_reducible refine Below.trans ?_ (Below.mono (by assumption) ?_)) | go_size)) : Below w4.heap.size w4 _) | exact XB.new (by (repeat' (first | (with_reducible exact Below.refl _ _) | (with_reducible assumption) | (with_reducible refine Below.alloc ?_ ?_ _) | (with_reducible refine Below.setCell ?_ ?_ _) | (with_reducible refine Below.drew ?_) | (with_reducible refine below_drewN ?_ _) | (with_reducible refine Below.trans ?_ (Below.mono (by assumption) ?_)) | go_size)) : Below v1.heap.size v1 _) | fail)))
    ((first | (go_at_call 66; (with_reducible refine (rowOf_any (w.heap.size + 1 + 1) 2200 R C B m.length k _ ?_ (by omega) (by omega) (by omega)).mono ?_); (focus exact c2.keep (below_grown (row := none) (by (repeat' (first | (with_reducible exact Below.refl _ _) | (with_reducible assumption) | (with_reducible refine Below.alloc ?_ ?_ _) | (with_reducible refine Below.setCell ?_ ?_ _) | (with_reducible refine Below.drew ?_) | (with_reducible refine below_drewN ?_ _) | (with_reducible refine Below.trans ?_ (Below.mono (by assumption) ?_)) | go_size)) : Below v1.heap.size v1 _)) (by simp)); rintro e w4 ⟨i, rfl, hi, c4, g4⟩; have G4 := (below_grown (row := some (w.heap.size + 1 + 1)) (by (repeat' (first | (with_reducible exact Below.refl _ _) | (with_reducible assumption) | (with_reducible refine Below.alloc ?_ ?_ _) | (with_reducible refine Below.setCell ?_ ?_ _) | (with_reducible refine Below.drew ?_) | (with_reducible refine below_drewN ?_ _) | (with_reducible refine Below.trans ?_ (Below.mono (by assumption) ?_)) | go_size)) : Below v1.heap.size v1 _)).trans g4; have XB4 := XB.grownC G4 (by omega); clear g4) | (go_at_call 67; (with_reducible refine (columnOf_any (w.heap.size + 1 + 1) (2200 + 6) R C B m.length k _ ?_ (by omega) (by omega) (by omega)).mono ?_); (focus exact c4.keep (below_grown (row := none) (by (repeat' (first | (with_reducible exact Below.refl _ _) | (with_reducible assumption) | (with_reducible refine Below.alloc ?_ ?_ _) | (with_reducible refine Below.setCell ?_ ?_ _) | (with_reducible refine Below.drew ?_) | (with_reducible refine below_drewN ?_ _) | (with_reducible refine Below.trans ?_ (Below.mono (by assumption) ?_)) | go_size)) : Below w4.heap.size w4 _)) (by simp)); rintro e w5 ⟨j, rfl, hj, c5, g5⟩; have G5 := G4.trans ((below_grown (row := some (w.heap.size + 1 + 1)) (by (repeat' (first | (with_reducible exact Below.refl _ _) | (with_reducible assumption) | (with_reducible refine Below.alloc ?_ ?_ _) | (with_reducible refine Below.setCell ?_ ?_ _) | (with_reducible refine Below.drew ?_) | (with_reducible refine below_drewN ?_ _) | (with_reducible refine Below.trans ?_ (Below.mono (by assumption) ?_)) | go_size)) : Below w4.heap.size w4 _)).trans g5); have XB5 := XB.grownC G5 (by omega); clear g5) | (go_at_call 68; (with_reducible refine (anyCell_any (w.heap.size + 1 + 1) (2200 + 6 + 6) _ ?_ (by omega)).mono ?_); (focus exact c5.keep (below_grown (row := none) (by (repeat' (first | (with_reducible exact Below.refl _ _) | (with_reducible assumption) | (with_reducible refine Below.alloc ?_ ?_ _) | (with_reducible refine Below.setCell ?_ ?_ _) | (with_reducible refine Below.drew ?_) | (with_reducible refine below_drewN ?_ _) | (with_reducible refine Below.trans ?_ (Below.mono (by assumption) ?_)) | go_size)) : Below w5.heap.size w5 _)) (by simp)); rintro e w6 ⟨x, y, rfl, hxy, c6, g6⟩; have G6 := G5.trans ((below_grown (row := some (w.heap.size + 1 + 1)) (by (repeat' (first | (with_reducible exact Below.refl _ _) | (with_reducible assumption) | (with_reducible refine Below.alloc ?_ ?_ _) | (with_reducible refine Below.setCell ?_ ?_ _) | (with_reducible refine Below.drew ?_) | (with_reducible refine below_drewN ?_ _) | (with_reducible refine Below.trans ?_ (Below.mono (by assumption) ?_)) | go_size)) : Below w5.heap.size w5 _)).trans g6); have XB6 := XB.grownC G6 (by omega); have X06 := X0.grownC G6 (by omega); have XE6 := XE.grownC G6 (by omega); clear g6; have f0 := X06.frozen 0; have f1 := X06.frozen 1; have f2 := X06.frozen 2; have f3 := XE6.frozen 0; have f4 := XE6.frozen 1; (obtain ⟨q0, q1, q2⟩ := whole3 X06); have q3 : w6.cell? ⟨w.heap.size + 1, 0, none⟩ = some (.int .i64 0) := (XE6.cell 0).trans rfl; have q4 : w6.cell? ⟨w.heap.size + 1, 1, none⟩ = some (.int .i64 0) := (XE6.cell 1).trans rfl) | fail))
  have B6 : Below w.heap.size w w6 := grown_old B1 G6 (by omega)
  have ho6 := ho.grownC G6 (fun a ha => by have := hBn a ha; omega)
  have hs1 : w.heap.size ≤ w.heap.size + 1 := Nat.le_succ _
  have hb1 : ∀ a, B = some a → w.heap.size ≠ a.block := fun a ha => by have := hBn a ha; omega
  have hb2 : ∀ a, B = some a → w.heap.size + 1 ≠ a.block := fun a ha => by have := hBn a ha; omega
  go_wp2
  refine bodyPost_ret (v := .tuple #[.agg #[.int .i64 R, .int .i64 C, .slice B m.length k], .int .i64 i, .int .i64 j, .agg #[.int .i64 x, .int .i64 y]]) ?_ rfl ?_; (focus (simp [results, Try.results14, go_sem, *]; done))
  exact ⟨R, C, B, k, m, i, j, x, y, rfl, hi, hj, hxy, ⟨hR, hC, h90, hk, ((((ho6.set_far _ _ hb1).set_far _ _ hb1).set_far _ _ hb1).set_far _ _ hb2).set_far _ _ hb2, fun a ha => by have := hBn a ha; omega⟩, ((((B6.setCell (Nat.le_refl _) _).setCell (Nat.le_refl _) _).setCell (Nat.le_refl _) _).setCell hs1 _).setCell hs1 _⟩
end Go.Proofs.Ytpfjbecpfdgnpaa
