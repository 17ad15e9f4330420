/- Draws of a board with a row and a column. -/
import Derived.Test.YtpfjbecpfdgnpaaDrawY
import Derived.Test.YtpfjbecpfdgnpaaDrawR
namespace Go.Proofs.Ytpfjbecpfdgnpaa
open Go.ChangeShapes Go.WideShapes Go.ChangeAt Go.RowKit Go.Joins Go.Deep
set_option linter.unusedSimpArgs false
set_option linter.unusedVariables false
set_option maxRecDepth 100000
set_option maxHeartbeats 4000000
/-- A slice of bytes that is read. -/
def Bytes (w : World) (A : Option Addr) (l : List Int) : Prop := l.length ≤ 9223372036854775807 ∧ (∀ x, x ∈ l → 0 ≤ x ∧ x ≤ 255) ∧ Rd w w.heap.size A (bytesV l)
/-- A board that a draw has handed out. -/
structure BoardOut (w w' : World) (R C : Int) (A : Option Addr) (cap : Nat) (l : List (Int × Int)) : Prop where
  rows : 0 ≤ R ∧ R ≤ 11
  cols : 0 ≤ C ∧ C ≤ 10
  few : l.length ≤ 90
  room : l.length ≤ cap
  own : OwnAt w' A 27 (flat l)
  new : New w A
theorem whole3 {w : World} {g : Nat} {t : TypeId} {x y z : Value} (h : Whole w g t [x, y, z]) : w.cell? ⟨g, 0, none⟩ = some x ∧ w.cell? ⟨g, 1, none⟩ = some y ∧ w.cell? ⟨g, 2, none⟩ = some z := ⟨(h.cell 0).trans rfl, (h.cell 1).trans rfl, (h.cell 2).trans rfl⟩
theorem cur_new {w v : World} {A : Option Addr} {cap : Nat} {l : List Int} {p : Nat} (h : Bytes w A l) (hb : Below w.heap.size w v) (hp : w.heap.size ≤ p) (hw : Whole v p 83 [.slice A l.length cap, .int .i64 0, .int .u64 0]) : Cr v p 0 :=
  ⟨A, cap, l, 0, 0, h.1, h.2.1, Nat.le_refl _, by decide, by decide, (h.2.2.below hb).mono hp, hw⟩
theorem grown_old {w v w' : World} {p : Nat} (hb : Below w.heap.size w v) (hg : v.grownBy w' (some p)) (hp : w.heap.size ≤ p) : Below w.heap.size w w' :=
  hb.trans (grown_below hg hp hb.size)
theorem DrawCellAt_any (A : Option Addr) (cap : Nat) (l : List Int) (w : World) (h : Bytes w A l) :
    Calls Try.prog 29 #[.slice A l.length cap] w fun e w' => ∃ (R C : Int) (B : Option Addr) (k : Nat) (m : List (Int × Int)) (i j : Int), e = .returned (.tuple #[.agg #[.int .i64 R, .int .i64 C, .slice B m.length k], .int .i64 i, .int .i64 j]) ∧ (-1 ≤ i ∧ i ≤ 20) ∧ (-1 ≤ j ∧ j ≤ 20) ∧ BoardOut w w' R C B k m ∧ Below w.heap.size w w' := by
  obtain ⟨v0, hv0, X0, XC, B0, hz0⟩ := two_boxes w [.int .i64 0, .int .i64 0, .slice none 0 0] 25 [.slice A l.length cap, .int .i64 0, .int .u64 0] 83
  have HV := Lib.hid hv0
  clear hv0
  have C0 := cur_new h B0 (by omega) XC
  go_enter Try.func29, Try.ntmps29
  go_wp2_with fail
  rewrite [show (w.alloc (.cells ([.int .i64 0, .int .i64 0, .slice none 0 0] : List Value).toArray 25)).alloc (.cells ([.slice A l.length cap, .int .i64 0, .int .u64 0] : List Value).toArray 83) = v0 from HV.out]
  clear HV
  refine (anyBoard_any _ 0 _ C0 (by omega)).mono ?_; rintro e w1 ⟨R, C, B, k, m, rfl, hR, hC, h90, hk, ho, hn1, c1, g1⟩
  replace X0 := X0.grownC g1 (by omega)
  have B1 : Below w.heap.size w w1 := grown_old B0 g1 (by omega)
  have hBn : ∀ a, B = some a → w.heap.size + 1 < a.block := fun a ha => by have := hn1 a ha; omega
  have hp1 := c1.lt
  clear C0 XC g1 hn1 hz0
  obtain ⟨v1, hv1, XB, B2, hz1⟩ := one_box w1 [.int .i64 R, .int .i64 C, .slice B m.length k] 25
  have HV := Lib.hid hv1
  clear hv1
  have c2 : Cr v1 (w.heap.size + 1) 2200 := c1.keep (below_grown (row := none) B2) (by simp)
  replace X0 := X0.new B2
  replace ho := ho.new B2
  replace B1 := B1.trans (B2.mono B1.size)
  clear c1 B2
  go_upto_region 3 with fail
  rewrite [show w1.alloc (.cells ([.int .i64 R, .int .i64 C, .slice B m.length k] : List Value).toArray 25) = v1 from HV.out]
  clear HV
  obtain ⟨b0, b1, b2⟩ := whole3 XB
  have hne : w.heap.size ≠ w1.heap.size := by omega
  go_region_held3 (fun w' => w'.cell? ⟨w1.heap.size, 0, none⟩ = some (.int .i64 R) ∧ w'.cell? ⟨w1.heap.size, 1, none⟩ = some (.int .i64 C) ∧ w'.cell? ⟨w1.heap.size, 2, none⟩ = some (.slice B m.length k))
    ((refine whole3 (t := 25) ?_; (repeat (with_reducible refine Whole.set_far ?_ _ _ (by exact hne))); (first | exact XB5.new (by (repeat' (first | (with_reducible exact Below.refl _ _) | (with_reducible assumption) | (with_reducible refine Below.alloc ?_ ?_ _) | (with_reducible refine Below.setCell ?_ ?_ _) | (with_reducible refine Below.drew ?_) | (with_reducible refine below_drewN ?_ _) | (with_reducible refine Below.trans ?_ (Below.mono (by assumption) ?_)) | go_size)) : Below w5.heap.size w5 _) | exact XB4.new (by (repeat' (first | (with_reducible exact Below.refl _ _) | (with_reducible assumption) | (with_reducible refine Below.alloc ?_ ?_ _) | (with_reducible refine Below.setCell ?_ ?_ _) | (with_reducible refine Below.drew ?_) | (with_reducible refine below_drewN ?_ _) | (with_reducible refine Below.trans ?_ (Below.mono (by assumption) ?_)) | go_size)) : Below w4.heap.size w4 _) | exact XB.new (by (repeat' (first | (with_reducible exact Below.refl _ _) | (with_reducible assumption) | (with_reducible refine Below.alloc ?_ ?_ _) | (with_reducible refine Below.setCell ?_ ?_ _) | (with_reducible refine Below.drew ?_) | (with_reducible refine below_drewN ?_ _) | (with_reducible refine Below.trans ?_ (Below.mono (by assumption) ?_)) | go_size)) : Below v1.heap.size v1 _) | fail)))
    ((first | (go_at_call 66; (with_reducible refine (rowOf_any (w.heap.size + 1) 2200 R C B m.length k _ ?_ (by omega) (by omega) (by omega)).mono ?_); (focus exact c2.keep (below_grown (row := none) (by (repeat' (first | (with_reducible exact Below.refl _ _) | (with_reducible assumption) | (with_reducible refine Below.alloc ?_ ?_ _) | (with_reducible refine Below.setCell ?_ ?_ _) | (with_reducible refine Below.drew ?_) | (with_reducible refine below_drewN ?_ _) | (with_reducible refine Below.trans ?_ (Below.mono (by assumption) ?_)) | go_size)) : Below v1.heap.size v1 _)) (by simp)); rintro e w4 ⟨i, rfl, hi, c4, g4⟩; have G4 := (below_grown (row := some (w.heap.size + 1)) (by (repeat' (first | (with_reducible exact Below.refl _ _) | (with_reducible assumption) | (with_reducible refine Below.alloc ?_ ?_ _) | (with_reducible refine Below.setCell ?_ ?_ _) | (with_reducible refine Below.drew ?_) | (with_reducible refine below_drewN ?_ _) | (with_reducible refine Below.trans ?_ (Below.mono (by assumption) ?_)) | go_size)) : Below v1.heap.size v1 _)).trans g4; have XB4 := XB.grownC G4 (by omega); clear g4) | (go_at_call 67; (with_reducible refine (columnOf_any (w.heap.size + 1) (2200 + 6) R C B m.length k _ ?_ (by omega) (by omega) (by omega)).mono ?_); (focus exact c4.keep (below_grown (row := none) (by (repeat' (first | (with_reducible exact Below.refl _ _) | (with_reducible assumption) | (with_reducible refine Below.alloc ?_ ?_ _) | (with_reducible refine Below.setCell ?_ ?_ _) | (with_reducible refine Below.drew ?_) | (with_reducible refine below_drewN ?_ _) | (with_reducible refine Below.trans ?_ (Below.mono (by assumption) ?_)) | go_size)) : Below w4.heap.size w4 _)) (by simp)); rintro e w5 ⟨j, rfl, hj, c5, g5⟩; have G5 := G4.trans ((below_grown (row := some (w.heap.size + 1)) (by (repeat' (first | (with_reducible exact Below.refl _ _) | (with_reducible assumption) | (with_reducible refine Below.alloc ?_ ?_ _) | (with_reducible refine Below.setCell ?_ ?_ _) | (with_reducible refine Below.drew ?_) | (with_reducible refine below_drewN ?_ _) | (with_reducible refine Below.trans ?_ (Below.mono (by assumption) ?_)) | go_size)) : Below w4.heap.size w4 _)).trans g5); have XB5 := XB.grownC G5 (by omega); have X05 := X0.grownC G5 (by omega); clear g5; have f0 := X05.frozen 0; have f1 := X05.frozen 1; have f2 := X05.frozen 2; (obtain ⟨q0, q1, q2⟩ := whole3 X05)) | fail))
  have B5 : Below w.heap.size w w5 := grown_old B1 G5 (by omega)
  have ho5 := ho.grownC G5 (fun a ha => by have := hBn a ha; omega)
  go_wp2
  refine bodyPost_ret (v := .tuple #[.agg #[.int .i64 R, .int .i64 C, .slice B m.length k], .int .i64 i, .int .i64 j]) ?_ rfl ?_; (focus (simp [results, Try.results29, go_sem, *]; done))
  exact ⟨R, C, B, k, m, i, j, rfl, hi, hj, ⟨hR, hC, h90, hk, ((ho5.set_far _ _ (fun a ha => by have := hBn a ha; simp; omega)).set_far _ _ (fun a ha => by have := hBn a ha; simp; omega)).set_far _ _ (fun a ha => by have := hBn a ha; simp; omega), fun a ha => by have := hBn a ha; omega⟩, ((B5.setCell (Nat.le_refl _) _).setCell (Nat.le_refl _) _).setCell (Nat.le_refl _) _⟩
end Go.Proofs.Ytpfjbecpfdgnpaa
