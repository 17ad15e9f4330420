/- Contracts of the program and of the model, walked, part 2 of 11. No condition but what each says. -/
import Derived.Test.YtpfjbecpfdgnpaaM1
import Derived.Deep.Cut
import Derived.Maps.OwnSet
import Derived.Deep.RegionHeld3
import Derived.Deep.AppendLies
import Derived.Lib.BufferMore
import Derived.Deep.DeepCutAuto
namespace Go.Proofs.Ytpfjbecpfdgnpaa
open Go.ChangeShapes Go.WideShapes Go.ChangeAt Go.RowKit Go.Joins Go.Deep
set_option linter.unusedSimpArgs false
set_option linter.unusedVariables false
set_option maxRecDepth 100000
set_option maxHeartbeats 2000000
/-- Eight cells stored one after the other. -/
def mset (w : World) (g : Nat) (a0 a1 a2 a3 a4 a5 a6 a7 : Value) : World :=
  (((((((w.setCell ⟨g, 0, none⟩ a0).setCell ⟨g, 1, none⟩ a1).setCell ⟨g, 2, none⟩ a2).setCell ⟨g, 3, none⟩ a3).setCell ⟨g, 4, none⟩ a4).setCell ⟨g, 5, none⟩ a5).setCell ⟨g, 6, none⟩ a6).setCell ⟨g, 7, none⟩ a7
theorem mset_fold (w : World) (g : Nat) (a0 a1 a2 a3 a4 a5 a6 a7 : Value) : (((((((w.setCell ⟨g, 0, none⟩ a0).setCell ⟨g, 1, none⟩ a1).setCell ⟨g, 2, none⟩ a2).setCell ⟨g, 3, none⟩ a3).setCell ⟨g, 4, none⟩ a4).setCell ⟨g, 5, none⟩ a5).setCell ⟨g, 6, none⟩ a6).setCell ⟨g, 7, none⟩ a7 = mset w g a0 a1 a2 a3 a4 a5 a6 a7 := rfl
theorem Whole.mset {w : World} {g : Nat} {t : TypeId} {b0 b1 b2 b3 b4 b5 b6 b7 : Value} (h : Whole w g t [b0, b1, b2, b3, b4, b5, b6, b7]) (a0 a1 a2 a3 a4 a5 a6 a7 : Value) : Whole (mset w g a0 a1 a2 a3 a4 a5 a6 a7) g t [a0, a1, a2, a3, a4, a5, a6, a7] :=
  (((((((h.set 0 a0).set 1 a1).set 2 a2).set 3 a3).set 4 a4).set 5 a5).set 6 a6).set 7 a7
theorem Whole.mset_far {w : World} {k g : Nat} {t : TypeId} {xs : List Value} (h : Whole w k t xs) (hne : g ≠ k) {a0 a1 a2 a3 a4 a5 a6 a7 : Value} : Whole (Proofs.Ytpfjbecpfdgnpaa.mset w g a0 a1 a2 a3 a4 a5 a6 a7) k t xs :=
  (((((((h.set_far _ _ hne).set_far _ _ hne).set_far _ _ hne).set_far _ _ hne).set_far _ _ hne).set_far _ _ hne).set_far _ _ hne).set_far _ _ hne
theorem below_mset {B : Nat} {w v : World} {g : Nat} (h : Below B w v) (hB : B ≤ g) {a0 a1 a2 a3 a4 a5 a6 a7 : Value} : Below B w (mset v g a0 a1 a2 a3 a4 a5 a6 a7) :=
  (((((((h.setCell (p := ⟨g, 0, none⟩) hB _).setCell (p := ⟨g, 1, none⟩) hB _).setCell (p := ⟨g, 2, none⟩) hB _).setCell (p := ⟨g, 3, none⟩) hB _).setCell (p := ⟨g, 4, none⟩) hB _).setCell (p := ⟨g, 5, none⟩) hB _).setCell (p := ⟨g, 6, none⟩) hB _).setCell (p := ⟨g, 7, none⟩) hB _
theorem size_mset (w : World) (g : Nat) (a0 a1 a2 a3 a4 a5 a6 a7 : Value) : (mset w g a0 a1 a2 a3 a4 a5 a6 a7).heap.size = w.heap.size := by
  unfold mset
  simp only [World.size_setCell]
theorem mset_only {w : World} {g : Nat} {a0 a1 a2 a3 a4 a5 a6 a7 : Value} {k : Nat} (h : k ≠ g) : (mset w g a0 a1 a2 a3 a4 a5 a6 a7).heap[k]? = w.heap[k]? := by
  unfold mset
  rw [Below.heap_setCell _ _ _ _ h, Below.heap_setCell _ _ _ _ h, Below.heap_setCell _ _ _ _ h, Below.heap_setCell _ _ _ _ h, Below.heap_setCell _ _ _ _ h, Below.heap_setCell _ _ _ _ h, Below.heap_setCell _ _ _ _ h, Below.heap_setCell _ _ _ _ h]
theorem gb_one (v : World) (g j : Nat) (u : Value) : v.grownBy (v.setCell ⟨g, j, none⟩ u) (some g) := ⟨rfl, rfl, rfl, by rw [World.size_setCell]; exact Nat.le_refl _, fun k _ hk => Below.heap_setCell _ _ _ _ (fun e => hk (by rw [e]))⟩
theorem gb_and {w v v' : World} {row : Option Nat} (h : w.grownBy v row) (hg : v.grownBy v' row) : w.grownBy v' row :=
  ⟨hg.os.trans h.os, hg.tape.trans h.tape, hg.output.trans h.output, Nat.le_trans h.size hg.size, fun k hk hne => (hg.block k (Nat.lt_of_lt_of_le hk h.size) hne).trans (h.block k hk hne)⟩
theorem grown_mset (w : World) (g : Nat) (a0 a1 a2 a3 a4 a5 a6 a7 : Value) : w.grownBy (mset w g a0 a1 a2 a3 a4 a5 a6 a7) (some g) :=
  gb_and (gb_and (gb_and (gb_and (gb_and (gb_and (gb_and (gb_one w g 0 a0) (gb_one _ g 1 a1)) (gb_one _ g 2 a2)) (gb_one _ g 3 a3)) (gb_one _ g 4 a4)) (gb_one _ g 5 a5)) (gb_one _ g 6 a6)) (gb_one _ g 7 a7)
theorem own_mset {w : World} {g : Nat} {A : Option Addr} {t t' : TypeId} {xs ys : List Value} (h : Own w A t xs) (hw : Whole w g t' ys) (hne : t ≠ t') {a0 a1 a2 a3 a4 a5 a6 a7 : Value} : Own (mset w g a0 a1 a2 a3 a4 a5 a6 a7) A t xs := fun hx => by
  obtain ⟨k, rest, rfl, hk⟩ := h hx
  exact ⟨k, rest, rfl, (mset_only (own_apart h hw hne hx rfl)).trans hk⟩
theorem row_mset {w : World} {base g size n : Nat} {e : TypeId} {v : Value} {xs : List Value} (h : w.ownsRow base e size v n xs) (hne : some g ≠ v.ownBlock) {a0 a1 a2 a3 a4 a5 a6 a7 : Value} : (mset w g a0 a1 a2 a3 a4 a5 a6 a7).ownsRow base e size v n xs := by
  refine ⟨h.1, ?_⟩
  rcases h.2 with h2 | ⟨k, cap, cur, rfl, h2, hh, h3⟩
  · exact .inl h2
  · exact .inr ⟨k, cap, cur, rfl, h2, (mset_only (fun e' => hne (by rw [← e']; rfl))).trans hh, h3⟩
theorem szMachine_any (R C : Int) (A : Option Addr) (n cap : Nat) (p q bl rd nx : Int) (left : Int) (w : World) (hn : n ≤ maxLen) (h0 : 0 ≤ left) (h1 : left ≤ 1048576) :
    Calls Try.prog 36 #[.agg #[.int .i64 R, .int .i64 C, .slice A n cap, .int .i64 p, .int .i64 q, .int .i64 bl, .int .i64 rd, .int .i64 nx], .int .i64 left] w fun e w' => e = .returned (.int .i64 (if left < n then -1 else left - n)) ∧ Below w.heap.size w w' := by
  by_cases hl : left < n
  · go_enter Try.func36, Try.ntmps36
    go_wp2_with fail
    refine (szBoard_any _ _ _ _ _ _ _ hn h0 h1).mono ?_; rintro e w1 ⟨rfl, b1⟩
    rw [if_pos hl]
    have HL := Lib.hid hl
    clear hl
    go_wp2
    go_returns
    exact ⟨ret_int (by first | rfl | exact (if_pos HL.out).symm), by (repeat' (first | (with_reducible exact Below.refl _ _) | (with_reducible assumption) | (with_reducible refine Below.alloc ?_ ?_ _) | (with_reducible refine Below.setCell ?_ ?_ _) | (with_reducible refine Below.drew ?_) | (with_reducible refine below_drewN ?_ _) | (with_reducible refine Below.trans ?_ (Below.mono (by assumption) ?_)) | (with_reducible exact Nat.le_refl _) | (simp; done) | omega | (simp at *; omega)))⟩
  · go_enter Try.func36, Try.ntmps36
    go_wp2_with fail
    refine (szBoard_any _ _ _ _ _ _ _ hn h0 h1).mono ?_; rintro e w1 ⟨rfl, b1⟩
    rw [if_neg (by omega)]
    go_wp2
    go_returns
    exact ⟨ret_int (by first | rfl | exact (if_neg (by omega)).symm), by (repeat' (first | (with_reducible exact Below.refl _ _) | (with_reducible assumption) | (with_reducible refine Below.alloc ?_ ?_ _) | (with_reducible refine Below.setCell ?_ ?_ _) | (with_reducible refine Below.drew ?_) | (with_reducible refine below_drewN ?_ _) | (with_reducible refine Below.trans ?_ (Below.mono (by assumption) ?_)) | (with_reducible exact Nat.le_refl _) | (simp; done) | omega | (simp at *; omega)))⟩
theorem toMachine_any (R C : Int) (A : Option Addr) (cap : Nat) (l : List (Int × Int)) (p q bl rd nx : Int) (w : World) (hn : l.length ≤ 1048576) (hr : Rd w w.heap.size A (flat l)) :
    Calls Try.prog 38 #[.agg #[.int .i64 R, .int .i64 C, .slice A l.length cap, .int .i64 p, .int .i64 q, .int .i64 bl, .int .i64 rd, .int .i64 nx]] w fun e w' => ∃ g, e = .returned (.agg #[.int .i64 R, .int .i64 C, .slice (some ⟨g, 0, none⟩) l.length l.length, .int .i64 p, .int .i64 q, .int .i64 bl, .int .i64 rd, .int .i64 nx]) ∧ Whole w' g 27 (flat l) ∧ w.heap.size ≤ g ∧ Below w.heap.size w w' := by
  go_enter Try.func38, Try.ntmps38
  obtain ⟨v0, hv0, X0, X1, X2, B0, hz0⟩ := three_boxes w [.int .i64 R, .int .i64 C, .slice A l.length cap, .int .i64 p, .int .i64 q, .int .i64 bl, .int .i64 rd, .int .i64 nx] 52 [.int .i64 0, .int .i64 0, .slice none 0 0, .int .i64 0, .int .i64 0, .int .i64 0, .int .i64 0, .int .i64 0] 56 [.int .i64 0, .int .i64 0, .slice none 0 0, .int .i64 0, .int .i64 0, .int .i64 0, .int .i64 0, .int .i64 0] 56; have HV := Lib.hid hv0; have hx : w.heap.size + 1 + 1 < v0.heap.size := (by omega); have hz : w.heap.size + 1 < v0.heap.size := (by omega); have hy : w.heap.size < v0.heap.size := (by omega); have hb0 := B0.size; clear hv0 hz0; go_wp2_with fail; rewrite [show ((w.alloc (.cells ([.int .i64 R, .int .i64 C, .slice A l.length cap, .int .i64 p, .int .i64 q, .int .i64 bl, .int .i64 rd, .int .i64 nx] : List Value).toArray 52)).alloc (.cells ([.int .i64 0, .int .i64 0, .slice none 0 0, .int .i64 0, .int .i64 0, .int .i64 0, .int .i64 0, .int .i64 0] : List Value).toArray 56)).alloc (.cells ([.int .i64 0, .int .i64 0, .slice none 0 0, .int .i64 0, .int .i64 0, .int .i64 0, .int .i64 0, .int .i64 0] : List Value).toArray 56) = v0 from HV.out]; clear HV
  have X0k0 : v0.cell? ⟨w.heap.size, 0, none⟩ = some (.int .i64 R) := (X0.cell 0).trans rfl; have X0k1 : v0.cell? ⟨w.heap.size, 1, none⟩ = some (.int .i64 C) := (X0.cell 1).trans rfl; have X0k2 : v0.cell? ⟨w.heap.size, 2, none⟩ = some (.slice A l.length cap) := (X0.cell 2).trans rfl; have X0k3 : v0.cell? ⟨w.heap.size, 3, none⟩ = some (.int .i64 p) := (X0.cell 3).trans rfl; have X0k4 : v0.cell? ⟨w.heap.size, 4, none⟩ = some (.int .i64 q) := (X0.cell 4).trans rfl; have X0k5 : v0.cell? ⟨w.heap.size, 5, none⟩ = some (.int .i64 bl) := (X0.cell 5).trans rfl
  have X0k6 : v0.cell? ⟨w.heap.size, 6, none⟩ = some (.int .i64 rd) := (X0.cell 6).trans rfl; have X0k7 : v0.cell? ⟨w.heap.size, 7, none⟩ = some (.int .i64 nx) := (X0.cell 7).trans rfl
  go_wp2_with fail
  refine (toBoard_any _ _ _ _ l _ hn ((hr.below B0).mono B0.size)).mono ?_; rintro e w1 ⟨g, rfl, t1, n1, b1⟩
  clear X0k0 X0k1 X0k2 X0k3 X0k4 X0k5 X0k6 X0k7
  have hg0 : v0.heap.size ≤ g := n1
  replace X0 := X0.below b1 X0.lt; replace X1 := X1.below b1 X1.lt; replace X2 := X2.below b1 X2.lt; replace B0 := B0.trans (b1.mono B0.size); have hy := X0.lt; have hz := X1.lt; have hx := X2.lt; have hb0 := B0.size; clear b1
  have hg : w.heap.size ≤ g := by omega
  have hne : w.heap.size + 1 ≠ g := by omega
  have hne' := hne.symm
  have hne2 : w.heap.size + 1 + 1 ≠ g := by omega
  have hne2' := hne2.symm
  have b3 : ∀ (u0 u1 u2 : Value), Below w.heap.size w1 (((w1.setCell ⟨w.heap.size + 1 + 1, 0, none⟩ u0).setCell ⟨w.heap.size + 1 + 1, 1, none⟩ u1).setCell ⟨w.heap.size + 1 + 1, 2, none⟩ u2) := fun u0 u1 u2 => by (repeat' (first | (with_reducible exact Below.refl _ _) | (with_reducible assumption) | (with_reducible refine Below.alloc ?_ ?_ _) | (with_reducible refine Below.setCell ?_ ?_ _) | (with_reducible refine Below.drew ?_) | (with_reducible refine below_drewN ?_ _) | (with_reducible refine Below.trans ?_ (Below.mono (by assumption) ?_)) | (with_reducible exact Nat.le_refl _) | (simp; done) | omega | (simp at *; omega)))
  have n20 : w.heap.size + 1 + 1 ≠ w.heap.size := by omega
  have n21 : w.heap.size + 1 + 1 ≠ w.heap.size + 1 := by omega
  have X2k0 : w1.cell? ⟨w.heap.size + 1 + 1, 0, none⟩ = some (.int .i64 0) := (X2.cell 0).trans rfl; have X2k1 : w1.cell? ⟨w.heap.size + 1 + 1, 1, none⟩ = some (.int .i64 0) := (X2.cell 1).trans rfl; have X2k2 : w1.cell? ⟨w.heap.size + 1 + 1, 2, none⟩ = some (.slice none 0 0) := (X2.cell 2).trans rfl
  have Y2f0 := X2.frozen 0
  have Y2f1 := X2.frozen 1
  have Y2f2 := X2.frozen 2
  go_upto_region 3 with (fail)
  obtain ⟨v2, hv2⟩ : ∃ v2, v2 = (((w1.setCell ⟨w.heap.size + 1 + 1, 0, none⟩ (.int .i64 R)).setCell ⟨w.heap.size + 1 + 1, 1, none⟩ (.int .i64 C)).setCell ⟨w.heap.size + 1 + 1, 2, none⟩ (.slice (some ⟨g, 0, none⟩) l.length l.length)) := ⟨_, rfl⟩
  replace X0 : Whole v2 w.heap.size 52 [.int .i64 R, .int .i64 C, .slice A l.length cap, .int .i64 p, .int .i64 q, .int .i64 bl, .int .i64 rd, .int .i64 nx] := by rw [hv2]; exact ((X0.set_far _ _ n20).set_far _ _ n20).set_far _ _ n20
  replace X1 : Whole v2 (w.heap.size + 1) 56 [.int .i64 0, .int .i64 0, .slice none 0 0, .int .i64 0, .int .i64 0, .int .i64 0, .int .i64 0, .int .i64 0] := by rw [hv2]; exact ((X1.set_far _ _ n21).set_far _ _ n21).set_far _ _ n21
  replace X2 : Whole v2 (w.heap.size + 1 + 1) 56 [.int .i64 R, .int .i64 C, .slice (some ⟨g, 0, none⟩) l.length l.length, .int .i64 0, .int .i64 0, .int .i64 0, .int .i64 0, .int .i64 0] := by rw [hv2]; exact ((X2.set 0 (.int .i64 R)).set 1 (.int .i64 C)).set 2 (.slice (some ⟨g, 0, none⟩) l.length l.length)
  replace t1 : Whole v2 g 27 (flat l) := by rw [hv2]; exact ((t1.set_far _ _ hne2).set_far _ _ hne2).set_far _ _ hne2
  replace B0 : Below w.heap.size w v2 := by rw [hv2]; exact B0.trans (b3 _ _ _)
  rewrite [← hv2]
  clear hv2 b3 Y2f0 Y2f1 Y2f2
  clear X2k0 X2k1 X2k2
  have hx := X2.lt
  have hy := X0.lt
  have hz := X1.lt
  have X0k3 : v2.cell? ⟨w.heap.size, 3, none⟩ = some (.int .i64 p) := (X0.cell 3).trans rfl
  have X0k4 : v2.cell? ⟨w.heap.size, 4, none⟩ = some (.int .i64 q) := (X0.cell 4).trans rfl
  have X0k5 : v2.cell? ⟨w.heap.size, 5, none⟩ = some (.int .i64 bl) := (X0.cell 5).trans rfl
  have X0k6 : v2.cell? ⟨w.heap.size, 6, none⟩ = some (.int .i64 rd) := (X0.cell 6).trans rfl
  have X0k7 : v2.cell? ⟨w.heap.size, 7, none⟩ = some (.int .i64 nx) := (X0.cell 7).trans rfl
  have X2k3 : v2.cell? ⟨w.heap.size + 1 + 1, 3, none⟩ = some (.int .i64 0) := (X2.cell 3).trans rfl
  have X2k4 : v2.cell? ⟨w.heap.size + 1 + 1, 4, none⟩ = some (.int .i64 0) := (X2.cell 4).trans rfl
  have X2k5 : v2.cell? ⟨w.heap.size + 1 + 1, 5, none⟩ = some (.int .i64 0) := (X2.cell 5).trans rfl
  have X2k6 : v2.cell? ⟨w.heap.size + 1 + 1, 6, none⟩ = some (.int .i64 0) := (X2.cell 6).trans rfl
  have X2k7 : v2.cell? ⟨w.heap.size + 1 + 1, 7, none⟩ = some (.int .i64 0) := (X2.cell 7).trans rfl
  have X2f3 := X2.frozen 3
  have X2f4 := X2.frozen 4
  have X2f5 := X2.frozen 5
  have X2f6 := X2.frozen 6
  have X2f7 := X2.frozen 7
  have b3 : ∀ (u0 u1 u2 u3 u4 : Value), Below w.heap.size v2 (((((v2.setCell ⟨w.heap.size + 1 + 1, 3, none⟩ u0).setCell ⟨w.heap.size + 1 + 1, 4, none⟩ u1).setCell ⟨w.heap.size + 1 + 1, 5, none⟩ u2).setCell ⟨w.heap.size + 1 + 1, 6, none⟩ u3).setCell ⟨w.heap.size + 1 + 1, 7, none⟩ u4) := fun u0 u1 u2 u3 u4 => by (repeat' (first | (with_reducible exact Below.refl _ _) | (with_reducible assumption) | (with_reducible refine Below.alloc ?_ ?_ _) | (with_reducible refine Below.setCell ?_ ?_ _) | (with_reducible refine Below.drew ?_) | (with_reducible refine below_drewN ?_ _) | (with_reducible refine Below.trans ?_ (Below.mono (by assumption) ?_)) | (with_reducible exact Nat.le_refl _) | (simp; done) | omega | (simp at *; omega)))
  go_upto_region 8 with (fail)
  obtain ⟨v3, hv3⟩ : ∃ v3, v3 = (((((v2.setCell ⟨w.heap.size + 1 + 1, 3, none⟩ (.int .i64 p)).setCell ⟨w.heap.size + 1 + 1, 4, none⟩ (.int .i64 q)).setCell ⟨w.heap.size + 1 + 1, 5, none⟩ (.int .i64 bl)).setCell ⟨w.heap.size + 1 + 1, 6, none⟩ (.int .i64 rd)).setCell ⟨w.heap.size + 1 + 1, 7, none⟩ (.int .i64 nx)) := ⟨_, rfl⟩
  replace X1 : Whole v3 (w.heap.size + 1) 56 [.int .i64 0, .int .i64 0, .slice none 0 0, .int .i64 0, .int .i64 0, .int .i64 0, .int .i64 0, .int .i64 0] := by rw [hv3]; exact ((((X1.set_far _ _ n21).set_far _ _ n21).set_far _ _ n21).set_far _ _ n21).set_far _ _ n21
  replace X2 : Whole v3 (w.heap.size + 1 + 1) 56 [.int .i64 R, .int .i64 C, .slice (some ⟨g, 0, none⟩) l.length l.length, .int .i64 p, .int .i64 q, .int .i64 bl, .int .i64 rd, .int .i64 nx] := by rw [hv3]; exact ((((X2.set 3 (.int .i64 p)).set 4 (.int .i64 q)).set 5 (.int .i64 bl)).set 6 (.int .i64 rd)).set 7 (.int .i64 nx)
  replace t1 : Whole v3 g 27 (flat l) := by rw [hv3]; exact ((((t1.set_far _ _ hne2).set_far _ _ hne2).set_far _ _ hne2).set_far _ _ hne2).set_far _ _ hne2
  replace B0 : Below w.heap.size w v3 := by rw [hv3]; exact B0.trans (b3 _ _ _ _ _)
  rewrite [← hv3]
  clear hv3 b3 X0 X0k3 X0k4 X0k5 X0k6 X0k7 X2f3 X2f4 X2f5 X2f6 X2f7 X2k3 X2k4 X2k5 X2k6 X2k7
  have hx := X2.lt
  have hz := X1.lt
  have X2k0 : v3.cell? ⟨w.heap.size + 1 + 1, 0, none⟩ = some (.int .i64 R) := (X2.cell 0).trans rfl; have X2k1 : v3.cell? ⟨w.heap.size + 1 + 1, 1, none⟩ = some (.int .i64 C) := (X2.cell 1).trans rfl; have X2k2 : v3.cell? ⟨w.heap.size + 1 + 1, 2, none⟩ = some (.slice (some ⟨g, 0, none⟩) l.length l.length) := (X2.cell 2).trans rfl; have X2k3 : v3.cell? ⟨w.heap.size + 1 + 1, 3, none⟩ = some (.int .i64 p) := (X2.cell 3).trans rfl; have X2k4 : v3.cell? ⟨w.heap.size + 1 + 1, 4, none⟩ = some (.int .i64 q) := (X2.cell 4).trans rfl; have X2k5 : v3.cell? ⟨w.heap.size + 1 + 1, 5, none⟩ = some (.int .i64 bl) := (X2.cell 5).trans rfl
  have X2k6 : v3.cell? ⟨w.heap.size + 1 + 1, 6, none⟩ = some (.int .i64 rd) := (X2.cell 6).trans rfl; have X2k7 : v3.cell? ⟨w.heap.size + 1 + 1, 7, none⟩ = some (.int .i64 nx) := (X2.cell 7).trans rfl
  have X1k0 : v3.cell? ⟨w.heap.size + 1, 0, none⟩ = some (.int .i64 0) := (X1.cell 0).trans rfl; have X1k1 : v3.cell? ⟨w.heap.size + 1, 1, none⟩ = some (.int .i64 0) := (X1.cell 1).trans rfl; have X1k2 : v3.cell? ⟨w.heap.size + 1, 2, none⟩ = some (.slice none 0 0) := (X1.cell 2).trans rfl; have X1k3 : v3.cell? ⟨w.heap.size + 1, 3, none⟩ = some (.int .i64 0) := (X1.cell 3).trans rfl; have X1k4 : v3.cell? ⟨w.heap.size + 1, 4, none⟩ = some (.int .i64 0) := (X1.cell 4).trans rfl; have X1k5 : v3.cell? ⟨w.heap.size + 1, 5, none⟩ = some (.int .i64 0) := (X1.cell 5).trans rfl
  have X1k6 : v3.cell? ⟨w.heap.size + 1, 6, none⟩ = some (.int .i64 0) := (X1.cell 6).trans rfl; have X1k7 : v3.cell? ⟨w.heap.size + 1, 7, none⟩ = some (.int .i64 0) := (X1.cell 7).trans rfl
  have X1f0 := X1.frozen 0; have X1f1 := X1.frozen 1; have X1f2 := X1.frozen 2; have X1f3 := X1.frozen 3; have X1f4 := X1.frozen 4; have X1f5 := X1.frozen 5; have X1f6 := X1.frozen 6; have X1f7 := X1.frozen 7
  go_wp2
  rewrite [mset_fold]
  obtain ⟨v4, hv4⟩ : ∃ v4, v4 = mset v3 (w.heap.size + 1) (.int .i64 R) (.int .i64 C) (.slice (some ⟨g, 0, none⟩) l.length l.length) (.int .i64 p) (.int .i64 q) (.int .i64 bl) (.int .i64 rd) (.int .i64 nx) := ⟨_, rfl⟩
  have Z1 : Whole v4 (w.heap.size + 1) 56 [.int .i64 R, .int .i64 C, .slice (some ⟨g, 0, none⟩) l.length l.length, .int .i64 p, .int .i64 q, .int .i64 bl, .int .i64 rd, .int .i64 nx] := by rw [hv4]; exact X1.mset _ _ _ _ _ _ _ _
  replace t1 : Whole v4 g 27 (flat l) := by rw [hv4]; exact t1.mset_far hne
  replace B0 : Below w.heap.size w v4 := by rw [hv4]; exact below_mset B0 (by omega)
  clear X2k0 X2k1 X2k2 X2k3 X2k4 X2k5 X2k6 X2k7
  clear X1k0 X1k1 X1k2 X1k3 X1k4 X1k5 X1k6 X1k7
  clear X1f0 X1f1 X1f2 X1f3 X1f4 X1f5 X1f6 X1f7
  rewrite [← hv4]
  clear hv4
  have Z1k0 : v4.cell? ⟨w.heap.size + 1, 0, none⟩ = some (.int .i64 R) := (Z1.cell 0).trans rfl; have Z1k1 : v4.cell? ⟨w.heap.size + 1, 1, none⟩ = some (.int .i64 C) := (Z1.cell 1).trans rfl; have Z1k2 : v4.cell? ⟨w.heap.size + 1, 2, none⟩ = some (.slice (some ⟨g, 0, none⟩) l.length l.length) := (Z1.cell 2).trans rfl; have Z1k3 : v4.cell? ⟨w.heap.size + 1, 3, none⟩ = some (.int .i64 p) := (Z1.cell 3).trans rfl; have Z1k4 : v4.cell? ⟨w.heap.size + 1, 4, none⟩ = some (.int .i64 q) := (Z1.cell 4).trans rfl; have Z1k5 : v4.cell? ⟨w.heap.size + 1, 5, none⟩ = some (.int .i64 bl) := (Z1.cell 5).trans rfl
  have Z1k6 : v4.cell? ⟨w.heap.size + 1, 6, none⟩ = some (.int .i64 rd) := (Z1.cell 6).trans rfl; have Z1k7 : v4.cell? ⟨w.heap.size + 1, 7, none⟩ = some (.int .i64 nx) := (Z1.cell 7).trans rfl
  refine bodyPost_ret (v := .agg #[.int .i64 R, .int .i64 C, .slice (some ⟨g, 0, none⟩) l.length l.length, .int .i64 p, .int .i64 q, .int .i64 bl, .int .i64 rd, .int .i64 nx]) ?_ rfl ?_; (focus (simp [results, Try.results38, go_sem, *]; done))
  exact ⟨g, rfl, t1, hg, B0⟩
theorem eqMachine_same (R C p q bl rd nx : Int) (A A' : Option Addr) (cap cap' : Nat) (l : List (Int × Int)) (w : World) (hn : l.length ≤ 1048576) (hr : Rd w w.heap.size A (flat l)) (hr' : Rd w w.heap.size A' (flat l)) :
    Calls Try.prog 40 #[.agg #[.int .i64 R, .int .i64 C, .slice A l.length cap, .int .i64 p, .int .i64 q, .int .i64 bl, .int .i64 rd, .int .i64 nx], .agg #[.int .i64 R, .int .i64 C, .slice A' l.length cap', .int .i64 p, .int .i64 q, .int .i64 bl, .int .i64 rd, .int .i64 nx]] w fun e w' => e = .returned (.bool true) ∧ Below w.heap.size w w' := by
  go_enter Try.func40, Try.ntmps40
  obtain ⟨v0, hv0, X0, X1, B0, hz0⟩ := two_boxes w [.int .i64 R, .int .i64 C, .slice A l.length cap, .int .i64 p, .int .i64 q, .int .i64 bl, .int .i64 rd, .int .i64 nx] 56 [.int .i64 R, .int .i64 C, .slice A' l.length cap', .int .i64 p, .int .i64 q, .int .i64 bl, .int .i64 rd, .int .i64 nx] 56; have HV := Lib.hid hv0; have hz : w.heap.size + 1 < v0.heap.size := (by omega); have hy : w.heap.size < v0.heap.size := (by omega); have hb0 := B0.size; clear hv0 hz0; go_wp2_with fail; rewrite [show (w.alloc (.cells ([.int .i64 R, .int .i64 C, .slice A l.length cap, .int .i64 p, .int .i64 q, .int .i64 bl, .int .i64 rd, .int .i64 nx] : List Value).toArray 56)).alloc (.cells ([.int .i64 R, .int .i64 C, .slice A' l.length cap', .int .i64 p, .int .i64 q, .int .i64 bl, .int .i64 rd, .int .i64 nx] : List Value).toArray 56) = v0 from HV.out]; clear HV
  have X0k0 : v0.cell? ⟨w.heap.size, 0, none⟩ = some (.int .i64 R) := (X0.cell 0).trans rfl; have X0k1 : v0.cell? ⟨w.heap.size, 1, none⟩ = some (.int .i64 C) := (X0.cell 1).trans rfl; have X0k2 : v0.cell? ⟨w.heap.size, 2, none⟩ = some (.slice A l.length cap) := (X0.cell 2).trans rfl; have X0k3 : v0.cell? ⟨w.heap.size, 3, none⟩ = some (.int .i64 p) := (X0.cell 3).trans rfl; have X0k4 : v0.cell? ⟨w.heap.size, 4, none⟩ = some (.int .i64 q) := (X0.cell 4).trans rfl; have X0k5 : v0.cell? ⟨w.heap.size, 5, none⟩ = some (.int .i64 bl) := (X0.cell 5).trans rfl
  have X0k6 : v0.cell? ⟨w.heap.size, 6, none⟩ = some (.int .i64 rd) := (X0.cell 6).trans rfl; have X0k7 : v0.cell? ⟨w.heap.size, 7, none⟩ = some (.int .i64 nx) := (X0.cell 7).trans rfl
  have X1k0 : v0.cell? ⟨w.heap.size + 1, 0, none⟩ = some (.int .i64 R) := (X1.cell 0).trans rfl; have X1k1 : v0.cell? ⟨w.heap.size + 1, 1, none⟩ = some (.int .i64 C) := (X1.cell 1).trans rfl; have X1k2 : v0.cell? ⟨w.heap.size + 1, 2, none⟩ = some (.slice A' l.length cap') := (X1.cell 2).trans rfl; have X1k3 : v0.cell? ⟨w.heap.size + 1, 3, none⟩ = some (.int .i64 p) := (X1.cell 3).trans rfl; have X1k4 : v0.cell? ⟨w.heap.size + 1, 4, none⟩ = some (.int .i64 q) := (X1.cell 4).trans rfl; have X1k5 : v0.cell? ⟨w.heap.size + 1, 5, none⟩ = some (.int .i64 bl) := (X1.cell 5).trans rfl
  have X1k6 : v0.cell? ⟨w.heap.size + 1, 6, none⟩ = some (.int .i64 rd) := (X1.cell 6).trans rfl; have X1k7 : v0.cell? ⟨w.heap.size + 1, 7, none⟩ = some (.int .i64 nx) := (X1.cell 7).trans rfl
  go_wp2_with fail
  refine (eqBoard_any _ _ _ _ _ _ _ _ l l _ hn hn ((hr.below B0).mono B0.size) ((hr'.below B0).mono B0.size)).mono ?_; rintro e w1 ⟨rfl, b1⟩
  rw [eqB_same]
  clear X0k0 X0k1 X0k2 X0k3 X0k4 X0k5 X0k6 X0k7
  clear X1k0 X1k1 X1k2 X1k3 X1k4 X1k5 X1k6 X1k7
  replace X0 := X0.below b1 X0.lt; replace X1 := X1.below b1 X1.lt; replace B0 := B0.trans (b1.mono B0.size); have hy := X0.lt; have hz := X1.lt; have hb0 := B0.size; clear b1
  have X0k0 : w1.cell? ⟨w.heap.size, 0, none⟩ = some (.int .i64 R) := (X0.cell 0).trans rfl; have X0k1 : w1.cell? ⟨w.heap.size, 1, none⟩ = some (.int .i64 C) := (X0.cell 1).trans rfl; have X0k2 : w1.cell? ⟨w.heap.size, 2, none⟩ = some (.slice A l.length cap) := (X0.cell 2).trans rfl; have X0k3 : w1.cell? ⟨w.heap.size, 3, none⟩ = some (.int .i64 p) := (X0.cell 3).trans rfl; have X0k4 : w1.cell? ⟨w.heap.size, 4, none⟩ = some (.int .i64 q) := (X0.cell 4).trans rfl; have X0k5 : w1.cell? ⟨w.heap.size, 5, none⟩ = some (.int .i64 bl) := (X0.cell 5).trans rfl
  have X0k6 : w1.cell? ⟨w.heap.size, 6, none⟩ = some (.int .i64 rd) := (X0.cell 6).trans rfl; have X0k7 : w1.cell? ⟨w.heap.size, 7, none⟩ = some (.int .i64 nx) := (X0.cell 7).trans rfl
  have X1k0 : w1.cell? ⟨w.heap.size + 1, 0, none⟩ = some (.int .i64 R) := (X1.cell 0).trans rfl; have X1k1 : w1.cell? ⟨w.heap.size + 1, 1, none⟩ = some (.int .i64 C) := (X1.cell 1).trans rfl; have X1k2 : w1.cell? ⟨w.heap.size + 1, 2, none⟩ = some (.slice A' l.length cap') := (X1.cell 2).trans rfl; have X1k3 : w1.cell? ⟨w.heap.size + 1, 3, none⟩ = some (.int .i64 p) := (X1.cell 3).trans rfl; have X1k4 : w1.cell? ⟨w.heap.size + 1, 4, none⟩ = some (.int .i64 q) := (X1.cell 4).trans rfl; have X1k5 : w1.cell? ⟨w.heap.size + 1, 5, none⟩ = some (.int .i64 bl) := (X1.cell 5).trans rfl
  have X1k6 : w1.cell? ⟨w.heap.size + 1, 6, none⟩ = some (.int .i64 rd) := (X1.cell 6).trans rfl; have X1k7 : w1.cell? ⟨w.heap.size + 1, 7, none⟩ = some (.int .i64 nx) := (X1.cell 7).trans rfl
  go_wp2
  go_returns
  exact ⟨rfl, by (repeat' (first | (with_reducible exact Below.refl _ _) | (with_reducible assumption) | (with_reducible refine Below.alloc ?_ ?_ _) | (with_reducible refine Below.setCell ?_ ?_ _) | (with_reducible refine Below.drew ?_) | (with_reducible refine below_drewN ?_ _) | (with_reducible refine Below.trans ?_ (Below.mono (by assumption) ?_)) | (with_reducible exact Nat.le_refl _) | (simp; done) | omega | (simp at *; omega)))⟩
theorem markMachine_n (R C : Int) (A : Option Addr) (cap n : Nat) (p q bl rd nx : Int) (xs : List Value) (k : Int) (w : World) (hx : xs.length = 2 * n) (hn : n ≤ 1048576) (h0 : 0 ≤ k) (h1 : k ≤ 16777216) (ho : Own w A 27 xs) :
    Calls Try.prog 44 #[.agg #[.int .i64 R, .int .i64 C, .slice A n cap, .int .i64 p, .int .i64 q, .int .i64 bl, .int .i64 rd, .int .i64 nx], .int .i64 k] w fun e w' => e = .returned (.int .i64 (k + 2 * n)) ∧ Own w' A 27 (marks k (2 * n)) ∧ Fx w w' A n := by
  go_enter Try.func44, Try.ntmps44
  go_wp2_with fail
  refine (markBoard_n _ _ _ _ n xs _ _ hx hn h0 h1 (ho.keep (by (repeat' (first | (with_reducible exact Below.refl _ _) | (with_reducible assumption) | (with_reducible refine Below.alloc ?_ ?_ _) | (with_reducible refine Below.setCell ?_ ?_ _) | (with_reducible refine Below.drew ?_) | (with_reducible refine below_drewN ?_ _) | (with_reducible refine Below.trans ?_ (Below.mono (by assumption) ?_)) | (with_reducible exact Nat.le_refl _) | (simp; done) | omega | (simp at *; omega)))))).mono ?_; rintro e w1 ⟨rfl, o1, s1⟩
  have S1 := Lib.hid (fx_alloc s1)
  clear s1
  go_wp2
  go_returns
  exact ⟨rfl, o1, S1.out⟩
theorem heldMachine_any (R C : Int) (A : Option Addr) (cap n : Nat) (p q bl rd nx : Int) (k : Int) (w : World) (hn : n ≤ 1048576) (h0 : 0 ≤ k) (h1 : k ≤ 16777216) (ho : Own w A 27 (marks k (2 * n))) :
    Calls Try.prog 45 #[.agg #[.int .i64 R, .int .i64 C, .slice A n cap, .int .i64 p, .int .i64 q, .int .i64 bl, .int .i64 rd, .int .i64 nx], .int .i64 k] w fun e w' => e = .returned (.int .i64 (k + 2 * n)) ∧ Below w.heap.size w w' := by
  go_enter Try.func45, Try.ntmps45
  go_wp2_with fail
  refine (heldBoard_any _ _ _ _ n _ _ hn h0 h1 (ho.keep (by (repeat' (first | (with_reducible exact Below.refl _ _) | (with_reducible assumption) | (with_reducible refine Below.alloc ?_ ?_ _) | (with_reducible refine Below.setCell ?_ ?_ _) | (with_reducible refine Below.drew ?_) | (with_reducible refine below_drewN ?_ _) | (with_reducible refine Below.trans ?_ (Below.mono (by assumption) ?_)) | (with_reducible exact Nat.le_refl _) | (simp; done) | omega | (simp at *; omega)))))).mono ?_; rintro e w1 ⟨rfl, b1⟩
  go_wp2
  go_returns
  exact ⟨rfl, by (repeat' (first | (with_reducible exact Below.refl _ _) | (with_reducible assumption) | (with_reducible refine Below.alloc ?_ ?_ _) | (with_reducible refine Below.setCell ?_ ?_ _) | (with_reducible refine Below.drew ?_) | (with_reducible refine below_drewN ?_ _) | (with_reducible refine Below.trans ?_ (Below.mono (by assumption) ?_)) | (with_reducible exact Nat.le_refl _) | (simp; done) | omega | (simp at *; omega)))⟩
theorem array8 {α : Type} {cs : Array α} (h : cs.size = 8) : ∃ c0 c1 c2 c3 c4 c5 c6 c7, cs = #[c0, c1, c2, c3, c4, c5, c6, c7] := by
  obtain ⟨l⟩ := cs
  match l, h with
  | [c0, c1, c2, c3, c4, c5, c6, c7], _ => exact ⟨c0, c1, c2, c3, c4, c5, c6, c7, rfl⟩
set_option maxRecDepth 100000 in
theorem open_board_f {H : Type} {enc : TypeId × Value → H} {W : World} {cs : List Value} {x : DataW H × List MemPlace} {fuel : Nat}
    (hf : DataW.trod enc Try.prog W 0 (fun _ => true) true fuel 50 cs = some x) :
    ∃ (R C : Int) (A : Option Addr) (cap : Nat) (l : List (Int × Int)), cs = [.int .i64 R, .int .i64 C, .slice A l.length cap] ∧ l.length ≤ maxLen ∧ Rd W W.heap.size A (flat l) := by
  obtain ⟨y0, y1, y2, n, -, hl, h0, h1, h2⟩ := Go.Deep.trod_struct3 Try.underlying50 hf
  rw [show Try.prog.cellsOf 50 = 3 by kernel_rfl] at hl
  rw [show Try.prog.cellsOf 3 = 1 by kernel_rfl] at h0 h1
  rw [show Try.prog.cellsOf 48 = 1 by kernel_rfl] at h2
  match cs, hl with
  | [c0, c1, c2], _ =>
    obtain ⟨a, e0, _, _⟩ := DataW.trod_int Try.underlying3 h0
    obtain ⟨b, e1, _, _⟩ := DataW.trod_int Try.underlying3 h1
    obtain ⟨A, cap, l, e2, hm, hr⟩ := open_cells_f (v := c2) h2
    have f0 : c0 = .int .i64 a := List.head_eq_of_cons_eq e0
    have f1 : c1 = .int .i64 b := List.head_eq_of_cons_eq e1
    exact ⟨a, b, A, cap, l, by rw [f0, f1, e2], hm, hr⟩
set_option maxRecDepth 100000 in
theorem open_machine {H : Type} {enc : TypeId × Value → H} {W : World} {r : Reach} {b0 : Nat} {v : Value} {d : DataW H} {ps : List MemPlace}
    (hv : Value.okWide Try.prog W r b0 52 v) (h : DataW.Trod enc Try.prog W 0 (fun _ => true) true 52 v d ps) :
    ∃ (R C : Int) (A : Option Addr) (cap : Nat) (l : List (Int × Int)) (p q bl rd nx : Int), v = .agg #[.int .i64 R, .int .i64 C, .slice A l.length cap, .int .i64 p, .int .i64 q, .int .i64 bl, .int .i64 rd, .int .i64 nx] ∧ l.length ≤ maxLen ∧ Rd W W.heap.size A (flat l) := by
  obtain ⟨cs, rfl, hsz⟩ := okWide_struct Try.underlying52 hv
  obtain ⟨c0, c1, c2, c3, c4, c5, c6, c7, rfl⟩ := array8 (hsz.trans (by kernel_rfl))
  obtain ⟨fuel, hf⟩ := h
  obtain ⟨xs, n, -, -, -, hlen, hF⟩ := DataW.trod_struct Try.underlying52 hf
  have k1 : Try.prog.cellsOf 3 = 1 := by kernel_rfl
  have k3 : Try.prog.cellsOf 50 = 3 := by kernel_rfl
  obtain ⟨x0, x1, x2, x3, x4, x5, rfl⟩ : ∃ x0 x1 x2 x3 x4 x5, xs = [x0, x1, x2, x3, x4, x5] := by
    match xs, hlen with
    | [x0, x1, x2, x3, x4, x5], _ => exact ⟨x0, x1, x2, x3, x4, x5, rfl⟩
  have h0 : DataW.trod enc Try.prog W 0 (fun _ => true) true n 50 (List.take (Try.prog.cellsOf 50) (List.drop 0 [c0, c1, c2, c3, c4, c5, c6, c7])) = some x0 := hF 0 _ rfl
  have h1 : DataW.trod enc Try.prog W 0 (fun _ => true) true n 3 (List.take (Try.prog.cellsOf 3) (List.drop 3 [c0, c1, c2, c3, c4, c5, c6, c7])) = some x1 := hF 1 _ rfl
  have h2 : DataW.trod enc Try.prog W 0 (fun _ => true) true n 3 (List.take (Try.prog.cellsOf 3) (List.drop 4 [c0, c1, c2, c3, c4, c5, c6, c7])) = some x2 := hF 2 _ rfl
  have h3 : DataW.trod enc Try.prog W 0 (fun _ => true) true n 3 (List.take (Try.prog.cellsOf 3) (List.drop 5 [c0, c1, c2, c3, c4, c5, c6, c7])) = some x3 := hF 3 _ rfl
  have h4 : DataW.trod enc Try.prog W 0 (fun _ => true) true n 3 (List.take (Try.prog.cellsOf 3) (List.drop 6 [c0, c1, c2, c3, c4, c5, c6, c7])) = some x4 := hF 4 _ rfl
  have h5 : DataW.trod enc Try.prog W 0 (fun _ => true) true n 3 (List.take (Try.prog.cellsOf 3) (List.drop 7 [c0, c1, c2, c3, c4, c5, c6, c7])) = some x5 := hF 5 _ rfl
  rw [k3] at h0
  rw [k1] at h1 h2 h3 h4 h5
  obtain ⟨R, C, A, cap, l, e0, hm, hr⟩ := open_board_f (cs := [c0, c1, c2]) h0
  obtain ⟨a1, e1, _, _⟩ := DataW.trod_int (cs := [c3]) Try.underlying3 h1
  obtain ⟨a2, e2, _, _⟩ := DataW.trod_int (cs := [c4]) Try.underlying3 h2
  obtain ⟨a3, e3, _, _⟩ := DataW.trod_int (cs := [c5]) Try.underlying3 h3
  obtain ⟨a4, e4, _, _⟩ := DataW.trod_int (cs := [c6]) Try.underlying3 h4
  obtain ⟨a5, e5, _, _⟩ := DataW.trod_int (cs := [c7]) Try.underlying3 h5
  injection e0 with f0 e0
  injection e0 with f1 e0
  injection e0 with f2 e0
  have g1 : c3 = .int .i64 a1 := List.head_eq_of_cons_eq e1
  have g2 : c4 = .int .i64 a2 := List.head_eq_of_cons_eq e2
  have g3 : c5 = .int .i64 a3 := List.head_eq_of_cons_eq e3
  have g4 : c6 = .int .i64 a4 := List.head_eq_of_cons_eq e4
  have g5 : c7 = .int .i64 a5 := List.head_eq_of_cons_eq e5
  exact ⟨R, C, A, cap, l, a1, a2, a3, a4, a5, by rw [f0, f1, f2, g1, g2, g3, g4, g5], hm, hr⟩
end Go.Proofs.Ytpfjbecpfdgnpaa
namespace Go.Proofs.Ytpfjbecpfdgnpaa
open Go.ChangeShapes Go.WideShapes Go.ChangeAt Go.RowKit Go.Joins Go.Deep
set_option linter.unusedSimpArgs false
set_option linter.unusedVariables false
set_option maxRecDepth 100000
set_option maxHeartbeats 400000
def goN (k s d : Int) : Int := if k = 1 then -1 else if k = 2 then 1 else if k = 3 ∨ k = 6 then 2 * s - 1 else if k = 4 then -d else 0
def goB (k s d : Int) : Bool := good k s && decide (-1 ≤ d ∧ d ≤ 1 ∧ k ≠ 5)
theorem spec_paGoes (a b d : Int) (h : good a b = true) (h1 : -1 ≤ d) (h2 : d ≤ 1) (w : World) :
    Calls Try.prog 131 #[.agg #[.int .i64 a, .int .i64 b], .int .i64 d] w fun e w' => e = .returned (.int .i64 (goN a b d)) ∧ Below w.heap.size w w' := by
  have h3 : 0 ≤ b := by unfold good at h; simp at h; omega
  have h4 : b ≤ 1 := by unfold good at h; simp at h; omega
  clear h
  go_enter Try.func131, Try.ntmps131
  go_wp2
  all_goals go_returns
  all_goals refine ⟨ret_int (by unfold goN; (simp only [beq_iff_eq, beq_eq_false_iff_ne, ne_eq] at *; (repeat' split) <;> first | rfl | omega)), by (repeat' (first | (with_reducible exact Below.refl _ _) | (with_reducible assumption) | (with_reducible refine Below.alloc ?_ ?_ _) | (with_reducible refine Below.setCell ?_ ?_ _) | (with_reducible refine Below.drew ?_) | (with_reducible refine below_drewN ?_ _) | (with_reducible refine Below.trans ?_ (Below.mono (by assumption) ?_)) | (with_reducible exact Nat.le_refl _) | (simp; done) | omega | (simp at *; omega)))⟩
theorem ret_intb {a c : Int} {x y : Bool} (h : x = y) (h1 : y = true → a = c) (h3 : y = false → a = 0) :
    Ending.returned (.tuple #[.int .i64 a, .bool x]) = .returned (.tuple #[.int .i64 (selI y c), .bool y]) := by
  subst h
  cases x
  · rw [h3 rfl]; rfl
  · rw [h1 rfl]; rfl
theorem impl_GoesTo (a b d : Int) (w : World) :
    Calls Try.prog 137 #[.agg #[.int .i64 a, .int .i64 b], .int .i64 d] w fun e w' => e = .returned (.tuple #[.int .i64 (selI (goB a b d) (goN a b d)), .bool (goB a b d)]) ∧ Below w.heap.size w w' := by
  go_enter Try.func137, Try.ntmps137
  go_wp2_with (first | (go_at_call 70; refine (impl_IsCell _ _ _).mono ?_; rintro e w1 ⟨rfl, bw1⟩; obtain ⟨cw1, fw1⟩ := bcell bw1; have zw10 : w.heap.size < w1.heap.size := (by have := bw1.size; first | omega | (simp at this; omega))) | (go_at_call 139; go_in) | (go_at_call 142; go_in) | (go_at_call 143; go_in) | (go_at_call 144; go_in) | (go_at_call 145; go_in))
  all_goals go_returns
  all_goals (have hg := (show good a b = true → (b = 0 ∨ b = 1) from (by unfold good; simp; omega)))
  all_goals refine ⟨by (refine ret_intb ?_ ?_ ?_ <;> first | rfl | (intros; rfl) | (unfold goB; simp_all; done) | (unfold goB; simp_all; omega) | (intro _; unfold goN; simp_all; done) | (intro _; unfold goN; simp_all; omega)), by (repeat' (first | (with_reducible exact Below.refl _ _) | (with_reducible assumption) | (with_reducible refine Below.alloc ?_ ?_ _) | (with_reducible refine Below.setCell ?_ ?_ _) | (with_reducible refine Below.drew ?_) | (with_reducible refine below_drewN ?_ _) | (with_reducible refine Below.trans ?_ (Below.mono (by assumption) ?_)) | (with_reducible exact Nat.le_refl _) | (simp; done) | omega | (simp at *; omega)))⟩
end Go.Proofs.Ytpfjbecpfdgnpaa
namespace Go.Proofs.Ytpfjbecpfdgnpaa
open Go.ChangeShapes Go.WideShapes Go.ChangeAt Go.RowKit Go.Joins Go.Deep
set_option linter.unusedSimpArgs false
set_option linter.unusedVariables false
set_option maxRecDepth 100000
set_option maxHeartbeats 400000
/-- A cell that may still be found: it joins, is in no group yet, and not found. -/
def opn (J : Nat → Bool) (v q : List Nat) (i : Nat) : Bool := J i && !v.contains i && !q.contains i
def bst (J : Nat → Bool) (v q : List Nat) (i : Nat) : List Nat := if opn J v q i then q ++ [i] else q
def brn (J : Nat → Bool) (v q : List Nat) (l : List Nat) : List Nat := l.foldl (bst J v) q
def bro (J : Nat → Bool) (near : Nat → List Nat) (v q : List Nat) (k : Nat) : List Nat :=
  match q[k]? with
  | some x => brn J v q (near x)
  | none => q
def brs (J : Nat → Bool) (near : Nat → List Nat) (v q : List Nat) : Nat → List Nat
  | 0 => q
  | k + 1 => bro J near v (brs J near v q k) k
theorem brn_snoc (J : Nat → Bool) (v q l : List Nat) (x : Nat) : brn J v q (l ++ [x]) = bst J v (brn J v q l) x := by
  unfold brn; rw [List.foldl_append]; rfl
theorem brn_take (J : Nat → Bool) (v q l : List Nat) (k : Nat) (h : k < l.length) : brn J v q (l.take (k + 1)) = bst J v (brn J v q (l.take k)) l[k] := by
  rw [List.take_succ_eq_append_getElem h, brn_snoc]
theorem brs_at (J : Nat → Bool) (near : Nat → List Nat) (v q : List Nat) (k : Nat) (h : k < (brs J near v q k).length) : brs J near v q (k + 1) = brn J v (brs J near v q k) (near (brs J near v q k)[k]) := by
  show bro J near v (brs J near v q k) k = _
  unfold bro
  rw [List.getElem?_eq_getElem h]
theorem brs_stop (J : Nat → Bool) (near : Nat → List Nat) (v q : List Nat) (k : Nat) (h : (brs J near v q k).length ≤ k) : ∀ m, k ≤ m → brs J near v q m = brs J near v q k := by
  intro m hm
  induction m with
  | zero => rw [show k = 0 by omega]
  | succ m ih =>
    rcases Nat.eq_or_lt_of_le hm with e | e
    · rw [e]
    · have e1 := ih (by omega)
      show bro J near v (brs J near v q m) m = _
      rw [e1]
      unfold bro
      rw [List.getElem?_eq_none (by omega)]
/-! ### how many -/
def cntp (p : Nat → Bool) : Nat → Nat
  | 0 => 0
  | n + 1 => cntp p n + (if p n then 1 else 0)
theorem cntp_le (p : Nat → Bool) (n : Nat) : cntp p n ≤ n := by
  induction n with
  | zero => exact Nat.le_refl _
  | succ n ih =>
    show cntp p n + (if p n then 1 else 0) ≤ n + 1
    split <;> omega
theorem cntp_congr {p r : Nat → Bool} {n : Nat} (h : ∀ j, j < n → p j = r j) : cntp p n = cntp r n := by
  induction n with
  | zero => rfl
  | succ n ih =>
    show cntp p n + (if p n then 1 else 0) = cntp r n + (if r n then 1 else 0)
    rw [ih (fun j hj => h j (by omega)), h n (by omega)]
theorem cntp_drop {p r : Nat → Bool} {i n : Nat} (hi : i < n) (hp : p i = true) (hr : r i = false) (h : ∀ j, j ≠ i → r j = p j) : cntp p n = cntp r n + 1 := by
  induction n with
  | zero => omega
  | succ n ih =>
    show cntp p n + (if p n then 1 else 0) = cntp r n + (if r n then 1 else 0) + 1
    by_cases e : n = i
    · subst e
      rw [hp, hr, cntp_congr (fun j hj => (h j (by omega)).symm)]
      simp
    · rw [ih (by omega), h n e]
      omega
theorem opn_snoc (J : Nat → Bool) (v q : List Nat) (x j : Nat) : opn J v (q ++ [x]) j = (opn J v q j && !(j == x)) := by
  unfold opn
  rw [List.contains_eq_any_beq, List.contains_eq_any_beq, List.contains_eq_any_beq, List.any_append, Bool.not_or]
  simp [Bool.and_assoc]
/-- What has been found and what may still be found are no more than n together. -/
def Few (J : Nat → Bool) (v : List Nat) (n : Nat) (q : List Nat) : Prop := q.length + cntp (opn J v q) n ≤ n
theorem few_bst {J : Nat → Bool} {v q : List Nat} {n i : Nat} (h : Few J v n q) (hi : i < n) : Few J v n (bst J v q i) := by
  unfold bst
  split
  · rename_i ho
    unfold Few at h ⊢
    have := cntp_drop (p := opn J v q) (r := opn J v (q ++ [i])) hi ho (by rw [opn_snoc]; simp) (fun j hj => by rw [opn_snoc]; simp [hj])
    rw [List.length_append, List.length_singleton]
    omega
  · exact h
theorem few_brn {J : Nat → Bool} {v : List Nat} {n : Nat} : ∀ (l : List Nat) (q : List Nat), (∀ x ∈ l, x < n) → Few J v n q → Few J v n (brn J v q l)
  | [], q, _, h => h
  | x :: l, q, hl, h => few_brn l (bst J v q x) (fun y hy => hl y (List.mem_cons_of_mem _ hy)) (few_bst h (hl x (List.mem_cons_self ..)))
theorem mem_bst {J : Nat → Bool} {v q : List Nat} {i x : Nat} : x ∈ bst J v q i ↔ x ∈ q ∨ (x = i ∧ opn J v q i = true) := by
  unfold bst
  split
  · rename_i h; rw [List.mem_append, List.mem_singleton, h]; simp
  · rename_i h; simp [h]
theorem mem_brn_le {J : Nat → Bool} {v : List Nat} {x : Nat} : ∀ (l q : List Nat), x ∈ q → x ∈ brn J v q l
  | [], q, h => h
  | y :: l, q, h => mem_brn_le l (bst J v q y) (mem_bst.2 (.inl h))
theorem opn_iff {J : Nat → Bool} {v q : List Nat} {i : Nat} : opn J v q i = true ↔ J i = true ∧ i ∉ v ∧ i ∉ q := by
  unfold opn
  simp [and_assoc]
theorem mem_brn_open {J : Nat → Bool} {v : List Nat} {x : Nat} (hJ : J x = true) (hv : x ∉ v) : ∀ (l q : List Nat), x ∈ l → x ∈ brn J v q l
  | [], q, h => absurd h (List.not_mem_nil)
  | y :: l, q, h => by
    show x ∈ brn J v (bst J v q y) l
    by_cases hq : x ∈ bst J v q y
    · exact mem_brn_le l _ hq
    · rcases List.mem_cons.1 h with e | e
      · subst e
        exact absurd (mem_bst.2 (by
          by_cases hx : x ∈ q
          · exact .inl hx
          · exact .inr ⟨rfl, opn_iff.2 ⟨hJ, hv, hx⟩⟩)) hq
      · exact mem_brn_open hJ hv l _ e
theorem brn_prefix {J : Nat → Bool} {v : List Nat} : ∀ (l q : List Nat), q <+: brn J v q l
  | [], q => List.prefix_refl q
  | y :: l, q => by
    refine List.IsPrefix.trans ?_ (brn_prefix l (bst J v q y))
    unfold bst
    split
    · exact List.prefix_append _ _
    · exact List.prefix_refl _
/-- A property of lists that a step keeps is one of the whole search. -/
theorem brn_keeps {J : Nat → Bool} {v : List Nat} {M : List Nat → Prop} {D : Nat → Prop} (hM : ∀ q i, D i → M q → M (bst J v q i)) : ∀ (l q : List Nat), (∀ x ∈ l, D x) → M q → M (brn J v q l)
  | [], q, _, h => h
  | x :: l, q, hl, h => brn_keeps hM l (bst J v q x) (fun y hy => hl y (List.mem_cons_of_mem _ hy)) (hM q x (hl x (List.mem_cons_self ..)) h)
theorem brs_succ_or (J : Nat → Bool) (near : Nat → List Nat) (v q : List Nat) (k : Nat) : ((brs J near v q k).length ≤ k ∧ brs J near v q (k + 1) = brs J near v q k) ∨ ∃ h : k < (brs J near v q k).length, brs J near v q (k + 1) = brn J v (brs J near v q k) (near (brs J near v q k)[k]) := by
  rcases Nat.lt_or_ge k (brs J near v q k).length with h | h
  · exact .inr ⟨h, brs_at J near v q k h⟩
  · exact .inl ⟨h, brs_stop J near v q k h (k + 1) (by omega)⟩
theorem brs_few {J : Nat → Bool} {near : Nat → List Nat} {v q : List Nat} {n : Nat} (hn : ∀ x, x < n → ∀ y ∈ near x, y < n) (hq : ∀ x ∈ q, x < n) (h : Few J v n q) : ∀ k, Few J v n (brs J near v q k) ∧ ∀ x ∈ brs J near v q k, x < n := by
  intro k
  induction k with
  | zero => exact ⟨h, hq⟩
  | succ k ih =>
    rcases brs_succ_or J near v q k with ⟨hz, e⟩ | ⟨hk, e⟩
    · rw [e]; exact ih
    · rw [e]
      have hx := ih.2 _ (List.getElem_mem hk)
      refine ⟨few_brn _ _ (hn _ hx) ih.1, brn_keeps (M := fun q => ∀ x ∈ q, x < n) (D := fun i => i < n) ?_ _ _ (hn _ hx) ih.2⟩
      intro q i hi hM x hx
      rcases mem_bst.1 hx with h1 | ⟨rfl, _⟩
      · exact hM x h1
      · exact hi
theorem few_len {J : Nat → Bool} {v q : List Nat} {n : Nat} (h : Few J v n q) : q.length ≤ n := by unfold Few at h; omega
theorem few_one {J : Nat → Bool} {v : List Nat} {n i : Nat} (hi : i < n) (ho : opn J v [] i = true) : Few J v n [i] := by
  have h := few_bst (J := J) (v := v) (q := []) (n := n) (i := i) (by unfold Few; have := cntp_le (opn J v []) n; simpa using this) hi
  unfold bst at h
  rw [ho] at h
  exact h
/-- The search has come to its end when its next cell is none: no further round turns it. -/
theorem brs_end {J : Nat → Bool} {near : Nat → List Nat} {v q : List Nat} {k n : Nat} (h : (brs J near v q k).length ≤ k) (hk : k ≤ n) : brs J near v q k = brs J near v q n := (brs_stop J near v q k h n hk).symm
theorem brs_le {J : Nat → Bool} {near : Nat → List Nat} {v q : List Nat} {x : Nat} (h : x ∈ q) : ∀ k, x ∈ brs J near v q k := by
  intro k
  induction k with
  | zero => exact h
  | succ k ih =>
    rcases brs_succ_or J near v q k with ⟨hz, e⟩ | ⟨hk, e⟩
    · rw [e]; exact ih
    · rw [e]; exact mem_brn_le _ _ ih
/-- Whatever is found joins and was in no group. -/
theorem brs_joins {J : Nat → Bool} {near : Nat → List Nat} {v q : List Nat} (h : ∀ x ∈ q, J x = true ∧ x ∉ v) : ∀ k, ∀ x ∈ brs J near v q k, J x = true ∧ x ∉ v := by
  intro k
  induction k with
  | zero => exact h
  | succ k ih =>
    rcases brs_succ_or J near v q k with ⟨hz, e⟩ | ⟨hk, e⟩
    · rw [e]; exact ih
    · rw [e]
      refine brn_keeps (M := fun q => ∀ x ∈ q, J x = true ∧ x ∉ v) (D := fun _ => True) ?_ _ _ (fun _ _ => trivial) ih
      intro q i _ hM x hx
      rcases mem_bst.1 hx with h1 | ⟨rfl, h1⟩
      · exact hM x h1
      · exact ⟨(opn_iff.1 h1).1, (opn_iff.1 h1).2.1⟩
theorem brs_nodup {J : Nat → Bool} {near : Nat → List Nat} {v q : List Nat} (h : q.Nodup) : ∀ k, (brs J near v q k).Nodup := by
  intro k
  induction k with
  | zero => exact h
  | succ k ih =>
    rcases brs_succ_or J near v q k with ⟨hz, e⟩ | ⟨hk, e⟩
    · rw [e]; exact ih
    · rw [e]
      refine brn_keeps (M := List.Nodup) (D := fun _ => True) ?_ _ _ (fun _ _ => trivial) ih
      intro q i _ hM
      unfold bst
      split
      · rename_i ho
        rw [List.nodup_append]
        refine ⟨hM, by simp, ?_⟩
        intro a ha b hb e
        rw [List.mem_singleton] at hb
        subst hb; subst e
        exact (opn_iff.1 ho).2.2 ha
      · exact hM
/-- It stays in what is closed. -/
theorem brs_inside {J : Nat → Bool} {near : Nat → List Nat} {v q : List Nat} {S : Nat → Prop} (hS : ∀ x, S x → ∀ y ∈ near x, J y = true → y ∉ v → S y) (h : ∀ x ∈ q, S x) : ∀ k, ∀ x ∈ brs J near v q k, S x := by
  intro k
  induction k with
  | zero => exact h
  | succ k ih =>
    rcases brs_succ_or J near v q k with ⟨hz, e⟩ | ⟨hk, e⟩
    · rw [e]; exact ih
    · rw [e]
      have hx := ih _ (List.getElem_mem hk)
      refine brn_keeps (M := fun q => ∀ x ∈ q, S x) (D := fun y => y ∈ near (brs J near v q k)[k]) ?_ _ _ (fun _ h => h) ih
      intro q i hi hM x hx'
      rcases mem_bst.1 hx' with h1 | ⟨rfl, h1⟩
      · exact hM x h1
      · exact hS _ hx x hi (opn_iff.1 h1).1 (opn_iff.1 h1).2.1
theorem brs_prefix (J : Nat → Bool) (near : Nat → List Nat) (v q : List Nat) (k : Nat) : brs J near v q k <+: brs J near v q (k + 1) := by
  rcases brs_succ_or J near v q k with ⟨hz, e⟩ | ⟨hk, e⟩
  · rw [e]; exact List.prefix_refl _
  · rw [e]; exact brn_prefix _ _
theorem brs_done {J : Nat → Bool} {near : Nat → List Nat} {v q : List Nat} : ∀ k m, m < k → ∀ hm : m < (brs J near v q k).length, ∀ y ∈ near (brs J near v q k)[m], J y = true → y ∉ v → y ∈ brs J near v q k := by
  intro k
  induction k with
  | zero => intro m hm; omega
  | succ k ih =>
    intro m hmk hm y hy hJ hv
    have hp := brs_prefix J near v q k
    rcases brs_succ_or J near v q k with ⟨hz, e⟩ | ⟨hk, e⟩
    · rcases Nat.lt_or_ge m k with h1 | h1
      · have hm' : m < (brs J near v q k).length := by rw [← e]; exact hm
        have e2 : (brs J near v q (k + 1))[m] = (brs J near v q k)[m] := by simp [e]
        rw [e2] at hy
        rw [e]
        exact ih m h1 hm' y hy hJ hv
      · have : m < (brs J near v q k).length := by rw [← e]; exact hm
        omega
    · rcases Nat.lt_or_ge m k with h1 | h1
      · have hm' : m < (brs J near v q k).length := by omega
        have e2 : (brs J near v q (k + 1))[m] = (brs J near v q k)[m] := (List.IsPrefix.getElem hp hm').symm
        rw [e2] at hy
        have := ih m h1 hm' y hy hJ hv
        rw [e]
        exact mem_brn_le _ _ this
      · have e3 : m = k := by omega
        subst e3
        have e2 : (brs J near v q (m + 1))[m] = (brs J near v q m)[m] := (List.IsPrefix.getElem hp hk).symm
        rw [e2] at hy
        rw [e]
        exact mem_brn_open hJ hv _ _ hy
/-- Behind the whole search: a neighbour that joins has been found too, or is in a group. -/
theorem brs_closed {J : Nat → Bool} {near : Nat → List Nat} {v q : List Nat} {n : Nat} (hl : (brs J near v q n).length ≤ n) : ∀ x ∈ brs J near v q n, ∀ y ∈ near x, J y = true → y ∉ v → y ∈ brs J near v q n := by
  intro x hx y hy hJ hv
  obtain ⟨m, hm, rfl⟩ := List.getElem_of_mem hx
  exact brs_done n m (by omega) hm y hy hJ hv
/-! ### the groups -/
def grp (J : Nat → Bool) (near : Nat → List Nat) (n : Nat) (G : List (List Nat)) (i : Nat) : List Nat := brs J near G.flatten [i] n
def gst (J : Nat → Bool) (near : Nat → List Nat) (n : Nat) (G : List (List Nat)) (i : Nat) : List (List Nat) := if opn J G.flatten [] i then G ++ [grp J near n G i] else G
def gat (J : Nat → Bool) (near : Nat → List Nat) (n : Nat) : Nat → List (List Nat)
  | 0 => []
  | k + 1 => gst J near n (gat J near n k) k
/-- The number of the group of a cell, or -1. -/
def num : List (List Nat) → Nat → Nat → Int
  | [], _, _ => -1
  | g :: G, c, j => if g.contains j then (c : Int) else num G (c + 1) j
theorem num_neg {j : Nat} : ∀ (G : List (List Nat)) (c : Nat), num G c j < 0 ↔ j ∉ G.flatten
  | [], c => by simp [num]
  | g :: G, c => by
    unfold num
    have ih := num_neg (j := j) G (c + 1)
    by_cases h : j ∈ g
    · simp [h]
    · simp only [List.contains_iff_mem, h, if_false, List.flatten_cons, List.mem_append, false_or]
      exact ih
theorem num_ge {j : Nat} : ∀ (G : List (List Nat)) (c : Nat), -1 ≤ num G c j ∧ num G c j < c + G.length
  | [], c => by constructor <;> (simp [num]; try omega)
  | g :: G, c => by
    unfold num
    have ih := num_ge (j := j) G (c + 1)
    rw [List.length_cons]
    split
    · constructor <;> omega
    · constructor <;> omega
theorem num_lone {j : Nat} (G : List (List Nat)) (c : Nat) (h : num G c j < 0) : num G c j = -1 := by have := (num_ge (j := j) G c).1; omega
theorem num_snoc {j : Nat} (q : List Nat) : ∀ (G : List (List Nat)) (c : Nat), num (G ++ [q]) c j = if j ∈ G.flatten then num G c j else if j ∈ q then ((c + G.length : Nat) : Int) else -1
  | [], c => by simp [num]
  | g :: G, c => by
    have ih := num_snoc (j := j) q G (c + 1)
    show (if g.contains j then (c : Int) else num (G ++ [q]) (c + 1) j) = _
    rw [ih]
    by_cases h : j ∈ g
    · simp [h, num]
    · simp only [List.contains_iff_mem, h, if_false, List.flatten_cons, List.mem_append, false_or, num, List.length_cons]
      rw [show c + 1 + G.length = c + (G.length + 1) by omega]
theorem num_from {j : Nat} : ∀ (G : List (List Nat)) (c : Nat), num G c j = -1 ∨ (c : Int) ≤ num G c j
  | [], c => .inl rfl
  | g :: G, c => by
    unfold num
    split
    · exact .inr (Int.le_refl _)
    · rcases num_from (j := j) G (c + 1) with h | h
      · exact .inl h
      · exact .inr (by omega)
theorem num_mem {j : Nat} : ∀ (G : List (List Nat)) (c k : Nat), num G c j = ((c + k : Nat) : Int) → ∃ g, G[k]? = some g ∧ j ∈ g
  | [], c, k, h => by simp [num] at h; omega
  | g :: G, c, k, h => by
    unfold num at h
    split at h
    · rename_i hg
      have : k = 0 := by omega
      subst this
      exact ⟨g, rfl, by simpa using hg⟩
    · cases k with
      | zero =>
        have := (num_ge (j := j) G (c + 1))
        rcases Int.lt_or_le (num G (c + 1) j) 0 with h1 | h1
        · omega
        · exfalso
          have h2 := num_from (j := j) G (c + 1)
          omega
      | succ k =>
        obtain ⟨g', h1, h2⟩ := num_mem G (c + 1) k (by rw [h]; omega)
        exact ⟨g', by simpa using h1, h2⟩
end Go.Proofs.Ytpfjbecpfdgnpaa
namespace Go.Proofs.Ytpfjbecpfdgnpaa
open Go.ChangeShapes Go.WideShapes Go.ChangeAt Go.RowKit Go.Joins Go.Deep
set_option linter.unusedSimpArgs false
set_option linter.unusedVariables false
set_option maxRecDepth 100000
set_option maxHeartbeats 400000
open Go.Maps
theorem keysLaw : Maps.Keyed Try.prog 3 := Maps.int_keyed Try.underlying3
theorem zeroBool (w : World) : (zeroValue 4).run Try.prog w = .ok (.bool false) w := by kernel_rfl
theorem plain_bool_inv {v : Value} {x : Bool} {ps : List MemPlace} (h : plainElem (H := Unit) Try.prog 4 v = some (.lit (.bool x), ps)) : v = .bool x := by
  unfold plainElem at h
  rw [Try.underlying4] at h
  cases v <;> simp at h
  rw [h.1]
def kyAt (i : Nat) : Lit := .int .i64 (i : Int)
theorem kyAt_of {i : Nat} (h : i ≤ 1048576) : keyOf Try.prog 3 (.int .i64 (i : Int)) = some (kyAt i) := Maps.keyOf_int_mk Try.underlying3 (WalkArith.wf_i64 (by omega))
theorem kyAt_key (i : Nat) : WideAt.IsKeyLit (kyAt i) := trivial
theorem kyAt_ne {i j : Nat} (h : j ≠ i) : kyAt j ≠ kyAt i := by
  intro e
  unfold kyAt at e
  injection e with _ e
  omega
/-- Block B is such a map: at most n entries; true just at the numbers of o. -/
def Keys (w : World) (B n : Nat) (o : Nat → Bool) : Prop :=
  ∃ D : DataW Unit, w.ownsMap Try.prog 3 (plainElem Try.prog 4) B n D ∧ ∀ i, i ≤ 1048576 → D.atKey (kyAt i) (.lit (.bool false)) = .lit (.bool (o i))
theorem Keys.lt {w : World} {B n : Nat} {o : Nat → Bool} (h : Keys w B n o) : B < w.heap.size := by
  obtain ⟨D, h, _⟩ := h
  exact h.lt
theorem Keys.congr {w : World} {B n : Nat} {o o' : Nat → Bool} (h : Keys w B n o) (he : ∀ i, i ≤ 1048576 → o i = o' i) : Keys w B n o' := by
  obtain ⟨D, h, ha⟩ := h
  exact ⟨D, h, fun i hi => by rw [ha i hi, he i hi]⟩
theorem Keys.mono {w : World} {B n m : Nat} {o : Nat → Bool} (h : Keys w B n o) (hm : n ≤ m) : Keys w B m o := by
  obtain ⟨D, h, ha⟩ := h
  exact ⟨D, h.mono hm, ha⟩
theorem Keys.kept {w w' : World} {B n : Nat} {o : Nat → Bool} {row : Option Nat} (h : Keys w B n o) (hg : w.grownBy w' row) (hne : some B ≠ row) : Keys w' B n o := by
  obtain ⟨D, h, ha⟩ := h
  exact ⟨D, h.kept hg hne, ha⟩
theorem Keys.below {w w' : World} {B n : Nat} {o : Nat → Bool} (h : Keys w B n o) (hb : Below w.heap.size w w') : Keys w' B n o :=
  h.kept (row := none) ⟨hb.os, hb.tape, hb.output, hb.size, fun i hi _ => hb.block i hi⟩ (by simp)
theorem Keys.alloc {w : World} {B n : Nat} {o : Nat → Bool} (h : Keys w B n o) (x : Obj) : Keys (w.alloc x) B n o := h.kept (World.grownBy_alloc w x none) (by simp)
theorem Keys.setCell {w : World} {B n : Nat} {o : Nat → Bool} (h : Keys w B n o) {a : Addr} (ha : B ≠ a.block) (u : Value) : Keys (w.setCell a u) B n o := by
  obtain ⟨D, h, hd⟩ := h
  exact ⟨D, h.setCell ha u, hd⟩
theorem Keys.row {w : World} {B n : Nat} {o : Nat → Bool} (h : Keys w B n o) {base : Nat} {e : TypeId} {size m : Nat} {v : Value} {xs : List Value} (hr : w.ownsRow base e size v m xs) : some B ≠ v.ownBlock := by
  obtain ⟨D, ⟨es, clock, hb, _⟩, _⟩ := h
  rcases hr.2 with ⟨rfl, _⟩ | ⟨g, cap, cur, rfl, _, hg, _⟩
  · simp [Value.ownBlock]
  · intro e1
    have : B = g := by simpa [Value.ownBlock] using e1
    subst this
    rw [hb] at hg
    cases hg
theorem Keys.whole {w : World} {B n : Nat} {o : Nat → Bool} (h : Keys w B n o) {g : Nat} {t : TypeId} {xs : List Value} (hw : Whole w g t xs) : B ≠ g := by
  obtain ⟨D, ⟨es, clock, hb, _⟩, _⟩ := h
  intro e
  subst e
  unfold Whole at hw
  rw [hb] at hw
  cases hw
theorem Keys.made (w : World) : Keys (w.alloc (.map #[] 0)) w.heap.size 0 (fun _ => false) :=
  ⟨.map [], World.ownsMap_made _ _ _ _, fun _ _ => rfl⟩
theorem Keys.look {w : World} {B n : Nat} {o : Nat → Bool} (h : Keys w B n o) {i : Nat} (hi : i ≤ 1048576) :
    (Instr.lookup 164 (.map (some B)) (.int .i64 (i : Int)) false).run Try.prog w = .ok (.bool (o i)) w := by
  obtain ⟨D, h, ha⟩ := h
  obtain ⟨v, ps, hrun, hv⟩ := h.lookup keysLaw Try.underlying164 (zeroBool w) (plainElem_bool Try.underlying4 false) (kyAt_of hi)
  rw [ha i hi] at hv
  rw [hrun, plain_bool_inv hv]
theorem wpList_look_keys {w : World} {ops : Array Oper} {rest : List Oper} {o : Oper} {a : Act} {Q : Exit → Act → World → Prop} (hg : o.guard = none) (m x : Operand) (hop : o.op = Op.lookup 164 m x false)
    (B n : Nat) (p : Nat → Bool) (hm : a.eval m = .map (some B)) (hk : Keys w B n p) (i : Nat) (hx : a.eval x = .int .i64 (i : Int)) (hi : i ≤ 1048576)
    (hK : wpList Try.prog ops Q rest (a.put o.dst (.bool (p i))) w) : wpList Try.prog ops Q (o :: rest) a w := by
  refine wpList_plain hg fun K' hK' => ?_
  unfold Oper.wp
  simp [execOp, hop, hm, hx, hk.look hi, Result.andThen]
  exact hK' _ _ hK
theorem wpList_del_keys {w : World} {ops : Array Oper} {rest : List Oper} {o : Oper} {a : Act} {Q : Exit → Act → World → Prop} (hg : o.guard = none) (m x : Operand)
    (hop : o.op = Op.call { callee := Callee.builtin Builtin.delete, args := #[m, x], argTypes := #[164, 3] })
    (B n : Nat) (p : Nat → Bool) (hm : a.eval m = .map (some B)) (hk : Keys w B n p) (i : Nat) (hx : a.eval x = .int .i64 (i : Int)) (hi : i ≤ 1048576)
    (hK : ∀ w', Keys w' B n (fun j => p j && !(j == i)) → w.grownBy w' (some B) → wpList Try.prog ops Q rest (a.put o.dst (.tuple #[])) w') : wpList Try.prog ops Q (o :: rest) a w := by
  obtain ⟨D, hown, ha⟩ := hk
  refine wpList_delete_own w hg m x _ _ hop _ keysLaw Try.underlying164 _ B n D hm hown _ _ hx (kyAt_of hi) (fun w' h1 h2 => hK w' ⟨_, h1, fun j hj => ?_⟩ h2.grown)
  by_cases e : j = i
  · subst e
    rw [atKey_del_same]
    simp
  · rw [atKey_del_other (kyAt_ne e), ha j hj]
    simp [e]
theorem wpList_put_keys {w : World} {ops : Array Oper} {rest : List Oper} {o : Oper} {a : Act} {Q : Exit → Act → World → Prop} (hg : o.guard = none) (m x v : Operand) (hop : o.op = Op.mapUpdate 164 m x v)
    (B n : Nat) (p : Nat → Bool) (hm : a.eval m = .map (some B)) (hk : Keys w B n p) (hn : n < maxLen) (i : Nat) (hx : a.eval x = .int .i64 (i : Int)) (hv : a.eval v = .bool true) (hi : i ≤ 1048576)
    (hK : ∀ w', Keys w' B (n + 1) (fun j => p j || j == i) → w.grownBy w' (some B) → wpList Try.prog ops Q rest (a.put o.dst undef) w') : wpList Try.prog ops Q (o :: rest) a w := by
  obtain ⟨D, hown, ha⟩ := hk
  refine wpList_mapUpdate_own w hg m x v _ hop _ _ keysLaw Try.underlying164 _ B n D hm hown hn _ _ _ hx hv (kyAt_of hi) _ _ (plainElem_bool Try.underlying4 true) (fun w' h1 h2 => hK w' ⟨_, h1, fun j hj => ?_⟩ h2)
  by_cases e : j = i
  · subst e
    rw [atKey_put_same hown.isMap (kyAt_key j)]
    simp
  · rw [atKey_put_other (kyAt_ne e), ha j hj]
    simp [e]
end Go.Proofs.Ytpfjbecpfdgnpaa
namespace Go.Proofs.Ytpfjbecpfdgnpaa
open Go.ChangeShapes Go.WideShapes Go.ChangeAt Go.RowKit Go.Joins Go.Deep
set_option linter.unusedSimpArgs false
set_option linter.unusedVariables false
set_option maxRecDepth 100000
set_option maxHeartbeats 400000
theorem cell_two {w : World} {b o : Nat} {l : List (Int × Int)} (hc : ∀ j u, (flat l)[j]? = some u → w.cell? ⟨b, o + j, none⟩ = some u) {k : Nat} (h : k < l.length) :
    w.cell? ⟨b, o + k * 2, none⟩ = some (.int .i64 l[k].1) ∧ w.cell? ⟨b, o + k * 2 + 1, none⟩ = some (.int .i64 l[k].2) :=
  ⟨hc _ _ (flat_at l k h).1, hc _ _ (flat_at l k h).2⟩
def inB (R C i j : Int) : Bool := decide (0 ≤ i ∧ i < R ∧ 0 ≤ j ∧ j < C)
def hasB (R C : Int) (l : List (Int × Int)) (i j : Int) : Bool := goodB R C l && inB R C i j
theorem inB_iff {R C i j : Int} : inB R C i j = true ↔ 0 ≤ i ∧ i < R ∧ 0 ≤ j ∧ j < C := by unfold inB; simp
def atI (C i j : Int) : Nat := (i * C + j).toNat
theorem at_bound {R C : Int} {l : List (Int × Int)} {i j : Int} (hg : goodB R C l = true) (hi : inB R C i j = true) :
    (0 ≤ i * C ∧ i * C ≤ 90) ∧ i * C + j = (atI C i j : Int) ∧ atI C i j < l.length ∧ l.length ≤ 90 := by
  obtain ⟨hs, hl, _⟩ := goodB_iff.1 hg
  obtain ⟨a, b, c, d⟩ := inB_iff.1 hi
  have hm := mul_bound hs
  obtain ⟨s1, s2, s3, s4⟩ := sizeB_iff.1 hs
  have h1 : i * C ≤ (R - 1) * C := Int.mul_le_mul_of_nonneg_right (by omega) (by omega)
  have h2 : (R - 1) * C = R * C - C := by rw [Int.sub_mul, Int.one_mul]
  have h3 : 0 ≤ i * C := Int.mul_nonneg a (by omega)
  unfold atI
  omega
theorem wrap_at {R C : Int} {l : List (Int × Int)} {i j : Int} (hg : goodB R C l = true) (hi : inB R C i j = true) :
    IntKind.i64.wrap (i * C) = i * C ∧ IntKind.i64.wrap (i * C + j) = (atI C i j : Int) := by
  obtain ⟨h1, h2, h3, h4⟩ := at_bound hg hi
  refine ⟨IntWalk.i64_in (i * C) (by omega), ?_⟩
  rw [IntWalk.i64_in (i * C + j) (by omega), h2]
theorem spec_boHas (R C : Int) (A : Option Addr) (cap : Nat) (l : List (Int × Int)) (i j : Int) (w : World) (hn : l.length ≤ 1048576) (hr : Rd w w.heap.size A (flat l)) :
    Calls Try.prog 72 #[.agg #[.int .i64 R, .int .i64 C, .slice A l.length cap], .int .i64 i, .int .i64 j] w fun e w' => e = .returned (.bool (hasB R C l i j)) ∧ Below w.heap.size w w' := by
  rcases Bool.eq_false_or_eq_true (goodB R C l) with hg | hg
  · obtain ⟨hs, _, _⟩ := goodB_iff.1 hg
    obtain ⟨g1, g2, g3, g4⟩ := sizeB_iff.1 hs
    rcases Bool.eq_false_or_eq_true (decide (0 ≤ i) && decide (i ≤ R - 1)) with h1 | h1
    · have e : hasB R C l i j = (decide (0 ≤ j) && decide (j ≤ C - 1)) := by
        unfold hasB inB
        rw [hg, Bool.true_and]
        rw [Bool.and_eq_true, decide_eq_true_eq, decide_eq_true_eq] at h1
        refine Bool.eq_iff_iff.2 ?_
        rw [Bool.and_eq_true, decide_eq_true_eq, decide_eq_true_eq, decide_eq_true_eq]
        omega
      rw [e]
      have H1 := Lib.hid h1
      have HG := Lib.hid hg
      clear h1 e hg hs
      go_enter Try.func72, Try.ntmps72
      go_wp2_with fail
      refine (spec_boGood _ _ _ _ l _ hn ((hr.below (by (repeat' (first | (with_reducible exact Below.refl _ _) | (with_reducible assumption) | (with_reducible refine Below.alloc ?_ ?_ _) | (with_reducible refine Below.setCell ?_ ?_ _) | (with_reducible refine Below.drew ?_) | (with_reducible refine below_drewN ?_ _) | (with_reducible refine Below.trans ?_ (Below.mono (by assumption) ?_)) | (with_reducible exact Nat.le_refl _) | (simp; done) | omega | (simp at *; omega))) : Below w.heap.size w _)).mono (by go_size))).mono ?_; rintro e w1 ⟨rfl, b1⟩
      obtain ⟨c1, f1⟩ := bcell b1
      have z1 : w.heap.size < w1.heap.size := by have := b1.size; simp at this; omega
      rw [HG.out]
      go_wp2_with fail
      refine (spec_l1In _ _ _ _).mono ?_; rintro e w2 ⟨rfl, rfl⟩
      rw [H1.out]
      go_wp2_with fail
      refine (spec_l1In _ _ _ _).mono ?_; rintro e w2 ⟨rfl, rfl⟩
      go_wp2
      go_returns
      exact ⟨rfl, by (repeat' (first | (with_reducible exact Below.refl _ _) | (with_reducible assumption) | (with_reducible refine Below.alloc ?_ ?_ _) | (with_reducible refine Below.setCell ?_ ?_ _) | (with_reducible refine Below.drew ?_) | (with_reducible refine below_drewN ?_ _) | (with_reducible refine Below.trans ?_ (Below.mono (by assumption) ?_)) | (with_reducible exact Nat.le_refl _) | (simp; done) | omega | (simp at *; omega)))⟩
    · have e : hasB R C l i j = false := by
        unfold hasB inB
        rw [hg]
        simp at h1 ⊢
        omega
      rw [e]
      have H1 := Lib.hid h1
      have HG := Lib.hid hg
      clear h1 e hg hs
      go_enter Try.func72, Try.ntmps72
      go_wp2_with fail
      refine (spec_boGood _ _ _ _ l _ hn ((hr.below (by (repeat' (first | (with_reducible exact Below.refl _ _) | (with_reducible assumption) | (with_reducible refine Below.alloc ?_ ?_ _) | (with_reducible refine Below.setCell ?_ ?_ _) | (with_reducible refine Below.drew ?_) | (with_reducible refine below_drewN ?_ _) | (with_reducible refine Below.trans ?_ (Below.mono (by assumption) ?_)) | (with_reducible exact Nat.le_refl _) | (simp; done) | omega | (simp at *; omega))) : Below w.heap.size w _)).mono (by go_size))).mono ?_; rintro e w1 ⟨rfl, b1⟩
      obtain ⟨c1, f1⟩ := bcell b1
      have z1 : w.heap.size < w1.heap.size := by have := b1.size; simp at this; omega
      rw [HG.out]
      go_wp2_with fail
      refine (spec_l1In _ _ _ _).mono ?_; rintro e w2 ⟨rfl, rfl⟩
      rw [H1.out]
      go_wp2
      go_returns
      exact ⟨rfl, by (repeat' (first | (with_reducible exact Below.refl _ _) | (with_reducible assumption) | (with_reducible refine Below.alloc ?_ ?_ _) | (with_reducible refine Below.setCell ?_ ?_ _) | (with_reducible refine Below.drew ?_) | (with_reducible refine below_drewN ?_ _) | (with_reducible refine Below.trans ?_ (Below.mono (by assumption) ?_)) | (with_reducible exact Nat.le_refl _) | (simp; done) | omega | (simp at *; omega)))⟩
  · have e : hasB R C l i j = false := by unfold hasB; rw [hg]; rfl
    rw [e]
    have HG := Lib.hid hg
    clear hg e
    go_enter Try.func72, Try.ntmps72
    go_wp2_with fail
    refine (spec_boGood _ _ _ _ l _ hn ((hr.below (by (repeat' (first | (with_reducible exact Below.refl _ _) | (with_reducible assumption) | (with_reducible refine Below.alloc ?_ ?_ _) | (with_reducible refine Below.setCell ?_ ?_ _) | (with_reducible refine Below.drew ?_) | (with_reducible refine below_drewN ?_ _) | (with_reducible refine Below.trans ?_ (Below.mono (by assumption) ?_)) | (with_reducible exact Nat.le_refl _) | (simp; done) | omega | (simp at *; omega))) : Below w.heap.size w _)).mono (by go_size))).mono ?_; rintro e w1 ⟨rfl, b1⟩
    rw [HG.out]
    go_wp2
    go_returns
    exact ⟨rfl, by (repeat' (first | (with_reducible exact Below.refl _ _) | (with_reducible assumption) | (with_reducible refine Below.alloc ?_ ?_ _) | (with_reducible refine Below.setCell ?_ ?_ _) | (with_reducible refine Below.drew ?_) | (with_reducible refine below_drewN ?_ _) | (with_reducible refine Below.trans ?_ (Below.mono (by assumption) ?_)) | (with_reducible exact Nat.le_refl _) | (simp; done) | omega | (simp at *; omega)))⟩
theorem spec_boAt (R C : Int) (A : Option Addr) (cap : Nat) (l : List (Int × Int)) (i j : Int) (w : World) (hg : goodB R C l = true) (hi : inB R C i j = true) (hr : Rd w w.heap.size A (flat l)) :
    Calls Try.prog 91 #[.agg #[.int .i64 R, .int .i64 C, .slice A l.length cap], .int .i64 i, .int .i64 j] w fun e w' => e = .returned (.agg #[.int .i64 (l.getD (atI C i j) (0, 0)).1, .int .i64 (l.getD (atI C i j) (0, 0)).2]) ∧ Below w.heap.size w w' := by
  obtain ⟨_, _, hlt, h90⟩ := at_bound hg hi
  obtain ⟨m1, m2⟩ := wrap_at hg hi
  have e : l.getD (atI C i j) (0, 0) = l[atI C i j] := by rw [List.getD_eq_getElem?_getD, List.getElem?_eq_getElem hlt]; rfl
  rw [e]
  obtain ⟨b, o, rfl, hbl, hc⟩ := hr (by rw [flat_length]; omega)
  obtain ⟨hc0, hc1⟩ := cell_two hc hlt
  clear e hr hc hg hi
  generalize l[atI C i j].1 = x at *
  generalize l[atI C i j].2 = y at *
  generalize atI C i j = n at *
  go_enter Try.func91, Try.ntmps91
  go_wp2
  refine bodyPost_ret (v := .agg #[.int .i64 x, .int .i64 y]) ?_ rfl ?_; (focus (simp [results, Try.results91, go_sem, *]; done))
  exact ⟨rfl, by (repeat' (first | (with_reducible exact Below.refl _ _) | (with_reducible assumption) | (with_reducible refine Below.alloc ?_ ?_ _) | (with_reducible refine Below.setCell ?_ ?_ _) | (with_reducible refine Below.drew ?_) | (with_reducible refine below_drewN ?_ _) | (with_reducible refine Below.trans ?_ (Below.mono (by assumption) ?_)) | (with_reducible exact Nat.le_refl _) | (simp; done) | omega | (simp at *; omega)))⟩
def cellK (R C : Int) (l : List (Int × Int)) (i j : Int) : Int := selI (hasB R C l i j) (l.getD (atI C i j) (0, 0)).1
def cellS (R C : Int) (l : List (Int × Int)) (i j : Int) : Int := selI (hasB R C l i j) (l.getD (atI C i j) (0, 0)).2
theorem hasB_and {R C : Int} {l : List (Int × Int)} {i j : Int} (h : hasB R C l i j = true) : goodB R C l = true ∧ inB R C i j = true := by
  unfold hasB at h; simpa using h
theorem spec_CellAt (R C : Int) (A : Option Addr) (cap : Nat) (l : List (Int × Int)) (i j : Int) (w : World) (hn : l.length ≤ 1048576) (hr : Rd w w.heap.size A (flat l)) :
    Calls Try.prog 31 #[.agg #[.int .i64 R, .int .i64 C, .slice A l.length cap], .int .i64 i, .int .i64 j] w fun e w' => e = .returned (.tuple #[.agg #[.int .i64 (cellK R C l i j), .int .i64 (cellS R C l i j)], .bool (hasB R C l i j)]) ∧ Below w.heap.size w w' := by
  unfold cellK cellS
  rcases Bool.eq_false_or_eq_true (hasB R C l i j) with hh | hh
  · obtain ⟨hg, hi⟩ := hasB_and hh
    have HG := Lib.hid hg
    have HI := Lib.hid hi
    have HH := Lib.hid hh
    rw [hh]
    clear hg hi hh
    go_enter Try.func31, Try.ntmps31
    go_wp2_with fail
    refine (spec_boHas _ _ _ _ l _ _ _ hn ((hr.below (by (repeat' (first | (with_reducible exact Below.refl _ _) | (with_reducible assumption) | (with_reducible refine Below.alloc ?_ ?_ _) | (with_reducible refine Below.setCell ?_ ?_ _) | (with_reducible refine Below.drew ?_) | (with_reducible refine below_drewN ?_ _) | (with_reducible refine Below.trans ?_ (Below.mono (by assumption) ?_)) | (with_reducible exact Nat.le_refl _) | (simp; done) | omega | (simp at *; omega))) : Below w.heap.size w _)).mono (by go_size))).mono ?_; rintro e w1 ⟨rfl, b1⟩
    obtain ⟨c1, f1⟩ := bcell b1
    have z1 : w.heap.size + 1 < w1.heap.size := by have := b1.size; simp at this; omega
    rw [HH.out]
    have hr1 : Rd w1 w1.heap.size A (flat l) := (hr.below (by (repeat' (first | (with_reducible exact Below.refl _ _) | (with_reducible assumption) | (with_reducible refine Below.alloc ?_ ?_ _) | (with_reducible refine Below.setCell ?_ ?_ _) | (with_reducible refine Below.drew ?_) | (with_reducible refine below_drewN ?_ _) | (with_reducible refine Below.trans ?_ (Below.mono (by assumption) ?_)) | (with_reducible exact Nat.le_refl _) | (simp; done) | omega | (simp at *; omega))) : Below w.heap.size w w1)).mono (by omega)
    go_wp2_with fail
    refine (spec_boAt _ _ _ _ l _ _ _ HG.out HI.out hr1).mono ?_; rintro e w2 ⟨rfl, b2⟩
    obtain ⟨c2, f2⟩ := bcell b2
    have z2 : w.heap.size + 1 < w2.heap.size := by have := b2.size; omega
    go_wp2
    refine bodyPost_ret (v := .tuple #[.agg #[.int .i64 (l.getD (atI C i j) (0, 0)).1, .int .i64 (l.getD (atI C i j) (0, 0)).2], .bool true]) ?_ rfl ?_; (focus (simp [results, Try.results31, go_sem, *]; done))
    exact ⟨rfl, by (repeat' (first | (with_reducible exact Below.refl _ _) | (with_reducible assumption) | (with_reducible refine Below.alloc ?_ ?_ _) | (with_reducible refine Below.setCell ?_ ?_ _) | (with_reducible refine Below.drew ?_) | (with_reducible refine below_drewN ?_ _) | (with_reducible refine Below.trans ?_ (Below.mono (by assumption) ?_)) | (with_reducible exact Nat.le_refl _) | (simp; done) | omega | (simp at *; omega)))⟩
  · have HH := Lib.hid hh
    rw [hh]
    clear hh
    go_enter Try.func31, Try.ntmps31
    go_wp2_with fail
    refine (spec_boHas _ _ _ _ l _ _ _ hn ((hr.below (by (repeat' (first | (with_reducible exact Below.refl _ _) | (with_reducible assumption) | (with_reducible refine Below.alloc ?_ ?_ _) | (with_reducible refine Below.setCell ?_ ?_ _) | (with_reducible refine Below.drew ?_) | (with_reducible refine below_drewN ?_ _) | (with_reducible refine Below.trans ?_ (Below.mono (by assumption) ?_)) | (with_reducible exact Nat.le_refl _) | (simp; done) | omega | (simp at *; omega))) : Below w.heap.size w _)).mono (by go_size))).mono ?_; rintro e w1 ⟨rfl, b1⟩
    obtain ⟨c1, f1⟩ := bcell b1
    have z1 : w.heap.size + 1 < w1.heap.size := by have := b1.size; simp at this; omega
    rw [HH.out]
    go_wp2
    refine bodyPost_ret (v := .tuple #[.agg #[.int .i64 0, .int .i64 0], .bool false]) ?_ rfl ?_; (focus (simp [results, Try.results31, go_sem, *]; done))
    exact ⟨rfl, by (repeat' (first | (with_reducible exact Below.refl _ _) | (with_reducible assumption) | (with_reducible refine Below.alloc ?_ ?_ _) | (with_reducible refine Below.setCell ?_ ?_ _) | (with_reducible refine Below.drew ?_) | (with_reducible refine below_drewN ?_ _) | (with_reducible refine Below.trans ?_ (Below.mono (by assumption) ?_)) | (with_reducible exact Nat.le_refl _) | (simp; done) | omega | (simp at *; omega)))⟩
theorem impl_cellIndex (R C : Int) (A : Option Addr) (cap : Nat) (l : List (Int × Int)) (i j : Int) (w : World) (hn : l.length ≤ 1048576) (hr : Rd w w.heap.size A (flat l)) :
    Calls Try.prog 69 #[.agg #[.int .i64 R, .int .i64 C, .slice A l.length cap], .int .i64 i, .int .i64 j] w fun e w' => e = .returned (.tuple #[.int .i64 (selI (hasB R C l i j) (atI C i j)), .bool (hasB R C l i j)]) ∧ Below w.heap.size w w' := by
  rcases Bool.eq_false_or_eq_true (goodB R C l) with hg | hg
  · obtain ⟨hs, _, _⟩ := goodB_iff.1 hg
    obtain ⟨g1, g2, g3, g4⟩ := sizeB_iff.1 hs
    have HG := Lib.hid hg
    rcases Bool.eq_false_or_eq_true (inB R C i j) with hi | hi
    · obtain ⟨m1, m2⟩ := wrap_at hg hi
      obtain ⟨k1, k2, k3, k4⟩ := inB_iff.1 hi
      have e : hasB R C l i j = true := by unfold hasB; rw [hg, hi]; rfl
      rw [e]
      clear hg hi e hs
      generalize atI C i j = n at *
      go_enter Try.func69, Try.ntmps69
      go_wp2_with fail
      refine (impl_IsBoard _ _ _ _ l _ hn ((hr.below (by (repeat' (first | (with_reducible exact Below.refl _ _) | (with_reducible assumption) | (with_reducible refine Below.alloc ?_ ?_ _) | (with_reducible refine Below.setCell ?_ ?_ _) | (with_reducible refine Below.drew ?_) | (with_reducible refine below_drewN ?_ _) | (with_reducible refine Below.trans ?_ (Below.mono (by assumption) ?_)) | (with_reducible exact Nat.le_refl _) | (simp; done) | omega | (simp at *; omega))) : Below w.heap.size w _)).mono (by go_size))).mono ?_; rintro e w1 ⟨rfl, b1⟩
      obtain ⟨c1, f1⟩ := bcell b1
      have z1 : w.heap.size < w1.heap.size := by have := b1.size; simp at this; omega
      rw [HG.out]
      go_wp2
      go_returns
      exact ⟨rfl, by (repeat' (first | (with_reducible exact Below.refl _ _) | (with_reducible assumption) | (with_reducible refine Below.alloc ?_ ?_ _) | (with_reducible refine Below.setCell ?_ ?_ _) | (with_reducible refine Below.drew ?_) | (with_reducible refine below_drewN ?_ _) | (with_reducible refine Below.trans ?_ (Below.mono (by assumption) ?_)) | (with_reducible exact Nat.le_refl _) | (simp; done) | omega | (simp at *; omega)))⟩
    · have e : hasB R C l i j = false := by unfold hasB; rw [hi, Bool.and_false]
      rw [e]
      have HI := Lib.hid hi
      clear hg hi e hs
      go_enter Try.func69, Try.ntmps69
      go_wp2_with fail
      refine (impl_IsBoard _ _ _ _ l _ hn ((hr.below (by (repeat' (first | (with_reducible exact Below.refl _ _) | (with_reducible assumption) | (with_reducible refine Below.alloc ?_ ?_ _) | (with_reducible refine Below.setCell ?_ ?_ _) | (with_reducible refine Below.drew ?_) | (with_reducible refine below_drewN ?_ _) | (with_reducible refine Below.trans ?_ (Below.mono (by assumption) ?_)) | (with_reducible exact Nat.le_refl _) | (simp; done) | omega | (simp at *; omega))) : Below w.heap.size w _)).mono (by go_size))).mono ?_; rintro e w1 ⟨rfl, b1⟩
      obtain ⟨c1, f1⟩ := bcell b1
      have z1 : w.heap.size < w1.heap.size := by have := b1.size; simp at this; omega
      rw [HG.out]
      go_wp2
      all_goals first | (exfalso; have := HI.out; unfold inB at this; simp at this; omega) | go_returns
      all_goals exact ⟨rfl, by (repeat' (first | (with_reducible exact Below.refl _ _) | (with_reducible assumption) | (with_reducible refine Below.alloc ?_ ?_ _) | (with_reducible refine Below.setCell ?_ ?_ _) | (with_reducible refine Below.drew ?_) | (with_reducible refine below_drewN ?_ _) | (with_reducible refine Below.trans ?_ (Below.mono (by assumption) ?_)) | (with_reducible exact Nat.le_refl _) | (simp; done) | omega | (simp at *; omega)))⟩
  · have e : hasB R C l i j = false := by unfold hasB; rw [hg]; rfl
    rw [e]
    have HG := Lib.hid hg
    clear hg e
    go_enter Try.func69, Try.ntmps69
    go_wp2_with fail
    refine (impl_IsBoard _ _ _ _ l _ hn ((hr.below (by (repeat' (first | (with_reducible exact Below.refl _ _) | (with_reducible assumption) | (with_reducible refine Below.alloc ?_ ?_ _) | (with_reducible refine Below.setCell ?_ ?_ _) | (with_reducible refine Below.drew ?_) | (with_reducible refine below_drewN ?_ _) | (with_reducible refine Below.trans ?_ (Below.mono (by assumption) ?_)) | (with_reducible exact Nat.le_refl _) | (simp; done) | omega | (simp at *; omega))) : Below w.heap.size w _)).mono (by go_size))).mono ?_; rintro e w1 ⟨rfl, b1⟩
    rw [HG.out]
    go_wp2
    go_returns
    exact ⟨rfl, by (repeat' (first | (with_reducible exact Below.refl _ _) | (with_reducible assumption) | (with_reducible refine Below.alloc ?_ ?_ _) | (with_reducible refine Below.setCell ?_ ?_ _) | (with_reducible refine Below.drew ?_) | (with_reducible refine below_drewN ?_ _) | (with_reducible refine Below.trans ?_ (Below.mono (by assumption) ?_)) | (with_reducible exact Nat.le_refl _) | (simp; done) | omega | (simp at *; omega)))⟩
theorem impl_CellAt (R C : Int) (A : Option Addr) (cap : Nat) (l : List (Int × Int)) (i j : Int) (w : World) (hn : l.length ≤ 1048576) (hr : Rd w w.heap.size A (flat l)) :
    Calls Try.prog 30 #[.agg #[.int .i64 R, .int .i64 C, .slice A l.length cap], .int .i64 i, .int .i64 j] w fun e w' => e = .returned (.tuple #[.agg #[.int .i64 (cellK R C l i j), .int .i64 (cellS R C l i j)], .bool (hasB R C l i j)]) ∧ Below w.heap.size w w' := by
  unfold cellK cellS
  rcases Bool.eq_false_or_eq_true (hasB R C l i j) with hh | hh
  · obtain ⟨hg, hi⟩ := hasB_and hh
    obtain ⟨_, _, hlt, h90⟩ := at_bound hg hi
    have e : l.getD (atI C i j) (0, 0) = l[atI C i j] := by rw [List.getD_eq_getElem?_getD, List.getElem?_eq_getElem hlt]; rfl
    rw [e, hh]
    obtain ⟨b, o, rfl, hbl, hc⟩ := hr (by rw [flat_length]; omega)
    obtain ⟨hc0, hc1⟩ := cell_two hc hlt
    have HH := Lib.hid hh
    clear hg hi hh e hc
    go_enter Try.func30, Try.ntmps30
    go_wp2_with fail
    refine (impl_cellIndex _ _ _ _ l _ _ _ hn ((hr.below (by (repeat' (first | (with_reducible exact Below.refl _ _) | (with_reducible assumption) | (with_reducible refine Below.alloc ?_ ?_ _) | (with_reducible refine Below.setCell ?_ ?_ _) | (with_reducible refine Below.drew ?_) | (with_reducible refine below_drewN ?_ _) | (with_reducible refine Below.trans ?_ (Below.mono (by assumption) ?_)) | (with_reducible exact Nat.le_refl _) | (simp; done) | omega | (simp at *; omega))) : Below w.heap.size w _)).mono (by go_size))).mono ?_; rintro e w1 ⟨rfl, b1⟩
    obtain ⟨c1, f1⟩ := bcell b1
    have z1 : w.heap.size + 1 < w1.heap.size := by have := b1.size; simp at this; omega
    have hb1 : Below w.heap.size w w1 := by (repeat' (first | (with_reducible exact Below.refl _ _) | (with_reducible assumption) | (with_reducible refine Below.alloc ?_ ?_ _) | (with_reducible refine Below.setCell ?_ ?_ _) | (with_reducible refine Below.drew ?_) | (with_reducible refine below_drewN ?_ _) | (with_reducible refine Below.trans ?_ (Below.mono (by assumption) ?_)) | (with_reducible exact Nat.le_refl _) | (simp; done) | omega | (simp at *; omega)))
    have hd0 := (hb1.cell (p := ⟨b, _, none⟩) hbl).trans hc0
    have hd1 := (hb1.cell (p := ⟨b, _, none⟩) hbl).trans hc1
    rw [HH.out, show selI true (atI C i j : Int) = (atI C i j : Int) from rfl]
    clear hc0 hc1
    generalize atI C i j = n at *
    go_wp2
    refine bodyPost_ret (v := .tuple #[.agg #[.int .i64 l[n].1, .int .i64 l[n].2], .bool true]) ?_ rfl ?_; (focus (simp [results, Try.results30, go_sem, *]; done))
    exact ⟨rfl, by (repeat' (first | (with_reducible exact Below.refl _ _) | (with_reducible assumption) | (with_reducible refine Below.alloc ?_ ?_ _) | (with_reducible refine Below.setCell ?_ ?_ _) | (with_reducible refine Below.drew ?_) | (with_reducible refine below_drewN ?_ _) | (with_reducible refine Below.trans ?_ (Below.mono (by assumption) ?_)) | (with_reducible exact Nat.le_refl _) | (simp; done) | omega | (simp at *; omega)))⟩
  · have HH := Lib.hid hh
    rw [hh]
    clear hh
    go_enter Try.func30, Try.ntmps30
    go_wp2_with fail
    refine (impl_cellIndex _ _ _ _ l _ _ _ hn ((hr.below (by (repeat' (first | (with_reducible exact Below.refl _ _) | (with_reducible assumption) | (with_reducible refine Below.alloc ?_ ?_ _) | (with_reducible refine Below.setCell ?_ ?_ _) | (with_reducible refine Below.drew ?_) | (with_reducible refine below_drewN ?_ _) | (with_reducible refine Below.trans ?_ (Below.mono (by assumption) ?_)) | (with_reducible exact Nat.le_refl _) | (simp; done) | omega | (simp at *; omega))) : Below w.heap.size w _)).mono (by go_size))).mono ?_; rintro e w1 ⟨rfl, b1⟩
    obtain ⟨c1, f1⟩ := bcell b1
    have z1 : w.heap.size + 1 < w1.heap.size := by have := b1.size; simp at this; omega
    rw [HH.out]
    go_wp2
    refine bodyPost_ret (v := .tuple #[.agg #[.int .i64 0, .int .i64 0], .bool false]) ?_ rfl ?_; (focus (simp [results, Try.results30, go_sem, *]; done))
    exact ⟨rfl, by (repeat' (first | (with_reducible exact Below.refl _ _) | (with_reducible assumption) | (with_reducible refine Below.alloc ?_ ?_ _) | (with_reducible refine Below.setCell ?_ ?_ _) | (with_reducible refine Below.drew ?_) | (with_reducible refine below_drewN ?_ _) | (with_reducible refine Below.trans ?_ (Below.mono (by assumption) ?_)) | (with_reducible exact Nat.le_refl _) | (simp; done) | omega | (simp at *; omega)))⟩
end Go.Proofs.Ytpfjbecpfdgnpaa
namespace Go.Proofs.Ytpfjbecpfdgnpaa
open Go.ChangeShapes Go.WideShapes Go.ChangeAt Go.RowKit Go.Joins Go.Deep
set_option linter.unusedSimpArgs false
set_option linter.unusedVariables false
set_option maxRecDepth 100000
set_option maxHeartbeats 1000000
theorem row_empty (w : World) (e : TypeId) (size : Nat) : (w.alloc (.cells #[] e)).ownsRow w.heap.size e size (.slice (some ⟨w.heap.size, 0, none⟩) 0 0) 0 [] :=
  ⟨by simp, .inr ⟨w.heap.size, 0, #[], rfl, Nat.le_refl _, heap_alloc_new w _, Nat.le_refl _, Nat.zero_le _, by simp, by simp⟩⟩
theorem rd_news {w w' : World} {B b o : Nat} {xs : List Value} (hr : Rd w B (some ⟨b, o, none⟩) xs) (hb : Below B w w') : ∀ j u, xs[j]? = some u → w'.cell? ((⟨b, o, none⟩ : Addr).add j) = some u := by
  intro j u hj
  obtain ⟨b', o', e, hlt, hc⟩ := hr (by have := (List.getElem?_eq_some_iff.1 hj).1; omega)
  cases e
  rw [add_plain]
  exact (hb.cell (p := ⟨b, o + j, none⟩) hlt).trans (hc j u hj)
theorem Own.set_far {w : World} {A : Option Addr} {t : TypeId} {xs : List Value} (h : Own w A t xs) (p : Addr) (u : Value) (hne : ∀ a, A = some a → p.block ≠ a.block) : Own (w.setCell p u) A t xs := fun hx => by
  obtain ⟨g, rest, rfl, hw⟩ := h hx
  exact ⟨g, rest, rfl, hw.set_far p u (hne _ rfl)⟩
theorem Clone_any (b o cap : Nat) (l : List (Int × Int)) (w : World) (hn : l.length ≤ 1048576) (hr : Rd w w.heap.size (some ⟨b, o, none⟩) (flat l)) :
    Calls Try.prog 89 #[.slice (some ⟨b, o, none⟩) l.length cap] w (PostC w l) := by
  obtain ⟨i0, hi, hz0, hz1, hz2⟩ := info_parts cellInfo
  have hnil := fun (w : World) => Lib.run_eql_slice_some_nil (P := Try.prog) w (⟨b, o, none⟩ : Addr) l.length cap Try.underlying23
  go_enter Try.func89, Try.ntmps89
  go_wp2_with (first | (at_builtin; refine wpList_append_own _ rfl (.tmp 5) (.tmp 6) 23 rfl w.heap.size 27 i0 _ 2 16 Try.underlying23 hi hz0 hz1 hz2 rfl (by omega) _ 0 [] rfl (row_empty w _ _) ⟨b, o, none⟩ l.length cap (flat l) rfl (by rw [flat_length]; omega) (rd_news hr ((Below.refl _ _).alloc (Nat.le_refl _) _)) (flat_one l) (by unfold maxLen; omega) (by omega) (by simp) ?_; intro v1 w1 hown1 hg1 _) | fail)
  have hb1 : Below w.heap.size w w1 := row_below (row_empty w _ 2) ((Below.refl _ _).alloc (Nat.le_refl _) _) (by simp) hg1
  rw [Nat.zero_add, List.nil_append] at hown1
  obtain ⟨A', cap', rfl⟩ := slice_of_row hown1
  have ho := own_of_row hown1
  clear hg1 hown1
  go_wp2
  go_returns
  exact PostC.mk ho.1 ho.2 hb1
theorem spec_boOwn (R C : Int) (b o cap : Nat) (l : List (Int × Int)) (w : World) (hpos : 0 < l.length) (hn : l.length ≤ 1048576) (hr : Rd w w.heap.size (some ⟨b, o, none⟩) (flat l)) :
    Calls Try.prog 85 #[.agg #[.int .i64 R, .int .i64 C, .slice (some ⟨b, o, none⟩) l.length cap]] w (PostD w R C l) := by
  obtain ⟨i0, hi, hz0, hz1, hz2⟩ := info_parts cellInfo
  go_enter Try.func85, Try.ntmps85
  go_wp2_with fail
  have b0 : Below w.heap.size w ((w.alloc (.cells #[.int .i64 R, .int .i64 C, .slice (some ⟨b, o, none⟩) l.length cap] 25)).alloc (.cells #[.int .i64 0, .int .i64 0, .slice none 0 0] 25)) := by (repeat' (first | (with_reducible exact Below.refl _ _) | (with_reducible assumption) | (with_reducible refine Below.alloc ?_ ?_ _) | (with_reducible refine Below.setCell ?_ ?_ _) | (with_reducible refine Below.drew ?_) | (with_reducible refine below_drewN ?_ _) | (with_reducible refine Below.trans ?_ (Below.mono (by assumption) ?_)) | (with_reducible exact Nat.le_refl _) | (simp; done) | omega | (simp at *; omega)))
  have x0 : Whole ((w.alloc (.cells #[.int .i64 R, .int .i64 C, .slice (some ⟨b, o, none⟩) l.length cap] 25)).alloc (.cells #[.int .i64 0, .int .i64 0, .slice none 0 0] 25)) w.heap.size 25 [.int .i64 R, .int .i64 C, .slice (some ⟨b, o, none⟩) l.length cap] := Whole.alloc (heap_alloc_new w _) _
  have x1 : Whole ((w.alloc (.cells #[.int .i64 R, .int .i64 C, .slice (some ⟨b, o, none⟩) l.length cap] 25)).alloc (.cells #[.int .i64 0, .int .i64 0, .slice none 0 0] 25)) (w.heap.size + 1) 25 [.int .i64 0, .int .i64 0, .slice none 0 0] := by
    have h := heap_alloc_new (w.alloc (.cells #[.int .i64 R, .int .i64 C, .slice (some ⟨b, o, none⟩) l.length cap] 25)) (.cells #[.int .i64 0, .int .i64 0, .slice none 0 0] 25)
    rw [World.size_alloc] at h
    exact h
  have hz : w.heap.size + 1 < ((w.alloc (.cells #[.int .i64 R, .int .i64 C, .slice (some ⟨b, o, none⟩) l.length cap] 25)).alloc (.cells #[.int .i64 0, .int .i64 0, .slice none 0 0] 25)).heap.size := x1.lt
  have hb0 := b0.size
  generalize (w.alloc (.cells #[.int .i64 R, .int .i64 C, .slice (some ⟨b, o, none⟩) l.length cap] 25)).alloc (.cells #[.int .i64 0, .int .i64 0, .slice none 0 0] 25) = v0 at *
  have hz0' : w.heap.size < v0.heap.size := by omega
  have k0 : v0.cell? ⟨w.heap.size, 0, none⟩ = some (.int .i64 R) := (x0.cell 0).trans rfl
  have k1 : v0.cell? ⟨w.heap.size, 1, none⟩ = some (.int .i64 C) := (x0.cell 1).trans rfl
  have k2 : v0.cell? ⟨w.heap.size, 2, none⟩ = some (.slice (some ⟨b, o, none⟩) l.length cap) := (x0.cell 2).trans rfl
  have KS := Lib.hid (fun (w' : World) (h : Below (w.heap.size + 1) v0 w') => (⟨(h.cell (p := ⟨w.heap.size, 0, none⟩) (Nat.lt_succ_self _)).trans k0, (h.cell (p := ⟨w.heap.size, 1, none⟩) (Nat.lt_succ_self _)).trans k1, (h.cell (p := ⟨w.heap.size, 2, none⟩) (Nat.lt_succ_self _)).trans k2⟩ : w'.cell? ⟨w.heap.size, 0, none⟩ = some (.int .i64 R) ∧ w'.cell? ⟨w.heap.size, 1, none⟩ = some (.int .i64 C) ∧ w'.cell? ⟨w.heap.size, 2, none⟩ = some (.slice (some ⟨b, o, none⟩) l.length cap)))
  go_region_held3 (fun w' => w'.cell? ⟨w.heap.size, 0, none⟩ = some (.int .i64 R) ∧ w'.cell? ⟨w.heap.size, 1, none⟩ = some (.int .i64 C) ∧ w'.cell? ⟨w.heap.size, 2, none⟩ = some (.slice (some ⟨b, o, none⟩) l.length cap))
    (first | exact KS.out _ (by (repeat' (first | (with_reducible exact Below.refl _ _) | (with_reducible assumption) | (with_reducible refine Below.alloc ?_ ?_ _) | (with_reducible refine Below.setCell ?_ ?_ _) | (with_reducible refine Below.drew ?_) | (with_reducible refine below_drewN ?_ _) | (with_reducible refine Below.trans ?_ (Below.mono (by assumption) ?_)) | (with_reducible exact Nat.le_refl _) | (simp; done) | omega | (simp at *; omega)))))
    ((first | (refine step_append_lies _ (by rfl) _ _ _ (by rfl) v0.heap.size 27 i0 _ 2 16 Try.underlying23 hi hz0 hz1 hz2 rfl (by omega) _ 0 [] (by rfl) (row_empty v0.drew _ _) ⟨b, o, none⟩ l.length cap (flat l) (by rfl) (by rw [flat_length]; omega) (rd_news hr (by (repeat' (first | (with_reducible exact Below.refl _ _) | (with_reducible assumption) | (with_reducible refine Below.alloc ?_ ?_ _) | (with_reducible refine Below.setCell ?_ ?_ _) | (with_reducible refine Below.drew ?_) | (with_reducible refine below_drewN ?_ _) | (with_reducible refine Below.trans ?_ (Below.mono (by assumption) ?_)) | (with_reducible exact Nat.le_refl _) | (simp; done) | omega | (simp at *; omega))))) (flat_one l) hpos (by unfold maxLen; omega) (by omega) (by simp) (v0.heap.size + 1) (by simp) ?_; intro gg cap1 w1 hown1 hg1 hat1 hlt1; have hb1 : Below v0.heap.size v0 w1 := row_below (row_empty v0.drew _ 2) (((Below.refl _ _).drew).alloc (Nat.le_refl _) _) (by simp) hg1; have x2 := x1.below hb1 hz; have q0 : w1.cell? ⟨w.heap.size + 1, 0, none⟩ = some (.int .i64 0) := (x2.cell 0).trans rfl; have q1 : w1.cell? ⟨w.heap.size + 1, 1, none⟩ = some (.int .i64 0) := (x2.cell 1).trans rfl; have q2 : w1.cell? ⟨w.heap.size + 1, 2, none⟩ = some (.slice none 0 0) := (x2.cell 2).trans rfl; have qf0 := x2.frozen 0; have qf1 := x2.frozen 1; have qf2 := x2.frozen 2)))
  rw [Nat.zero_add, List.nil_append] at hown1
  have ho := own_of_row hown1
  have B1 : Below w.heap.size w w1 := b0.trans (hb1.mono hb0)
  clear hat1 hg1 hown1 hb1 x2 x1 x0 k0 k1 k2 KS
  go_wp2
  refine bodyPost_ret (v := .agg #[.int .i64 R, .int .i64 C, .slice (some ⟨gg, 0, none⟩) l.length cap1]) ?_ rfl ?_; (focus (simp [results, Try.results85, go_sem, *]; done))
  refine PostD.mk (((ho.1.set_far _ _ ?_).set_far _ _ ?_).set_far _ _ ?_) (fun a ha => by have := ho.2 a ha; omega) (by (repeat' (first | (with_reducible exact Below.refl _ _) | (with_reducible assumption) | (with_reducible refine Below.alloc ?_ ?_ _) | (with_reducible refine Below.setCell ?_ ?_ _) | (with_reducible refine Below.drew ?_) | (with_reducible refine below_drewN ?_ _) | (with_reducible refine Below.trans ?_ (Below.mono (by assumption) ?_)) | (with_reducible exact Nat.le_refl _) | (simp; done) | omega | (simp at *; omega))))
  all_goals (intro a ha; have h1 := ho.2 a ha; show w.heap.size + 1 ≠ a.block; omega)
theorem flat_set (l : List (Int × Int)) (n : Nat) (x y : Int) (h : n < l.length) (rest : List Value) : ((flat l ++ rest).set (n * 2) (.int .i64 x)).set (n * 2 + 1) (.int .i64 y) = flat (l.set n (x, y)) ++ rest := by
  have hl := flat_length l
  rw [List.set_append_left _ _ (by omega), List.set_append_left _ _ (by rw [List.length_set]; omega)]
  congr 1
  clear hl
  induction l generalizing n with
  | nil => simp at h
  | cons c l ih =>
    cases n with
    | zero => rfl
    | succ n =>
      have := ih n (by simpa using h)
      rw [show (n + 1) * 2 = n * 2 + 1 + 1 by omega]
      show ((Value.int .i64 c.1 :: Value.int .i64 c.2 :: flat l).set (n * 2 + 1 + 1) (Value.int .i64 x)).set (n * 2 + 1 + 1 + 1) (Value.int .i64 y) = Value.int .i64 c.1 :: Value.int .i64 c.2 :: flat (l.set n (x, y))
      rw [← this]
      rfl
theorem spec_boWith (R C : Int) (b o cap : Nat) (l : List (Int × Int)) (n : Nat) (x y : Int) (w : World) (hlt : n < l.length) (hn : l.length ≤ 90) (hr : Rd w w.heap.size (some ⟨b, o, none⟩) (flat l)) :
    Calls Try.prog 74 #[.agg #[.int .i64 R, .int .i64 C, .slice (some ⟨b, o, none⟩) l.length cap], .int .i64 (n : Int), .agg #[.int .i64 x, .int .i64 y]] w (PostD w R C (l.set n (x, y))) := by
  go_enter Try.func74, Try.ntmps74
  obtain ⟨v0, hv0, X0, X1, X2, B0, hz0⟩ := three_boxes w [.int .i64 R, .int .i64 C, .slice (some ⟨b, o, none⟩) l.length cap] 25 [.int .i64 x, .int .i64 y] 27 [.int .i64 0, .int .i64 0, .slice none 0 0] 25; have HV := Lib.hid hv0; have hx : w.heap.size + 1 + 1 < v0.heap.size := (by omega); have hz : w.heap.size + 1 < v0.heap.size := (by omega); have hy : w.heap.size < v0.heap.size := (by omega); have hb0 := B0.size; clear hv0 hz0; go_wp2_with fail; rewrite [show ((w.alloc (.cells ([.int .i64 R, .int .i64 C, .slice (some ⟨b, o, none⟩) l.length cap] : List Value).toArray 25)).alloc (.cells ([.int .i64 x, .int .i64 y] : List Value).toArray 27)).alloc (.cells ([.int .i64 0, .int .i64 0, .slice none 0 0] : List Value).toArray 25) = v0 from HV.out]; clear HV
  refine (spec_boOwn _ _ _ _ _ l _ (by omega) (by omega) ((hr.below B0).mono B0.size)).mono ?_; rintro e w1 ⟨A1, c1, rfl, o1, n1, b1⟩
  obtain ⟨g, rest, rfl, hw⟩ := o1 (by rw [flat_length]; omega)
  have X1 := X1.below b1 X1.lt
  have X2 := X2.below b1 X2.lt
  have hg : v0.heap.size ≤ g := n1 _ rfl
  have hgl := hw.lt
  have z0 : w.heap.size < w1.heap.size := by omega
  have z1 : w.heap.size + 1 < w1.heap.size := by omega
  have z2 : w.heap.size + 1 + 1 < w1.heap.size := by omega
  have k0 : w1.cell? ⟨w.heap.size + 1, 0, none⟩ = some (.int .i64 x) := (X1.cell 0).trans rfl
  have k1 : w1.cell? ⟨w.heap.size + 1, 1, none⟩ = some (.int .i64 y) := (X1.cell 1).trans rfl
  have q0 : w1.cell? ⟨w.heap.size + 1 + 1, 0, none⟩ = some (.int .i64 0) := (X2.cell 0).trans rfl
  have q1 : w1.cell? ⟨w.heap.size + 1 + 1, 1, none⟩ = some (.int .i64 0) := (X2.cell 1).trans rfl
  have q2 : w1.cell? ⟨w.heap.size + 1 + 1, 2, none⟩ = some (.slice none 0 0) := (X2.cell 2).trans rfl
  have qf0 := X2.frozen 0
  have qf1 := X2.frozen 1
  have qf2 := X2.frozen 2
  clear k0 k1 q0 q1 q2 qf0 qf1 qf2
  have B1 := B0.trans (b1.mono hb0)
  go_upto_region 2 with (fail)
  have b2 : Below w1.heap.size w1 (w1.alloc (.cells #[.int .i64 R, .int .i64 C, .slice (some ⟨g, 0, none⟩) l.length c1] 25)) := (Below.refl _ _).alloc (Nat.le_refl _) _
  have X3 : Whole (w1.alloc (.cells #[.int .i64 R, .int .i64 C, .slice (some ⟨g, 0, none⟩) l.length c1] 25)) w1.heap.size 25 [.int .i64 R, .int .i64 C, .slice (some ⟨g, 0, none⟩) l.length c1] := heap_alloc_new w1 _
  replace X1 := X1.below b2 X1.lt
  replace X2 := X2.below b2 X2.lt
  replace hw := hw.below b2 hgl
  replace B1 := B1.trans (b2.mono B1.size)
  have h3 := X3.lt
  clear b1 b2 o1 n1 X0
  generalize w1.alloc (.cells #[.int .i64 R, .int .i64 C, .slice (some ⟨g, 0, none⟩) l.length c1] 25) = v2 at *
  have k0 : v2.cell? ⟨w.heap.size + 1, 0, none⟩ = some (.int .i64 x) := (X1.cell 0).trans rfl
  have k1 : v2.cell? ⟨w.heap.size + 1, 1, none⟩ = some (.int .i64 y) := (X1.cell 1).trans rfl
  have k2 : v2.cell? ⟨w1.heap.size, 2, none⟩ = some (.slice (some ⟨g, 0, none⟩) l.length c1) := (X3.cell 2).trans rfl
  have hfl := flat_length l
  have e0 : n * 2 < (flat l).length := by omega
  have e1 : n * 2 + 1 < (flat l).length := by omega
  have u0 : v2.cell? ⟨g, n * 2, none⟩ = some (flat l)[n * 2] := by rw [hw.cell, List.getElem?_append_left e0, List.getElem?_eq_getElem e0]
  have u1 : v2.cell? ⟨g, n * 2 + 1, none⟩ = some (flat l)[n * 2 + 1] := by rw [hw.cell, List.getElem?_append_left e1, List.getElem?_eq_getElem e1]
  have f0 := hw.frozen (n * 2)
  have f1 := hw.frozen (n * 2 + 1)
  generalize (flat l)[n * 2] = p0 at *
  generalize (flat l)[n * 2 + 1] = p1 at *
  have HW := Lib.hid hw
  clear hw hfl e0 e1
  go_upto_region 3 with (fail)
  have HF := flat_set l n x y hlt rest
  have hw2 := (HW.out.set (n * 2) (.int .i64 x)).set (n * 2 + 1) (.int .i64 y)
  rw [HF] at hw2
  replace X2 := (X2.set_far ⟨g, n * 2, none⟩ (.int .i64 x) (by show g ≠ _; omega)).set_far ⟨g, n * 2 + 1, none⟩ (.int .i64 y) (by show g ≠ _; omega)
  replace X3 := (X3.set_far ⟨g, n * 2, none⟩ (.int .i64 x) (by show g ≠ _; omega)).set_far ⟨g, n * 2 + 1, none⟩ (.int .i64 y) (by show g ≠ _; omega)
  replace B1 : Below w.heap.size w ((v2.setCell ⟨g, n * 2, none⟩ (.int .i64 x)).setCell ⟨g, n * 2 + 1, none⟩ (.int .i64 y)) := (B1.setCell (p := ⟨g, n * 2, none⟩) (by show w.heap.size ≤ g; omega) _).setCell (p := ⟨g, n * 2 + 1, none⟩) (by show w.heap.size ≤ g; omega) _
  clear u0 u1 f0 f1 k0 k1 k2 HF HW X1
  generalize (v2.setCell ⟨g, n * 2, none⟩ (.int .i64 x)).setCell ⟨g, n * 2 + 1, none⟩ (.int .i64 y) = v3 at *
  have j0 : v3.cell? ⟨w1.heap.size, 0, none⟩ = some (.int .i64 R) := (X3.cell 0).trans rfl
  have j1 : v3.cell? ⟨w1.heap.size, 1, none⟩ = some (.int .i64 C) := (X3.cell 1).trans rfl
  have j2 : v3.cell? ⟨w1.heap.size, 2, none⟩ = some (.slice (some ⟨g, 0, none⟩) l.length c1) := (X3.cell 2).trans rfl
  have q0 : v3.cell? ⟨w.heap.size + 1 + 1, 0, none⟩ = some (.int .i64 0) := (X2.cell 0).trans rfl
  have q1 : v3.cell? ⟨w.heap.size + 1 + 1, 1, none⟩ = some (.int .i64 0) := (X2.cell 1).trans rfl
  have q2 : v3.cell? ⟨w.heap.size + 1 + 1, 2, none⟩ = some (.slice none 0 0) := (X2.cell 2).trans rfl
  have qf0 := X2.frozen 0
  have qf1 := X2.frozen 1
  have qf2 := X2.frozen 2
  go_wp2
  refine bodyPost_ret (v := .agg #[.int .i64 R, .int .i64 C, .slice (some ⟨g, 0, none⟩) l.length c1]) ?_ rfl ?_; (focus (simp [results, Try.results74, go_sem, *]; done))
  rw [show l.length = (l.set n (x, y)).length by rw [List.length_set]]
  refine PostD.mk (((Own.set_far ?_ _ _ ?_).set_far _ _ ?_).set_far _ _ ?_) (fun a ha => by cases ha; show w.heap.size ≤ g; omega) (by (repeat' (first | (with_reducible exact Below.refl _ _) | (with_reducible assumption) | (with_reducible refine Below.alloc ?_ ?_ _) | (with_reducible refine Below.setCell ?_ ?_ _) | (with_reducible refine Below.drew ?_) | (with_reducible refine below_drewN ?_ _) | (with_reducible refine Below.trans ?_ (Below.mono (by assumption) ?_)) | (with_reducible exact Nat.le_refl _) | (simp; done) | omega | (simp at *; omega))))
  · exact fun _ => ⟨g, rest, rfl, hw2⟩
  all_goals (intro a ha; cases ha; show w.heap.size + 1 + 1 ≠ g; omega)
def okPut (R C : Int) (l : List (Int × Int)) (i j x y : Int) : Bool := hasB R C l i j && good x y
def putL (R C : Int) (l : List (Int × Int)) (i j x y : Int) : List (Int × Int) := if okPut R C l i j x y then l.set (atI C i j) (x, y) else []
theorem putL_len (R C : Int) (l : List (Int × Int)) (i j x y : Int) (h : l.length ≤ 1048576) : (putL R C l i j x y).length ≤ 1048576 := by
  unfold putL
  split
  · rw [List.length_set]; exact h
  · simp
theorem spec_PutCell_has (R C : Int) (A : Option Addr) (cap : Nat) (l : List (Int × Int)) (i j x y : Int) (w : World) (hh : hasB R C l i j = false) (hn : l.length ≤ 1048576) (hr : Rd w w.heap.size A (flat l)) : Calls Try.prog 16 #[.agg #[.int .i64 R, .int .i64 C, .slice A l.length cap], .int .i64 i, .int .i64 j, .agg #[.int .i64 x, .int .i64 y]] w (PostB w 0 0 [] false) := by
  have HH := Lib.hid hh
  clear hh
  go_enter Try.func16, Try.ntmps16
  obtain ⟨v0, hv0, X0, X1, X2, B0, hz0⟩ := three_boxes w [.int .i64 R, .int .i64 C, .slice A l.length cap] 25 [.int .i64 x, .int .i64 y] 27 [.int .i64 0, .int .i64 0, .slice none 0 0] 25; have HV := Lib.hid hv0; have hx : w.heap.size + 1 + 1 < v0.heap.size := (by omega); have hz : w.heap.size + 1 < v0.heap.size := (by omega); have hy : w.heap.size < v0.heap.size := (by omega); have hb0 := B0.size; clear hv0 hz0; go_wp2_with fail; rewrite [show ((w.alloc (.cells ([.int .i64 R, .int .i64 C, .slice A l.length cap] : List Value).toArray 25)).alloc (.cells ([.int .i64 x, .int .i64 y] : List Value).toArray 27)).alloc (.cells ([.int .i64 0, .int .i64 0, .slice none 0 0] : List Value).toArray 25) = v0 from HV.out]; clear HV
  refine (spec_boHas _ _ _ _ l _ _ _ hn ((hr.below B0).mono B0.size)).mono ?_; rintro e w1 ⟨rfl, b1⟩
  rewrite [HH.out]
  replace X0 := X0.below b1 X0.lt; replace X1 := X1.below b1 X1.lt; replace X2 := X2.below b1 X2.lt; replace B0 := B0.trans (b1.mono B0.size); have hy := X0.lt; have hz := X1.lt; have hx := X2.lt; have hb0 := B0.size; clear b1
  have X2k0 : w1.cell? ⟨w.heap.size + 1 + 1, 0, none⟩ = some (.int .i64 0) := (X2.cell 0).trans rfl; have X2k1 : w1.cell? ⟨w.heap.size + 1 + 1, 1, none⟩ = some (.int .i64 0) := (X2.cell 1).trans rfl; have X2k2 : w1.cell? ⟨w.heap.size + 1 + 1, 2, none⟩ = some (.slice none 0 0) := (X2.cell 2).trans rfl
  have X2f0 := X2.frozen 0; have X2f1 := X2.frozen 1; have X2f2 := X2.frozen 2
  go_wp2
  refine bodyPost_ret (v := .tuple #[.agg #[.int .i64 0, .int .i64 0, .slice none 0 0], .bool false]) ?_ rfl ?_; (focus (simp [results, Try.results16, go_sem, *]; done))
  exact PostB.none_ (by (repeat' (first | (with_reducible exact Below.refl _ _) | (with_reducible assumption) | (with_reducible refine Below.alloc ?_ ?_ _) | (with_reducible refine Below.setCell ?_ ?_ _) | (with_reducible refine Below.drew ?_) | (with_reducible refine below_drewN ?_ _) | (with_reducible refine Below.trans ?_ (Below.mono (by assumption) ?_)) | (with_reducible exact Nat.le_refl _) | (simp; done) | omega | (simp at *; omega))))
theorem spec_PutCell_bad (R C : Int) (A : Option Addr) (cap : Nat) (l : List (Int × Int)) (i j x y : Int) (w : World) (hh : hasB R C l i j = true) (hg : good x y = false) (hn : l.length ≤ 1048576) (hr : Rd w w.heap.size A (flat l)) : Calls Try.prog 16 #[.agg #[.int .i64 R, .int .i64 C, .slice A l.length cap], .int .i64 i, .int .i64 j, .agg #[.int .i64 x, .int .i64 y]] w (PostB w 0 0 [] false) := by
  have HH := Lib.hid hh
  have HG := Lib.hid hg
  clear hh hg
  go_enter Try.func16, Try.ntmps16
  obtain ⟨v0, hv0, X0, X1, X2, B0, hz0⟩ := three_boxes w [.int .i64 R, .int .i64 C, .slice A l.length cap] 25 [.int .i64 x, .int .i64 y] 27 [.int .i64 0, .int .i64 0, .slice none 0 0] 25; have HV := Lib.hid hv0; have hx : w.heap.size + 1 + 1 < v0.heap.size := (by omega); have hz : w.heap.size + 1 < v0.heap.size := (by omega); have hy : w.heap.size < v0.heap.size := (by omega); have hb0 := B0.size; clear hv0 hz0; go_wp2_with fail; rewrite [show ((w.alloc (.cells ([.int .i64 R, .int .i64 C, .slice A l.length cap] : List Value).toArray 25)).alloc (.cells ([.int .i64 x, .int .i64 y] : List Value).toArray 27)).alloc (.cells ([.int .i64 0, .int .i64 0, .slice none 0 0] : List Value).toArray 25) = v0 from HV.out]; clear HV
  refine (spec_boHas _ _ _ _ l _ _ _ hn ((hr.below B0).mono B0.size)).mono ?_; rintro e w1 ⟨rfl, b1⟩
  rewrite [HH.out]
  replace X0 := X0.below b1 X0.lt; replace X1 := X1.below b1 X1.lt; replace X2 := X2.below b1 X2.lt; replace B0 := B0.trans (b1.mono B0.size); have hy := X0.lt; have hz := X1.lt; have hx := X2.lt; have hb0 := B0.size; clear b1
  have X1k0 : w1.cell? ⟨w.heap.size + 1, 0, none⟩ = some (.int .i64 x) := (X1.cell 0).trans rfl; have X1k1 : w1.cell? ⟨w.heap.size + 1, 1, none⟩ = some (.int .i64 y) := (X1.cell 1).trans rfl
  go_wp2_with fail
  refine (spec_paGood _ _ _).mono ?_; rintro e w2 ⟨rfl, b2⟩
  rewrite [HG.out]
  clear X1k0 X1k1
  replace X0 := X0.below b2 X0.lt; replace X1 := X1.below b2 X1.lt; replace X2 := X2.below b2 X2.lt; replace B0 := B0.trans (b2.mono B0.size); have hy := X0.lt; have hz := X1.lt; have hx := X2.lt; have hb0 := B0.size; clear b2
  have X2k0 : w2.cell? ⟨w.heap.size + 1 + 1, 0, none⟩ = some (.int .i64 0) := (X2.cell 0).trans rfl; have X2k1 : w2.cell? ⟨w.heap.size + 1 + 1, 1, none⟩ = some (.int .i64 0) := (X2.cell 1).trans rfl; have X2k2 : w2.cell? ⟨w.heap.size + 1 + 1, 2, none⟩ = some (.slice none 0 0) := (X2.cell 2).trans rfl
  have X2f0 := X2.frozen 0; have X2f1 := X2.frozen 1; have X2f2 := X2.frozen 2
  go_wp2
  refine bodyPost_ret (v := .tuple #[.agg #[.int .i64 0, .int .i64 0, .slice none 0 0], .bool false]) ?_ rfl ?_; (focus (simp [results, Try.results16, go_sem, *]; done))
  exact PostB.none_ (by (repeat' (first | (with_reducible exact Below.refl _ _) | (with_reducible assumption) | (with_reducible refine Below.alloc ?_ ?_ _) | (with_reducible refine Below.setCell ?_ ?_ _) | (with_reducible refine Below.drew ?_) | (with_reducible refine below_drewN ?_ _) | (with_reducible refine Below.trans ?_ (Below.mono (by assumption) ?_)) | (with_reducible exact Nat.le_refl _) | (simp; done) | omega | (simp at *; omega))))
theorem spec_PutCell_yes (R C : Int) (A : Option Addr) (cap : Nat) (l : List (Int × Int)) (i j x y : Int) (w : World) (hh : hasB R C l i j = true) (hg : good x y = true) (hn : l.length ≤ 1048576) (hr : Rd w w.heap.size A (flat l)) : Calls Try.prog 16 #[.agg #[.int .i64 R, .int .i64 C, .slice A l.length cap], .int .i64 i, .int .i64 j, .agg #[.int .i64 x, .int .i64 y]] w (PostB w R C (l.set (atI C i j) (x, y)) true) := by
  have HH := Lib.hid hh
  have HG := Lib.hid hg
  obtain ⟨hgb, hib⟩ := hasB_and hh
  obtain ⟨_, _, hlt, h90⟩ := at_bound hgb hib
  obtain ⟨m1, m2⟩ := wrap_at hgb hib
  obtain ⟨b, o, rfl, hbl, hc⟩ := hr (by rw [flat_length]; omega)
  have hr' : Rd w w.heap.size (some ⟨b, o, none⟩) (flat l) := fun _ => ⟨b, o, rfl, hbl, hc⟩
  clear hr hc hh hg hgb hib
  generalize atI C i j = n at *
  go_enter Try.func16, Try.ntmps16
  obtain ⟨v0, hv0, X0, X1, X2, B0, hz0⟩ := three_boxes w [.int .i64 R, .int .i64 C, .slice (some ⟨b, o, none⟩) l.length cap] 25 [.int .i64 x, .int .i64 y] 27 [.int .i64 0, .int .i64 0, .slice none 0 0] 25; have HV := Lib.hid hv0; have hx : w.heap.size + 1 + 1 < v0.heap.size := (by omega); have hz : w.heap.size + 1 < v0.heap.size := (by omega); have hy : w.heap.size < v0.heap.size := (by omega); have hb0 := B0.size; clear hv0 hz0; go_wp2_with fail; rewrite [show ((w.alloc (.cells ([.int .i64 R, .int .i64 C, .slice (some ⟨b, o, none⟩) l.length cap] : List Value).toArray 25)).alloc (.cells ([.int .i64 x, .int .i64 y] : List Value).toArray 27)).alloc (.cells ([.int .i64 0, .int .i64 0, .slice none 0 0] : List Value).toArray 25) = v0 from HV.out]; clear HV
  refine (spec_boHas _ _ _ _ l _ _ _ hn ((hr'.below B0).mono B0.size)).mono ?_; rintro e w1 ⟨rfl, b1⟩
  rewrite [HH.out]
  replace X0 := X0.below b1 X0.lt; replace X1 := X1.below b1 X1.lt; replace X2 := X2.below b1 X2.lt; replace B0 := B0.trans (b1.mono B0.size); have hy := X0.lt; have hz := X1.lt; have hx := X2.lt; have hb0 := B0.size; clear b1
  have X1k0 : w1.cell? ⟨w.heap.size + 1, 0, none⟩ = some (.int .i64 x) := (X1.cell 0).trans rfl; have X1k1 : w1.cell? ⟨w.heap.size + 1, 1, none⟩ = some (.int .i64 y) := (X1.cell 1).trans rfl
  go_wp2_with fail
  refine (spec_paGood _ _ _).mono ?_; rintro e w2 ⟨rfl, b2⟩
  rewrite [HG.out]
  clear X1k0 X1k1
  replace X0 := X0.below b2 X0.lt; replace X1 := X1.below b2 X1.lt; replace X2 := X2.below b2 X2.lt; replace B0 := B0.trans (b2.mono B0.size); have hy := X0.lt; have hz := X1.lt; have hx := X2.lt; have hb0 := B0.size; clear b2
  have X1k0 : w2.cell? ⟨w.heap.size + 1, 0, none⟩ = some (.int .i64 x) := (X1.cell 0).trans rfl; have X1k1 : w2.cell? ⟨w.heap.size + 1, 1, none⟩ = some (.int .i64 y) := (X1.cell 1).trans rfl
  have X0k0 : w2.cell? ⟨w.heap.size, 0, none⟩ = some (.int .i64 R) := (X0.cell 0).trans rfl; have X0k1 : w2.cell? ⟨w.heap.size, 1, none⟩ = some (.int .i64 C) := (X0.cell 1).trans rfl; have X0k2 : w2.cell? ⟨w.heap.size, 2, none⟩ = some (.slice (some ⟨b, o, none⟩) l.length cap) := (X0.cell 2).trans rfl
  go_wp2_with fail
  refine (spec_boWith _ _ _ _ _ l n _ _ _ hlt h90 ((hr'.below B0).mono B0.size)).mono ?_; rintro e w3 ⟨A3, c3, rfl, o3, n3, b3⟩
  clear X1k0 X1k1
  clear X0k0 X0k1 X0k2
  have ho := n3.mono hb0
  have hap : ∀ a, A3 = some a → w.heap.size + 1 + 1 ≠ a.block := fun a ha => by have h := n3 a ha; omega
  replace X0 := X0.below b3 X0.lt; replace X1 := X1.below b3 X1.lt; replace X2 := X2.below b3 X2.lt; replace B0 := B0.trans (b3.mono B0.size); have hy := X0.lt; have hz := X1.lt; have hx := X2.lt; have hb0 := B0.size; clear b3
  have X2k0 : w3.cell? ⟨w.heap.size + 1 + 1, 0, none⟩ = some (.int .i64 0) := (X2.cell 0).trans rfl; have X2k1 : w3.cell? ⟨w.heap.size + 1 + 1, 1, none⟩ = some (.int .i64 0) := (X2.cell 1).trans rfl; have X2k2 : w3.cell? ⟨w.heap.size + 1 + 1, 2, none⟩ = some (.slice none 0 0) := (X2.cell 2).trans rfl
  have X2f0 := X2.frozen 0; have X2f1 := X2.frozen 1; have X2f2 := X2.frozen 2
  go_wp2
  refine bodyPost_ret (v := .tuple #[.agg #[.int .i64 R, .int .i64 C, .slice A3 (l.set n (x, y)).length c3], .bool true]) ?_ rfl ?_; (focus (simp [results, Try.results16, go_sem, *]; done))
  exact PostB.mk (((o3.set_far _ _ hap).set_far _ _ hap).set_far _ _ hap) ho (by (repeat' (first | (with_reducible exact Below.refl _ _) | (with_reducible assumption) | (with_reducible refine Below.alloc ?_ ?_ _) | (with_reducible refine Below.setCell ?_ ?_ _) | (with_reducible refine Below.drew ?_) | (with_reducible refine below_drewN ?_ _) | (with_reducible refine Below.trans ?_ (Below.mono (by assumption) ?_)) | (with_reducible exact Nat.le_refl _) | (simp; done) | omega | (simp at *; omega))))
theorem putB_post {w w' : World} {R C : Int} {l : List (Int × Int)} {i j x y : Int} {e : Ending} {ok : Bool} (h : okPut R C l i j x y = ok) (hp : if ok then PostB w R C (l.set (atI C i j) (x, y)) true e w' else PostB w 0 0 [] false e w') :
    PostB w (selI (okPut R C l i j x y) R) (selI (okPut R C l i j x y) C) (putL R C l i j x y) (okPut R C l i j x y) e w' := by
  unfold putL
  rw [h]
  cases ok
  · exact hp
  · exact hp
theorem spec_PutCell (R C : Int) (A : Option Addr) (cap : Nat) (l : List (Int × Int)) (i j x y : Int) (w : World) (hn : l.length ≤ 1048576) (hr : Rd w w.heap.size A (flat l)) :
    Calls Try.prog 16 #[.agg #[.int .i64 R, .int .i64 C, .slice A l.length cap], .int .i64 i, .int .i64 j, .agg #[.int .i64 x, .int .i64 y]] w (PostB w (selI (okPut R C l i j x y) R) (selI (okPut R C l i j x y) C) (putL R C l i j x y) (okPut R C l i j x y)) := by
  rcases Bool.eq_false_or_eq_true (hasB R C l i j) with hh | hh
  · rcases Bool.eq_false_or_eq_true (good x y) with hg | hg
    · exact (spec_PutCell_yes R C A cap l i j x y w hh hg hn hr).mono fun e w' h => putB_post (ok := true) (by unfold okPut; rw [hh, hg]; rfl) h
    · exact (spec_PutCell_bad R C A cap l i j x y w hh hg hn hr).mono fun e w' h => putB_post (ok := false) (by unfold okPut; rw [hg, Bool.and_false]) h
  · exact (spec_PutCell_has R C A cap l i j x y w hh hn hr).mono fun e w' h => putB_post (ok := false) (by unfold okPut; rw [hh]; rfl) h
end Go.Proofs.Ytpfjbecpfdgnpaa
