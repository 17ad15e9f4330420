/- Contracts of the program and of the model, walked, part 2 of 8. No condition but what each says. -/
import Derived.Test.YtlambflmabecfaaM1
import Derived.Deep.Cut
import Derived.StillTailTactics
import Derived.Deep.Slices
import Derived.ChangeSame
import Derived.Maps.OwnSet
namespace Go.Proofs.Ytlambflmabecfaa
open Go.ChangeShapes Go.WideShapes Go.ChangeAt Go.RowKit Go.Joins Go.Deep
set_option linter.unusedSimpArgs false
set_option linter.unusedVariables false
set_option maxRecDepth 100000
set_option maxHeartbeats 2000000
/-- Eight cells stored one after the other. -/
def mset (w : World) (g : Nat) (a0 a1 a2 a3 a4 a5 a6 a7 : Value) : World :=
  (((((((w.setCell ⟨g, 0, none⟩ a0).setCell ⟨g, 1, none⟩ a1).setCell ⟨g, 2, none⟩ a2).setCell ⟨g, 3, none⟩ a3).setCell ⟨g, 4, none⟩ a4).setCell ⟨g, 5, none⟩ a5).setCell ⟨g, 6, none⟩ a6).setCell ⟨g, 7, none⟩ a7
theorem mset_fold (w : World) (g : Nat) (a0 a1 a2 a3 a4 a5 a6 a7 : Value) : (((((((w.setCell ⟨g, 0, none⟩ a0).setCell ⟨g, 1, none⟩ a1).setCell ⟨g, 2, none⟩ a2).setCell ⟨g, 3, none⟩ a3).setCell ⟨g, 4, none⟩ a4).setCell ⟨g, 5, none⟩ a5).setCell ⟨g, 6, none⟩ a6).setCell ⟨g, 7, none⟩ a7 = mset w g a0 a1 a2 a3 a4 a5 a6 a7 := rfl
theorem Whole.mset {w : World} {g : Nat} {t : TypeId} {b0 b1 b2 b3 b4 b5 b6 b7 : Value} (h : Whole w g t [b0, b1, b2, b3, b4, b5, b6, b7]) (a0 a1 a2 a3 a4 a5 a6 a7 : Value) : Whole (mset w g a0 a1 a2 a3 a4 a5 a6 a7) g t [a0, a1, a2, a3, a4, a5, a6, a7] :=
  (((((((h.set 0 a0).set 1 a1).set 2 a2).set 3 a3).set 4 a4).set 5 a5).set 6 a6).set 7 a7
theorem Whole.mset_far {w : World} {k g : Nat} {t : TypeId} {xs : List Value} (h : Whole w k t xs) (hne : g ≠ k) {a0 a1 a2 a3 a4 a5 a6 a7 : Value} : Whole (Proofs.Ytlambflmabecfaa.mset w g a0 a1 a2 a3 a4 a5 a6 a7) k t xs :=
  (((((((h.set_far _ _ hne).set_far _ _ hne).set_far _ _ hne).set_far _ _ hne).set_far _ _ hne).set_far _ _ hne).set_far _ _ hne).set_far _ _ hne
theorem below_mset {B : Nat} {w v : World} {g : Nat} (h : Below B w v) (hB : B ≤ g) {a0 a1 a2 a3 a4 a5 a6 a7 : Value} : Below B w (mset v g a0 a1 a2 a3 a4 a5 a6 a7) :=
  (((((((h.setCell (p := ⟨g, 0, none⟩) hB _).setCell (p := ⟨g, 1, none⟩) hB _).setCell (p := ⟨g, 2, none⟩) hB _).setCell (p := ⟨g, 3, none⟩) hB _).setCell (p := ⟨g, 4, none⟩) hB _).setCell (p := ⟨g, 5, none⟩) hB _).setCell (p := ⟨g, 6, none⟩) hB _).setCell (p := ⟨g, 7, none⟩) hB _
theorem size_mset (w : World) (g : Nat) (a0 a1 a2 a3 a4 a5 a6 a7 : Value) : (mset w g a0 a1 a2 a3 a4 a5 a6 a7).heap.size = w.heap.size := by
  unfold mset
  simp only [World.size_setCell]
theorem mset_only {w : World} {g : Nat} {a0 a1 a2 a3 a4 a5 a6 a7 : Value} {k : Nat} (h : k ≠ g) : (mset w g a0 a1 a2 a3 a4 a5 a6 a7).heap[k]? = w.heap[k]? := by
  unfold mset
  rw [Below.heap_setCell _ _ _ _ h, Below.heap_setCell _ _ _ _ h, Below.heap_setCell _ _ _ _ h, Below.heap_setCell _ _ _ _ h, Below.heap_setCell _ _ _ _ h, Below.heap_setCell _ _ _ _ h, Below.heap_setCell _ _ _ _ h, Below.heap_setCell _ _ _ _ h]
theorem gb_one (v : World) (g j : Nat) (u : Value) : v.grownBy (v.setCell ⟨g, j, none⟩ u) (some g) := ⟨rfl, rfl, rfl, by rw [World.size_setCell]; exact Nat.le_refl _, fun k _ hk => Below.heap_setCell _ _ _ _ (fun e => hk (by rw [e]))⟩
theorem gb_and {w v v' : World} {row : Option Nat} (h : w.grownBy v row) (hg : v.grownBy v' row) : w.grownBy v' row :=
  ⟨hg.os.trans h.os, hg.tape.trans h.tape, hg.output.trans h.output, Nat.le_trans h.size hg.size, fun k hk hne => (hg.block k (Nat.lt_of_lt_of_le hk h.size) hne).trans (h.block k hk hne)⟩
theorem grown_mset (w : World) (g : Nat) (a0 a1 a2 a3 a4 a5 a6 a7 : Value) : w.grownBy (mset w g a0 a1 a2 a3 a4 a5 a6 a7) (some g) :=
  gb_and (gb_and (gb_and (gb_and (gb_and (gb_and (gb_and (gb_one w g 0 a0) (gb_one _ g 1 a1)) (gb_one _ g 2 a2)) (gb_one _ g 3 a3)) (gb_one _ g 4 a4)) (gb_one _ g 5 a5)) (gb_one _ g 6 a6)) (gb_one _ g 7 a7)
theorem own_mset {w : World} {g : Nat} {A : Option Addr} {t t' : TypeId} {xs ys : List Value} (h : Own w A t xs) (hw : Whole w g t' ys) (hne : t ≠ t') {a0 a1 a2 a3 a4 a5 a6 a7 : Value} : Own (mset w g a0 a1 a2 a3 a4 a5 a6 a7) A t xs := fun hx => by
  obtain ⟨k, rest, rfl, hk⟩ := h hx
  exact ⟨k, rest, rfl, (mset_only (own_apart h hw hne hx rfl)).trans hk⟩
theorem row_mset {w : World} {base g size n : Nat} {e : TypeId} {v : Value} {xs : List Value} (h : w.ownsRow base e size v n xs) (hne : some g ≠ v.ownBlock) {a0 a1 a2 a3 a4 a5 a6 a7 : Value} : (mset w g a0 a1 a2 a3 a4 a5 a6 a7).ownsRow base e size v n xs := by
  refine ⟨h.1, ?_⟩
  rcases h.2 with h2 | ⟨k, cap, cur, rfl, h2, hh, h3⟩
  · exact .inl h2
  · exact .inr ⟨k, cap, cur, rfl, h2, (mset_only (fun e' => hne (by rw [← e']; rfl))).trans hh, h3⟩
theorem szMachine_any (R C : Int) (A : Option Addr) (n cap : Nat) (p q bl rd nx : Int) (left : Int) (w : World) (hn : n ≤ maxLen) (h0 : 0 ≤ left) (h1 : left ≤ 1048576) :
    Calls Try.prog 15 #[.agg #[.int .i64 R, .int .i64 C, .slice A n cap, .int .i64 p, .int .i64 q, .int .i64 bl, .int .i64 rd, .int .i64 nx], .int .i64 left] w fun e w' => e = .returned (.int .i64 (if left < n then -1 else left - n)) ∧ Below w.heap.size w w' := by
  by_cases hl : left < n
  · go_enter Try.func15, Try.ntmps15
    go_wp2_with fail
    refine (szBoard_any _ _ _ _ _ _ _ hn h0 h1).mono ?_; rintro e w1 ⟨rfl, b1⟩
    rw [if_pos hl]
    have HL := Lib.hid hl
    clear hl
    go_wp2
    go_returns
    exact ⟨ret_int (by first | rfl | exact (if_pos HL.out).symm), by (repeat' (first | (with_reducible exact Below.refl _ _) | (with_reducible assumption) | (with_reducible refine Below.alloc ?_ ?_ _) | (with_reducible refine Below.setCell ?_ ?_ _) | (with_reducible refine Below.drew ?_) | (with_reducible refine below_drewN ?_ _) | (with_reducible refine Below.trans ?_ (Below.mono (by assumption) ?_)) | (with_reducible exact Nat.le_refl _) | (simp; done) | omega | (simp at *; omega)))⟩
  · go_enter Try.func15, Try.ntmps15
    go_wp2_with fail
    refine (szBoard_any _ _ _ _ _ _ _ hn h0 h1).mono ?_; rintro e w1 ⟨rfl, b1⟩
    rw [if_neg (by omega)]
    go_wp2
    go_returns
    exact ⟨ret_int (by first | rfl | exact (if_neg (by omega)).symm), by (repeat' (first | (with_reducible exact Below.refl _ _) | (with_reducible assumption) | (with_reducible refine Below.alloc ?_ ?_ _) | (with_reducible refine Below.setCell ?_ ?_ _) | (with_reducible refine Below.drew ?_) | (with_reducible refine below_drewN ?_ _) | (with_reducible refine Below.trans ?_ (Below.mono (by assumption) ?_)) | (with_reducible exact Nat.le_refl _) | (simp; done) | omega | (simp at *; omega)))⟩
theorem toMachine_any (R C : Int) (A : Option Addr) (cap : Nat) (l : List (Int × Int)) (p q bl rd nx : Int) (w : World) (hn : l.length ≤ 1048576) (hr : Rd w w.heap.size A (flat l)) :
    Calls Try.prog 17 #[.agg #[.int .i64 R, .int .i64 C, .slice A l.length cap, .int .i64 p, .int .i64 q, .int .i64 bl, .int .i64 rd, .int .i64 nx]] w fun e w' => ∃ g, e = .returned (.agg #[.int .i64 R, .int .i64 C, .slice (some ⟨g, 0, none⟩) l.length l.length, .int .i64 p, .int .i64 q, .int .i64 bl, .int .i64 rd, .int .i64 nx]) ∧ Whole w' g 104 (flat l) ∧ w.heap.size ≤ g ∧ Below w.heap.size w w' := by
  go_enter Try.func17, Try.ntmps17
  obtain ⟨v0, hv0, X0, X1, X2, B0, hz0⟩ := three_boxes w [.int .i64 R, .int .i64 C, .slice A l.length cap, .int .i64 p, .int .i64 q, .int .i64 bl, .int .i64 rd, .int .i64 nx] 33 [.int .i64 0, .int .i64 0, .slice none 0 0, .int .i64 0, .int .i64 0, .int .i64 0, .int .i64 0, .int .i64 0] 41 [.int .i64 0, .int .i64 0, .slice none 0 0, .int .i64 0, .int .i64 0, .int .i64 0, .int .i64 0, .int .i64 0] 41; have HV := Lib.hid hv0; have hx : w.heap.size + 1 + 1 < v0.heap.size := (by omega); have hz : w.heap.size + 1 < v0.heap.size := (by omega); have hy : w.heap.size < v0.heap.size := (by omega); have hb0 := B0.size; clear hv0 hz0; go_wp2_with fail; rewrite [show ((w.alloc (.cells ([.int .i64 R, .int .i64 C, .slice A l.length cap, .int .i64 p, .int .i64 q, .int .i64 bl, .int .i64 rd, .int .i64 nx] : List Value).toArray 33)).alloc (.cells ([.int .i64 0, .int .i64 0, .slice none 0 0, .int .i64 0, .int .i64 0, .int .i64 0, .int .i64 0, .int .i64 0] : List Value).toArray 41)).alloc (.cells ([.int .i64 0, .int .i64 0, .slice none 0 0, .int .i64 0, .int .i64 0, .int .i64 0, .int .i64 0, .int .i64 0] : List Value).toArray 41) = v0 from HV.out]; clear HV
  have X0k0 : v0.cell? ⟨w.heap.size, 0, none⟩ = some (.int .i64 R) := (X0.cell 0).trans rfl; have X0k1 : v0.cell? ⟨w.heap.size, 1, none⟩ = some (.int .i64 C) := (X0.cell 1).trans rfl; have X0k2 : v0.cell? ⟨w.heap.size, 2, none⟩ = some (.slice A l.length cap) := (X0.cell 2).trans rfl; have X0k3 : v0.cell? ⟨w.heap.size, 3, none⟩ = some (.int .i64 p) := (X0.cell 3).trans rfl; have X0k4 : v0.cell? ⟨w.heap.size, 4, none⟩ = some (.int .i64 q) := (X0.cell 4).trans rfl; have X0k5 : v0.cell? ⟨w.heap.size, 5, none⟩ = some (.int .i64 bl) := (X0.cell 5).trans rfl
  have X0k6 : v0.cell? ⟨w.heap.size, 6, none⟩ = some (.int .i64 rd) := (X0.cell 6).trans rfl; have X0k7 : v0.cell? ⟨w.heap.size, 7, none⟩ = some (.int .i64 nx) := (X0.cell 7).trans rfl
  go_wp2_with fail
  refine (toBoard_any _ _ _ _ l _ hn ((hr.below B0).mono B0.size)).mono ?_; rintro e w1 ⟨g, rfl, t1, n1, b1⟩
  clear X0k0 X0k1 X0k2 X0k3 X0k4 X0k5 X0k6 X0k7
  have hg0 : v0.heap.size ≤ g := n1
  replace X0 := X0.below b1 X0.lt; replace X1 := X1.below b1 X1.lt; replace X2 := X2.below b1 X2.lt; replace B0 := B0.trans (b1.mono B0.size); have hy := X0.lt; have hz := X1.lt; have hx := X2.lt; have hb0 := B0.size; clear b1
  have hg : w.heap.size ≤ g := by omega
  have hne : w.heap.size + 1 ≠ g := by omega
  have hne' := hne.symm
  have hne2 : w.heap.size + 1 + 1 ≠ g := by omega
  have hne2' := hne2.symm
  have b3 : ∀ (u0 u1 u2 : Value), Below w.heap.size w1 (((w1.setCell ⟨w.heap.size + 1 + 1, 0, none⟩ u0).setCell ⟨w.heap.size + 1 + 1, 1, none⟩ u1).setCell ⟨w.heap.size + 1 + 1, 2, none⟩ u2) := fun u0 u1 u2 => by (repeat' (first | (with_reducible exact Below.refl _ _) | (with_reducible assumption) | (with_reducible refine Below.alloc ?_ ?_ _) | (with_reducible refine Below.setCell ?_ ?_ _) | (with_reducible refine Below.drew ?_) | (with_reducible refine below_drewN ?_ _) | (with_reducible refine Below.trans ?_ (Below.mono (by assumption) ?_)) | (with_reducible exact Nat.le_refl _) | (simp; done) | omega | (simp at *; omega)))
  have n20 : w.heap.size + 1 + 1 ≠ w.heap.size := by omega
  have n21 : w.heap.size + 1 + 1 ≠ w.heap.size + 1 := by omega
  have X2k0 : w1.cell? ⟨w.heap.size + 1 + 1, 0, none⟩ = some (.int .i64 0) := (X2.cell 0).trans rfl; have X2k1 : w1.cell? ⟨w.heap.size + 1 + 1, 1, none⟩ = some (.int .i64 0) := (X2.cell 1).trans rfl; have X2k2 : w1.cell? ⟨w.heap.size + 1 + 1, 2, none⟩ = some (.slice none 0 0) := (X2.cell 2).trans rfl
  have Y2f0 := X2.frozen 0
  have Y2f1 := X2.frozen 1
  have Y2f2 := X2.frozen 2
  go_upto_region 3 with (fail)
  obtain ⟨v2, hv2⟩ : ∃ v2, v2 = (((w1.setCell ⟨w.heap.size + 1 + 1, 0, none⟩ (.int .i64 R)).setCell ⟨w.heap.size + 1 + 1, 1, none⟩ (.int .i64 C)).setCell ⟨w.heap.size + 1 + 1, 2, none⟩ (.slice (some ⟨g, 0, none⟩) l.length l.length)) := ⟨_, rfl⟩
  replace X0 : Whole v2 w.heap.size 33 [.int .i64 R, .int .i64 C, .slice A l.length cap, .int .i64 p, .int .i64 q, .int .i64 bl, .int .i64 rd, .int .i64 nx] := by rw [hv2]; exact ((X0.set_far _ _ n20).set_far _ _ n20).set_far _ _ n20
  replace X1 : Whole v2 (w.heap.size + 1) 41 [.int .i64 0, .int .i64 0, .slice none 0 0, .int .i64 0, .int .i64 0, .int .i64 0, .int .i64 0, .int .i64 0] := by rw [hv2]; exact ((X1.set_far _ _ n21).set_far _ _ n21).set_far _ _ n21
  replace X2 : Whole v2 (w.heap.size + 1 + 1) 41 [.int .i64 R, .int .i64 C, .slice (some ⟨g, 0, none⟩) l.length l.length, .int .i64 0, .int .i64 0, .int .i64 0, .int .i64 0, .int .i64 0] := by rw [hv2]; exact ((X2.set 0 (.int .i64 R)).set 1 (.int .i64 C)).set 2 (.slice (some ⟨g, 0, none⟩) l.length l.length)
  replace t1 : Whole v2 g 104 (flat l) := by rw [hv2]; exact ((t1.set_far _ _ hne2).set_far _ _ hne2).set_far _ _ hne2
  replace B0 : Below w.heap.size w v2 := by rw [hv2]; exact B0.trans (b3 _ _ _)
  rewrite [← hv2]
  clear hv2 b3 Y2f0 Y2f1 Y2f2
  clear X2k0 X2k1 X2k2
  have hx := X2.lt
  have hy := X0.lt
  have hz := X1.lt
  have X0k3 : v2.cell? ⟨w.heap.size, 3, none⟩ = some (.int .i64 p) := (X0.cell 3).trans rfl
  have X0k4 : v2.cell? ⟨w.heap.size, 4, none⟩ = some (.int .i64 q) := (X0.cell 4).trans rfl
  have X0k5 : v2.cell? ⟨w.heap.size, 5, none⟩ = some (.int .i64 bl) := (X0.cell 5).trans rfl
  have X0k6 : v2.cell? ⟨w.heap.size, 6, none⟩ = some (.int .i64 rd) := (X0.cell 6).trans rfl
  have X0k7 : v2.cell? ⟨w.heap.size, 7, none⟩ = some (.int .i64 nx) := (X0.cell 7).trans rfl
  have X2k3 : v2.cell? ⟨w.heap.size + 1 + 1, 3, none⟩ = some (.int .i64 0) := (X2.cell 3).trans rfl
  have X2k4 : v2.cell? ⟨w.heap.size + 1 + 1, 4, none⟩ = some (.int .i64 0) := (X2.cell 4).trans rfl
  have X2k5 : v2.cell? ⟨w.heap.size + 1 + 1, 5, none⟩ = some (.int .i64 0) := (X2.cell 5).trans rfl
  have X2k6 : v2.cell? ⟨w.heap.size + 1 + 1, 6, none⟩ = some (.int .i64 0) := (X2.cell 6).trans rfl
  have X2k7 : v2.cell? ⟨w.heap.size + 1 + 1, 7, none⟩ = some (.int .i64 0) := (X2.cell 7).trans rfl
  have X2f3 := X2.frozen 3
  have X2f4 := X2.frozen 4
  have X2f5 := X2.frozen 5
  have X2f6 := X2.frozen 6
  have X2f7 := X2.frozen 7
  have b3 : ∀ (u0 u1 u2 u3 u4 : Value), Below w.heap.size v2 (((((v2.setCell ⟨w.heap.size + 1 + 1, 3, none⟩ u0).setCell ⟨w.heap.size + 1 + 1, 4, none⟩ u1).setCell ⟨w.heap.size + 1 + 1, 5, none⟩ u2).setCell ⟨w.heap.size + 1 + 1, 6, none⟩ u3).setCell ⟨w.heap.size + 1 + 1, 7, none⟩ u4) := fun u0 u1 u2 u3 u4 => by (repeat' (first | (with_reducible exact Below.refl _ _) | (with_reducible assumption) | (with_reducible refine Below.alloc ?_ ?_ _) | (with_reducible refine Below.setCell ?_ ?_ _) | (with_reducible refine Below.drew ?_) | (with_reducible refine below_drewN ?_ _) | (with_reducible refine Below.trans ?_ (Below.mono (by assumption) ?_)) | (with_reducible exact Nat.le_refl _) | (simp; done) | omega | (simp at *; omega)))
  go_upto_region 8 with (fail)
  obtain ⟨v3, hv3⟩ : ∃ v3, v3 = (((((v2.setCell ⟨w.heap.size + 1 + 1, 3, none⟩ (.int .i64 p)).setCell ⟨w.heap.size + 1 + 1, 4, none⟩ (.int .i64 q)).setCell ⟨w.heap.size + 1 + 1, 5, none⟩ (.int .i64 bl)).setCell ⟨w.heap.size + 1 + 1, 6, none⟩ (.int .i64 rd)).setCell ⟨w.heap.size + 1 + 1, 7, none⟩ (.int .i64 nx)) := ⟨_, rfl⟩
  replace X1 : Whole v3 (w.heap.size + 1) 41 [.int .i64 0, .int .i64 0, .slice none 0 0, .int .i64 0, .int .i64 0, .int .i64 0, .int .i64 0, .int .i64 0] := by rw [hv3]; exact ((((X1.set_far _ _ n21).set_far _ _ n21).set_far _ _ n21).set_far _ _ n21).set_far _ _ n21
  replace X2 : Whole v3 (w.heap.size + 1 + 1) 41 [.int .i64 R, .int .i64 C, .slice (some ⟨g, 0, none⟩) l.length l.length, .int .i64 p, .int .i64 q, .int .i64 bl, .int .i64 rd, .int .i64 nx] := by rw [hv3]; exact ((((X2.set 3 (.int .i64 p)).set 4 (.int .i64 q)).set 5 (.int .i64 bl)).set 6 (.int .i64 rd)).set 7 (.int .i64 nx)
  replace t1 : Whole v3 g 104 (flat l) := by rw [hv3]; exact ((((t1.set_far _ _ hne2).set_far _ _ hne2).set_far _ _ hne2).set_far _ _ hne2).set_far _ _ hne2
  replace B0 : Below w.heap.size w v3 := by rw [hv3]; exact B0.trans (b3 _ _ _ _ _)
  rewrite [← hv3]
  clear hv3 b3 X0 X0k3 X0k4 X0k5 X0k6 X0k7 X2f3 X2f4 X2f5 X2f6 X2f7 X2k3 X2k4 X2k5 X2k6 X2k7
  have hx := X2.lt
  have hz := X1.lt
  have X2k0 : v3.cell? ⟨w.heap.size + 1 + 1, 0, none⟩ = some (.int .i64 R) := (X2.cell 0).trans rfl; have X2k1 : v3.cell? ⟨w.heap.size + 1 + 1, 1, none⟩ = some (.int .i64 C) := (X2.cell 1).trans rfl; have X2k2 : v3.cell? ⟨w.heap.size + 1 + 1, 2, none⟩ = some (.slice (some ⟨g, 0, none⟩) l.length l.length) := (X2.cell 2).trans rfl; have X2k3 : v3.cell? ⟨w.heap.size + 1 + 1, 3, none⟩ = some (.int .i64 p) := (X2.cell 3).trans rfl; have X2k4 : v3.cell? ⟨w.heap.size + 1 + 1, 4, none⟩ = some (.int .i64 q) := (X2.cell 4).trans rfl; have X2k5 : v3.cell? ⟨w.heap.size + 1 + 1, 5, none⟩ = some (.int .i64 bl) := (X2.cell 5).trans rfl
  have X2k6 : v3.cell? ⟨w.heap.size + 1 + 1, 6, none⟩ = some (.int .i64 rd) := (X2.cell 6).trans rfl; have X2k7 : v3.cell? ⟨w.heap.size + 1 + 1, 7, none⟩ = some (.int .i64 nx) := (X2.cell 7).trans rfl
  have X1k0 : v3.cell? ⟨w.heap.size + 1, 0, none⟩ = some (.int .i64 0) := (X1.cell 0).trans rfl; have X1k1 : v3.cell? ⟨w.heap.size + 1, 1, none⟩ = some (.int .i64 0) := (X1.cell 1).trans rfl; have X1k2 : v3.cell? ⟨w.heap.size + 1, 2, none⟩ = some (.slice none 0 0) := (X1.cell 2).trans rfl; have X1k3 : v3.cell? ⟨w.heap.size + 1, 3, none⟩ = some (.int .i64 0) := (X1.cell 3).trans rfl; have X1k4 : v3.cell? ⟨w.heap.size + 1, 4, none⟩ = some (.int .i64 0) := (X1.cell 4).trans rfl; have X1k5 : v3.cell? ⟨w.heap.size + 1, 5, none⟩ = some (.int .i64 0) := (X1.cell 5).trans rfl
  have X1k6 : v3.cell? ⟨w.heap.size + 1, 6, none⟩ = some (.int .i64 0) := (X1.cell 6).trans rfl; have X1k7 : v3.cell? ⟨w.heap.size + 1, 7, none⟩ = some (.int .i64 0) := (X1.cell 7).trans rfl
  have X1f0 := X1.frozen 0; have X1f1 := X1.frozen 1; have X1f2 := X1.frozen 2; have X1f3 := X1.frozen 3; have X1f4 := X1.frozen 4; have X1f5 := X1.frozen 5; have X1f6 := X1.frozen 6; have X1f7 := X1.frozen 7
  go_wp2
  rewrite [mset_fold]
  obtain ⟨v4, hv4⟩ : ∃ v4, v4 = mset v3 (w.heap.size + 1) (.int .i64 R) (.int .i64 C) (.slice (some ⟨g, 0, none⟩) l.length l.length) (.int .i64 p) (.int .i64 q) (.int .i64 bl) (.int .i64 rd) (.int .i64 nx) := ⟨_, rfl⟩
  have Z1 : Whole v4 (w.heap.size + 1) 41 [.int .i64 R, .int .i64 C, .slice (some ⟨g, 0, none⟩) l.length l.length, .int .i64 p, .int .i64 q, .int .i64 bl, .int .i64 rd, .int .i64 nx] := by rw [hv4]; exact X1.mset _ _ _ _ _ _ _ _
  replace t1 : Whole v4 g 104 (flat l) := by rw [hv4]; exact t1.mset_far hne
  replace B0 : Below w.heap.size w v4 := by rw [hv4]; exact below_mset B0 (by omega)
  clear X2k0 X2k1 X2k2 X2k3 X2k4 X2k5 X2k6 X2k7
  clear X1k0 X1k1 X1k2 X1k3 X1k4 X1k5 X1k6 X1k7
  clear X1f0 X1f1 X1f2 X1f3 X1f4 X1f5 X1f6 X1f7
  rewrite [← hv4]
  clear hv4
  have Z1k0 : v4.cell? ⟨w.heap.size + 1, 0, none⟩ = some (.int .i64 R) := (Z1.cell 0).trans rfl; have Z1k1 : v4.cell? ⟨w.heap.size + 1, 1, none⟩ = some (.int .i64 C) := (Z1.cell 1).trans rfl; have Z1k2 : v4.cell? ⟨w.heap.size + 1, 2, none⟩ = some (.slice (some ⟨g, 0, none⟩) l.length l.length) := (Z1.cell 2).trans rfl; have Z1k3 : v4.cell? ⟨w.heap.size + 1, 3, none⟩ = some (.int .i64 p) := (Z1.cell 3).trans rfl; have Z1k4 : v4.cell? ⟨w.heap.size + 1, 4, none⟩ = some (.int .i64 q) := (Z1.cell 4).trans rfl; have Z1k5 : v4.cell? ⟨w.heap.size + 1, 5, none⟩ = some (.int .i64 bl) := (Z1.cell 5).trans rfl
  have Z1k6 : v4.cell? ⟨w.heap.size + 1, 6, none⟩ = some (.int .i64 rd) := (Z1.cell 6).trans rfl; have Z1k7 : v4.cell? ⟨w.heap.size + 1, 7, none⟩ = some (.int .i64 nx) := (Z1.cell 7).trans rfl
  refine bodyPost_ret (v := .agg #[.int .i64 R, .int .i64 C, .slice (some ⟨g, 0, none⟩) l.length l.length, .int .i64 p, .int .i64 q, .int .i64 bl, .int .i64 rd, .int .i64 nx]) ?_ rfl ?_; (focus (simp [results, Try.results17, go_sem, *]; done))
  exact ⟨g, rfl, t1, hg, B0⟩
theorem eqMachine_same (R C p q bl rd nx : Int) (A A' : Option Addr) (cap cap' : Nat) (l : List (Int × Int)) (w : World) (hn : l.length ≤ 1048576) (hr : Rd w w.heap.size A (flat l)) (hr' : Rd w w.heap.size A' (flat l)) :
    Calls Try.prog 19 #[.agg #[.int .i64 R, .int .i64 C, .slice A l.length cap, .int .i64 p, .int .i64 q, .int .i64 bl, .int .i64 rd, .int .i64 nx], .agg #[.int .i64 R, .int .i64 C, .slice A' l.length cap', .int .i64 p, .int .i64 q, .int .i64 bl, .int .i64 rd, .int .i64 nx]] w fun e w' => e = .returned (.bool true) ∧ Below w.heap.size w w' := by
  go_enter Try.func19, Try.ntmps19
  obtain ⟨v0, hv0, X0, X1, B0, hz0⟩ := two_boxes w [.int .i64 R, .int .i64 C, .slice A l.length cap, .int .i64 p, .int .i64 q, .int .i64 bl, .int .i64 rd, .int .i64 nx] 41 [.int .i64 R, .int .i64 C, .slice A' l.length cap', .int .i64 p, .int .i64 q, .int .i64 bl, .int .i64 rd, .int .i64 nx] 41; have HV := Lib.hid hv0; have hz : w.heap.size + 1 < v0.heap.size := (by omega); have hy : w.heap.size < v0.heap.size := (by omega); have hb0 := B0.size; clear hv0 hz0; go_wp2_with fail; rewrite [show (w.alloc (.cells ([.int .i64 R, .int .i64 C, .slice A l.length cap, .int .i64 p, .int .i64 q, .int .i64 bl, .int .i64 rd, .int .i64 nx] : List Value).toArray 41)).alloc (.cells ([.int .i64 R, .int .i64 C, .slice A' l.length cap', .int .i64 p, .int .i64 q, .int .i64 bl, .int .i64 rd, .int .i64 nx] : List Value).toArray 41) = v0 from HV.out]; clear HV
  have X0k0 : v0.cell? ⟨w.heap.size, 0, none⟩ = some (.int .i64 R) := (X0.cell 0).trans rfl; have X0k1 : v0.cell? ⟨w.heap.size, 1, none⟩ = some (.int .i64 C) := (X0.cell 1).trans rfl; have X0k2 : v0.cell? ⟨w.heap.size, 2, none⟩ = some (.slice A l.length cap) := (X0.cell 2).trans rfl; have X0k3 : v0.cell? ⟨w.heap.size, 3, none⟩ = some (.int .i64 p) := (X0.cell 3).trans rfl; have X0k4 : v0.cell? ⟨w.heap.size, 4, none⟩ = some (.int .i64 q) := (X0.cell 4).trans rfl; have X0k5 : v0.cell? ⟨w.heap.size, 5, none⟩ = some (.int .i64 bl) := (X0.cell 5).trans rfl
  have X0k6 : v0.cell? ⟨w.heap.size, 6, none⟩ = some (.int .i64 rd) := (X0.cell 6).trans rfl; have X0k7 : v0.cell? ⟨w.heap.size, 7, none⟩ = some (.int .i64 nx) := (X0.cell 7).trans rfl
  have X1k0 : v0.cell? ⟨w.heap.size + 1, 0, none⟩ = some (.int .i64 R) := (X1.cell 0).trans rfl; have X1k1 : v0.cell? ⟨w.heap.size + 1, 1, none⟩ = some (.int .i64 C) := (X1.cell 1).trans rfl; have X1k2 : v0.cell? ⟨w.heap.size + 1, 2, none⟩ = some (.slice A' l.length cap') := (X1.cell 2).trans rfl; have X1k3 : v0.cell? ⟨w.heap.size + 1, 3, none⟩ = some (.int .i64 p) := (X1.cell 3).trans rfl; have X1k4 : v0.cell? ⟨w.heap.size + 1, 4, none⟩ = some (.int .i64 q) := (X1.cell 4).trans rfl; have X1k5 : v0.cell? ⟨w.heap.size + 1, 5, none⟩ = some (.int .i64 bl) := (X1.cell 5).trans rfl
  have X1k6 : v0.cell? ⟨w.heap.size + 1, 6, none⟩ = some (.int .i64 rd) := (X1.cell 6).trans rfl; have X1k7 : v0.cell? ⟨w.heap.size + 1, 7, none⟩ = some (.int .i64 nx) := (X1.cell 7).trans rfl
  go_wp2_with fail
  refine (eqBoard_any _ _ _ _ _ _ _ _ l l _ hn hn ((hr.below B0).mono B0.size) ((hr'.below B0).mono B0.size)).mono ?_; rintro e w1 ⟨rfl, b1⟩
  rw [eqB_same]
  clear X0k0 X0k1 X0k2 X0k3 X0k4 X0k5 X0k6 X0k7
  clear X1k0 X1k1 X1k2 X1k3 X1k4 X1k5 X1k6 X1k7
  replace X0 := X0.below b1 X0.lt; replace X1 := X1.below b1 X1.lt; replace B0 := B0.trans (b1.mono B0.size); have hy := X0.lt; have hz := X1.lt; have hb0 := B0.size; clear b1
  have X0k0 : w1.cell? ⟨w.heap.size, 0, none⟩ = some (.int .i64 R) := (X0.cell 0).trans rfl; have X0k1 : w1.cell? ⟨w.heap.size, 1, none⟩ = some (.int .i64 C) := (X0.cell 1).trans rfl; have X0k2 : w1.cell? ⟨w.heap.size, 2, none⟩ = some (.slice A l.length cap) := (X0.cell 2).trans rfl; have X0k3 : w1.cell? ⟨w.heap.size, 3, none⟩ = some (.int .i64 p) := (X0.cell 3).trans rfl; have X0k4 : w1.cell? ⟨w.heap.size, 4, none⟩ = some (.int .i64 q) := (X0.cell 4).trans rfl; have X0k5 : w1.cell? ⟨w.heap.size, 5, none⟩ = some (.int .i64 bl) := (X0.cell 5).trans rfl
  have X0k6 : w1.cell? ⟨w.heap.size, 6, none⟩ = some (.int .i64 rd) := (X0.cell 6).trans rfl; have X0k7 : w1.cell? ⟨w.heap.size, 7, none⟩ = some (.int .i64 nx) := (X0.cell 7).trans rfl
  have X1k0 : w1.cell? ⟨w.heap.size + 1, 0, none⟩ = some (.int .i64 R) := (X1.cell 0).trans rfl; have X1k1 : w1.cell? ⟨w.heap.size + 1, 1, none⟩ = some (.int .i64 C) := (X1.cell 1).trans rfl; have X1k2 : w1.cell? ⟨w.heap.size + 1, 2, none⟩ = some (.slice A' l.length cap') := (X1.cell 2).trans rfl; have X1k3 : w1.cell? ⟨w.heap.size + 1, 3, none⟩ = some (.int .i64 p) := (X1.cell 3).trans rfl; have X1k4 : w1.cell? ⟨w.heap.size + 1, 4, none⟩ = some (.int .i64 q) := (X1.cell 4).trans rfl; have X1k5 : w1.cell? ⟨w.heap.size + 1, 5, none⟩ = some (.int .i64 bl) := (X1.cell 5).trans rfl
  have X1k6 : w1.cell? ⟨w.heap.size + 1, 6, none⟩ = some (.int .i64 rd) := (X1.cell 6).trans rfl; have X1k7 : w1.cell? ⟨w.heap.size + 1, 7, none⟩ = some (.int .i64 nx) := (X1.cell 7).trans rfl
  go_wp2
  go_returns
  exact ⟨rfl, by (repeat' (first | (with_reducible exact Below.refl _ _) | (with_reducible assumption) | (with_reducible refine Below.alloc ?_ ?_ _) | (with_reducible refine Below.setCell ?_ ?_ _) | (with_reducible refine Below.drew ?_) | (with_reducible refine below_drewN ?_ _) | (with_reducible refine Below.trans ?_ (Below.mono (by assumption) ?_)) | (with_reducible exact Nat.le_refl _) | (simp; done) | omega | (simp at *; omega)))⟩
theorem markMachine_n (R C : Int) (A : Option Addr) (cap n : Nat) (p q bl rd nx : Int) (xs : List Value) (k : Int) (w : World) (hx : xs.length = 2 * n) (hn : n ≤ 1048576) (h0 : 0 ≤ k) (h1 : k ≤ 16777216) (ho : Own w A 104 xs) :
    Calls Try.prog 20 #[.agg #[.int .i64 R, .int .i64 C, .slice A n cap, .int .i64 p, .int .i64 q, .int .i64 bl, .int .i64 rd, .int .i64 nx], .int .i64 k] w fun e w' => e = .returned (.int .i64 (k + 2 * n)) ∧ Own w' A 104 (marks k (2 * n)) ∧ Fx w w' A n := by
  go_enter Try.func20, Try.ntmps20
  go_wp2_with fail
  refine (markBoard_n _ _ _ _ n xs _ _ hx hn h0 h1 (ho.keep (by (repeat' (first | (with_reducible exact Below.refl _ _) | (with_reducible assumption) | (with_reducible refine Below.alloc ?_ ?_ _) | (with_reducible refine Below.setCell ?_ ?_ _) | (with_reducible refine Below.drew ?_) | (with_reducible refine below_drewN ?_ _) | (with_reducible refine Below.trans ?_ (Below.mono (by assumption) ?_)) | (with_reducible exact Nat.le_refl _) | (simp; done) | omega | (simp at *; omega)))))).mono ?_; rintro e w1 ⟨rfl, o1, s1⟩
  have S1 := Lib.hid (fx_alloc s1)
  clear s1
  go_wp2
  go_returns
  exact ⟨rfl, o1, S1.out⟩
theorem array8 {α : Type} {cs : Array α} (h : cs.size = 8) : ∃ c0 c1 c2 c3 c4 c5 c6 c7, cs = #[c0, c1, c2, c3, c4, c5, c6, c7] := by
  obtain ⟨l⟩ := cs
  match l, h with
  | [c0, c1, c2, c3, c4, c5, c6, c7], _ => exact ⟨c0, c1, c2, c3, c4, c5, c6, c7, rfl⟩
set_option maxRecDepth 100000 in
theorem open_board_f {H : Type} {enc : TypeId × Value → H} {W : World} {cs : List Value} {x : DataW H × List MemPlace} {fuel : Nat}
    (hf : DataW.trod enc Try.prog W 0 (fun _ => true) true fuel 31 cs = some x) :
    ∃ (R C : Int) (A : Option Addr) (cap : Nat) (l : List (Int × Int)), cs = [.int .i64 R, .int .i64 C, .slice A l.length cap] ∧ l.length ≤ maxLen ∧ Rd W W.heap.size A (flat l) := by
  obtain ⟨y0, y1, y2, n, -, hl, h0, h1, h2⟩ := Go.Deep.trod_struct3 Try.underlying31 hf
  rw [show Try.prog.cellsOf 31 = 3 by kernel_rfl] at hl
  rw [show Try.prog.cellsOf 3 = 1 by kernel_rfl] at h0 h1
  rw [show Try.prog.cellsOf 29 = 1 by kernel_rfl] at h2
  match cs, hl with
  | [c0, c1, c2], _ =>
    obtain ⟨a, e0, _, _⟩ := DataW.trod_int Try.underlying3 h0
    obtain ⟨b, e1, _, _⟩ := DataW.trod_int Try.underlying3 h1
    obtain ⟨A, cap, l, e2, hm, hr⟩ := open_cells_f (v := c2) h2
    have f0 : c0 = .int .i64 a := List.head_eq_of_cons_eq e0
    have f1 : c1 = .int .i64 b := List.head_eq_of_cons_eq e1
    exact ⟨a, b, A, cap, l, by rw [f0, f1, e2], hm, hr⟩
set_option maxRecDepth 100000 in
theorem open_machine {H : Type} {enc : TypeId × Value → H} {W : World} {r : Reach} {b0 : Nat} {v : Value} {d : DataW H} {ps : List MemPlace}
    (hv : Value.okWide Try.prog W r b0 33 v) (h : DataW.Trod enc Try.prog W 0 (fun _ => true) true 33 v d ps) :
    ∃ (R C : Int) (A : Option Addr) (cap : Nat) (l : List (Int × Int)) (p q bl rd nx : Int), v = .agg #[.int .i64 R, .int .i64 C, .slice A l.length cap, .int .i64 p, .int .i64 q, .int .i64 bl, .int .i64 rd, .int .i64 nx] ∧ l.length ≤ maxLen ∧ Rd W W.heap.size A (flat l) := by
  obtain ⟨cs, rfl, hsz⟩ := okWide_struct Try.underlying33 hv
  obtain ⟨c0, c1, c2, c3, c4, c5, c6, c7, rfl⟩ := array8 (hsz.trans (by kernel_rfl))
  obtain ⟨fuel, hf⟩ := h
  obtain ⟨xs, n, -, -, -, hlen, hF⟩ := DataW.trod_struct Try.underlying33 hf
  have k1 : Try.prog.cellsOf 3 = 1 := by kernel_rfl
  have k3 : Try.prog.cellsOf 31 = 3 := by kernel_rfl
  obtain ⟨x0, x1, x2, x3, x4, x5, rfl⟩ : ∃ x0 x1 x2 x3 x4 x5, xs = [x0, x1, x2, x3, x4, x5] := by
    match xs, hlen with
    | [x0, x1, x2, x3, x4, x5], _ => exact ⟨x0, x1, x2, x3, x4, x5, rfl⟩
  have h0 : DataW.trod enc Try.prog W 0 (fun _ => true) true n 31 (List.take (Try.prog.cellsOf 31) (List.drop 0 [c0, c1, c2, c3, c4, c5, c6, c7])) = some x0 := hF 0 _ rfl
  have h1 : DataW.trod enc Try.prog W 0 (fun _ => true) true n 3 (List.take (Try.prog.cellsOf 3) (List.drop 3 [c0, c1, c2, c3, c4, c5, c6, c7])) = some x1 := hF 1 _ rfl
  have h2 : DataW.trod enc Try.prog W 0 (fun _ => true) true n 3 (List.take (Try.prog.cellsOf 3) (List.drop 4 [c0, c1, c2, c3, c4, c5, c6, c7])) = some x2 := hF 2 _ rfl
  have h3 : DataW.trod enc Try.prog W 0 (fun _ => true) true n 3 (List.take (Try.prog.cellsOf 3) (List.drop 5 [c0, c1, c2, c3, c4, c5, c6, c7])) = some x3 := hF 3 _ rfl
  have h4 : DataW.trod enc Try.prog W 0 (fun _ => true) true n 3 (List.take (Try.prog.cellsOf 3) (List.drop 6 [c0, c1, c2, c3, c4, c5, c6, c7])) = some x4 := hF 4 _ rfl
  have h5 : DataW.trod enc Try.prog W 0 (fun _ => true) true n 3 (List.take (Try.prog.cellsOf 3) (List.drop 7 [c0, c1, c2, c3, c4, c5, c6, c7])) = some x5 := hF 5 _ rfl
  rw [k3] at h0
  rw [k1] at h1 h2 h3 h4 h5
  obtain ⟨R, C, A, cap, l, e0, hm, hr⟩ := open_board_f (cs := [c0, c1, c2]) h0
  obtain ⟨a1, e1, _, _⟩ := DataW.trod_int (cs := [c3]) Try.underlying3 h1
  obtain ⟨a2, e2, _, _⟩ := DataW.trod_int (cs := [c4]) Try.underlying3 h2
  obtain ⟨a3, e3, _, _⟩ := DataW.trod_int (cs := [c5]) Try.underlying3 h3
  obtain ⟨a4, e4, _, _⟩ := DataW.trod_int (cs := [c6]) Try.underlying3 h4
  obtain ⟨a5, e5, _, _⟩ := DataW.trod_int (cs := [c7]) Try.underlying3 h5
  injection e0 with f0 e0
  injection e0 with f1 e0
  injection e0 with f2 e0
  have g1 : c3 = .int .i64 a1 := List.head_eq_of_cons_eq e1
  have g2 : c4 = .int .i64 a2 := List.head_eq_of_cons_eq e2
  have g3 : c5 = .int .i64 a3 := List.head_eq_of_cons_eq e3
  have g4 : c6 = .int .i64 a4 := List.head_eq_of_cons_eq e4
  have g5 : c7 = .int .i64 a5 := List.head_eq_of_cons_eq e5
  exact ⟨R, C, A, cap, l, a1, a2, a3, a4, a5, by rw [f0, f1, f2, g1, g2, g3, g4, g5], hm, hr⟩
end Go.Proofs.Ytlambflmabecfaa
namespace Go.Proofs.Ytlambflmabecfaa
open Go.ChangeShapes Go.WideShapes Go.ChangeAt Go.RowKit Go.Joins Go.Deep
set_option linter.unusedSimpArgs false
set_option linter.unusedVariables false
set_option maxRecDepth 100000
set_option maxHeartbeats 2000000
theorem eqFall_any (a b c a' b' c' : Int) (w : World) :
    Calls Try.prog 51 #[.agg #[.int .i64 a, .int .i64 b, .int .i64 c], .agg #[.int .i64 a', .int .i64 b', .int .i64 c']] w fun e w' => e = .returned (.bool (decide (a = a' ∧ b = b' ∧ c = c'))) ∧ Below w.heap.size w w' := by
  by_cases h1 : a = a'
  · subst h1
    by_cases h2 : b = b'
    · subst h2
      by_cases h3 : c = c'
      · subst h3
        go_enter Try.func51, Try.ntmps51
        go_wp2
        go_returns
        exact ⟨ret_bool (by first | rfl | simp), by (repeat' (first | (with_reducible exact Below.refl _ _) | (with_reducible assumption) | (with_reducible refine Below.alloc ?_ ?_ _) | (with_reducible refine Below.setCell ?_ ?_ _) | (with_reducible refine Below.drew ?_) | (with_reducible refine below_drewN ?_ _) | (with_reducible refine Below.trans ?_ (Below.mono (by assumption) ?_)) | (with_reducible exact Nat.le_refl _) | (simp; done) | omega | (simp at *; omega)))⟩
      · have hb : (c != c') = true := by simpa using h3
        have HL := Lib.hid h3
        clear h3
        go_enter Try.func51, Try.ntmps51
        go_wp2
        go_returns
        exact ⟨ret_bool (decide_eq_false (fun h => HL.out h.2.2)).symm, by (repeat' (first | (with_reducible exact Below.refl _ _) | (with_reducible assumption) | (with_reducible refine Below.alloc ?_ ?_ _) | (with_reducible refine Below.setCell ?_ ?_ _) | (with_reducible refine Below.drew ?_) | (with_reducible refine below_drewN ?_ _) | (with_reducible refine Below.trans ?_ (Below.mono (by assumption) ?_)) | (with_reducible exact Nat.le_refl _) | (simp; done) | omega | (simp at *; omega)))⟩
    · have hb : (b != b') = true := by simpa using h2
      have HL := Lib.hid h2
      clear h2
      go_enter Try.func51, Try.ntmps51
      go_wp2
      go_returns
      exact ⟨ret_bool (decide_eq_false (fun h => HL.out h.2.1)).symm, by (repeat' (first | (with_reducible exact Below.refl _ _) | (with_reducible assumption) | (with_reducible refine Below.alloc ?_ ?_ _) | (with_reducible refine Below.setCell ?_ ?_ _) | (with_reducible refine Below.drew ?_) | (with_reducible refine below_drewN ?_ _) | (with_reducible refine Below.trans ?_ (Below.mono (by assumption) ?_)) | (with_reducible exact Nat.le_refl _) | (simp; done) | omega | (simp at *; omega)))⟩
  · have hb : (a != a') = true := by simpa using h1
    have HL := Lib.hid h1
    clear h1
    go_enter Try.func51, Try.ntmps51
    go_wp2
    go_returns
    exact ⟨ret_bool (decide_eq_false (fun h => HL.out h.1)).symm, by (repeat' (first | (with_reducible exact Below.refl _ _) | (with_reducible assumption) | (with_reducible refine Below.alloc ?_ ?_ _) | (with_reducible refine Below.setCell ?_ ?_ _) | (with_reducible refine Below.drew ?_) | (with_reducible refine below_drewN ?_ _) | (with_reducible refine Below.trans ?_ (Below.mono (by assumption) ?_)) | (with_reducible exact Nat.le_refl _) | (simp; done) | omega | (simp at *; omega)))⟩
end Go.Proofs.Ytlambflmabecfaa
namespace Go.Proofs.Ytlambflmabecfaa
open Go.ChangeShapes Go.WideShapes Go.ChangeAt Go.RowKit Go.Joins Go.Deep
set_option linter.unusedSimpArgs false
set_option linter.unusedVariables false
set_option maxRecDepth 100000
set_option maxHeartbeats 2000000
/-- The entries of a list, as memory holds them: four words each. -/
def flatL (l : List (Int × Int × Int × Int)) : List Value := l.flatMap fun e => [.int .i64 e.1, .int .i64 e.2.1, .int .i64 e.2.2.1, .int .i64 e.2.2.2]
theorem flatL_len (l : List (Int × Int × Int × Int)) : (flatL l).length = 4 * l.length := by
  induction l with
  | nil => rfl
  | cons c l ih =>
    have h : (flatL (c :: l)).length = (flatL l).length + 1 + 1 + 1 + 1 := rfl
    rw [h, ih, List.length_cons]
    omega
theorem flatL_app (l m : List (Int × Int × Int × Int)) : flatL (l ++ m) = flatL l ++ flatL m := by unfold flatL; rw [List.flatMap_append]
theorem flatL_at (l : List (Int × Int × Int × Int)) (k : Nat) (h : k < l.length) : (flatL l)[k * 4]? = some (.int .i64 l[k].1) ∧ (flatL l)[k * 4 + 1]? = some (.int .i64 l[k].2.1) ∧ (flatL l)[k * 4 + 2]? = some (.int .i64 l[k].2.2.1) ∧ (flatL l)[k * 4 + 3]? = some (.int .i64 l[k].2.2.2) := by
  induction l generalizing k with
  | nil => simp at h
  | cons c l ih =>
    cases k with
    | zero => exact ⟨rfl, rfl, rfl, rfl⟩
    | succ k =>
      have := ih k (by simpa using h)
      have e1 : (flatL (c :: l))[(k + 1) * 4]? = (flatL l)[k * 4]? := by rw [show (k + 1) * 4 = k * 4 + 1 + 1 + 1 + 1 by omega]; rfl
      have e2 : (flatL (c :: l))[(k + 1) * 4 + 1]? = (flatL l)[k * 4 + 1]? := by rw [show (k + 1) * 4 + 1 = k * 4 + 1 + 1 + 1 + 1 + 1 by omega]; rfl
      have e3 : (flatL (c :: l))[(k + 1) * 4 + 2]? = (flatL l)[k * 4 + 2]? := by rw [show (k + 1) * 4 + 2 = k * 4 + 2 + 1 + 1 + 1 + 1 by omega]; rfl
      have e4 : (flatL (c :: l))[(k + 1) * 4 + 3]? = (flatL l)[k * 4 + 3]? := by rw [show (k + 1) * 4 + 3 = k * 4 + 3 + 1 + 1 + 1 + 1 by omega]; rfl
      rw [e1, e2, e3, e4]
      exact this
theorem flatL_pos {l : List (Int × Int × Int × Int)} (h : 0 < (flatL l).length) : 0 < l.length := by rw [flatL_len] at h; omega
theorem pos_flatL {l : List (Int × Int × Int × Int)} (h : 0 < l.length) : 0 < (flatL l).length := by rw [flatL_len]; omega
theorem flatL_get (l : List (Int × Int × Int × Int)) (j : Nat) (u : Value) (h : (flatL l)[j]? = some u) : ∃ k, ∃ hk : k < l.length, (j = k * 4 ∧ u = .int .i64 l[k].1) ∨ (j = k * 4 + 1 ∧ u = .int .i64 l[k].2.1) ∨ (j = k * 4 + 2 ∧ u = .int .i64 l[k].2.2.1) ∨ (j = k * 4 + 3 ∧ u = .int .i64 l[k].2.2.2) := by
  have hj : j < 4 * l.length := by rw [← flatL_len]; exact (List.getElem?_eq_some_iff.1 h).1
  have hk : j / 4 < l.length := by omega
  obtain ⟨h0, h1, h2, h3⟩ := flatL_at l (j / 4) hk
  refine ⟨j / 4, hk, ?_⟩
  rcases (show j = j / 4 * 4 ∨ j = j / 4 * 4 + 1 ∨ j = j / 4 * 4 + 2 ∨ j = j / 4 * 4 + 3 by omega) with e | e | e | e
  · refine .inl ⟨e, ?_⟩
    rw [← e, h] at h0
    exact Option.some.inj h0
  · refine .inr (.inl ⟨e, ?_⟩)
    rw [← e, h] at h1
    exact Option.some.inj h1
  · refine .inr (.inr (.inl ⟨e, ?_⟩))
    rw [← e, h] at h2
    exact Option.some.inj h2
  · refine .inr (.inr (.inr ⟨e, ?_⟩))
    rw [← e, h] at h3
    exact Option.some.inj h3
theorem takeL_step {l m : List (Int × Int × Int × Int)} {k : Nat} (h1 : k < l.length) (h2 : k < m.length) (h : l.take k = m.take k) : l[k].1 = m[k].1 → l[k].2.1 = m[k].2.1 → l[k].2.2.1 = m[k].2.2.1 → l[k].2.2.2 = m[k].2.2.2 → l.take (k + 1) = m.take (k + 1) := fun a b c d => by
  rw [List.take_succ_eq_append_getElem h1, List.take_succ_eq_append_getElem h2, h, Prod.ext a (Prod.ext b (Prod.ext c d))]
theorem listL_of (n : Nat) (f : Nat → Int × Int × Int × Int) : ∃ l : List (Int × Int × Int × Int), l.length = n ∧ ∀ i (h : i < l.length), l[i] = f i :=
  ⟨(List.range n).map f, by simp, fun i h => by simp⟩
/-- What the copy holds after k rounds. -/
def partL (l : List (Int × Int × Int × Int)) (k : Nat) : List Value := flatL (l.take k) ++ zrow (4 * (l.length - k))
theorem partL_zero (l : List (Int × Int × Int × Int)) : partL l 0 = zrow (4 * l.length) := by simp [partL, flatL]
theorem partL_all (l : List (Int × Int × Int × Int)) : partL l l.length = flatL l := by simp [partL, zrow]
theorem partL_at (l : List (Int × Int × Int × Int)) (k j : Nat) (h : k < l.length) (hj : j < 4) : (partL l k)[k * 4 + j]? = some (.int .i64 0) := by
  have e : (flatL (l.take k)).length = k * 4 := by rw [flatL_len, List.length_take]; omega
  rw [partL, List.getElem?_append_right (by omega), e]
  rw [zrow, List.getElem?_replicate, if_pos (by omega)]
theorem partL_step (l : List (Int × Int × Int × Int)) (k : Nat) (h : k < l.length) : ((((partL l k).set (k * 4) (.int .i64 l[k].1)).set (k * 4 + 1) (.int .i64 l[k].2.1)).set (k * 4 + 2) (.int .i64 l[k].2.2.1)).set (k * 4 + 3) (.int .i64 l[k].2.2.2) = partL l (k + 1) := by
  have e : (flatL (l.take k)).length = k * 4 := by rw [flatL_len, List.length_take]; omega
  have ez : zrow (4 * (l.length - k)) = .int .i64 0 :: .int .i64 0 :: .int .i64 0 :: .int .i64 0 :: zrow (4 * (l.length - (k + 1))) := by
    rw [show 4 * (l.length - k) = 4 * (l.length - (k + 1)) + 1 + 1 + 1 + 1 by omega]
    rfl
  have ef : flatL (l.take (k + 1)) = flatL (l.take k) ++ [.int .i64 l[k].1, .int .i64 l[k].2.1, .int .i64 l[k].2.2.1, .int .i64 l[k].2.2.2] := by
    rw [List.take_succ_eq_append_getElem h]
    simp only [flatL, List.flatMap_append, List.flatMap_cons, List.flatMap_nil, List.append_nil]
  rw [partL, partL, ez, ef, List.set_append_right _ _ (by omega), List.set_append_right _ _ (by omega), List.set_append_right _ _ (by omega), List.set_append_right _ _ (by omega), e]
  rw [Nat.sub_self, show k * 4 + 1 - k * 4 = 1 by omega, show k * 4 + 2 - k * 4 = 2 by omega, show k * 4 + 3 - k * 4 = 3 by omega]
  simp
theorem logInfo : (Try.prog.info? 61).map (fun i => (i.zero, i.size, i.bytes)) = some (some (.agg #[.int .i64 0, .int .i64 0, .int .i64 0, .int .i64 0]), 4, 32) := by kernel_rfl
theorem made_logs (n : Nat) : madeCells (Value.agg #[.int .i64 0, .int .i64 0, .int .i64 0, .int .i64 0]).cells (n * 4) = (zrow (4 * n)).toArray := by
  apply Array.ext
  · simp [madeCells, zrow]; omega
  · intro i h1 h2
    have h3 : i % 4 = 0 ∨ i % 4 = 1 ∨ i % 4 = 2 ∨ i % 4 = 3 := by omega
    rcases h3 with h3 | h3 | h3 | h3 <;> simp [madeCells, zrow, Value.cells, h3]
theorem run_make_logs (n : Nat) (hn : n ≤ 1048576) (w : World) :
    (Instr.makeSlice 25 (.int .i64 (n : Int)) (.int .i64 (n : Int))).run Try.prog w = .ok (.slice (some ⟨w.heap.size, 0, none⟩) n n) (w.alloc (.cells (zrow (4 * n)).toArray 61)) := by
  obtain ⟨i0, hi, hz0, hz1, hz2⟩ := info_parts logInfo
  have h := run_make (P := Try.prog) w 25 61 i0 _ Try.underlying25 hi hz0 .i64 .i64 (n : Int) (n : Int) (by omega) (by omega) (by rw [hz2]; omega) (by omega)
  rw [hz1] at h
  simp only [Int.toNat_natCast] at h
  rw [h, made_logs]
theorem szLogS_any (A : Option Addr) (n cap : Nat) (left : Int) (w : World) (hn : n ≤ maxLen) (h0 : 0 ≤ left) (h1 : left ≤ 1048576) :
    Calls Try.prog 10 #[.slice A n cap, .int .i64 left] w fun e w' => e = .returned (.int .i64 (if left < n then -1 else left - n)) ∧ w = w' := by
  unfold maxLen at hn
  go_enter Try.func10, Try.ntmps10
  go_wp2
  all_goals go_returns
  all_goals refine ⟨ret_int (by (repeat' split) <;> omega), rfl⟩
theorem toLog_any (a b c d : Int) (w : World) :
    Calls Try.prog 37 #[.agg #[.int .i64 a, .int .i64 b, .int .i64 c, .int .i64 d]] w fun e w' => e = .returned (.agg #[.int .i64 a, .int .i64 b, .int .i64 c, .int .i64 d]) ∧ Below w.heap.size w w' := by
  go_enter Try.func37, Try.ntmps37
  go_wp2
  all_goals go_returns
  all_goals exact ⟨rfl, by go_grown⟩
theorem toLogS_any (A : Option Addr) (cap : Nat) (l : List (Int × Int × Int × Int)) (w : World) (hn : l.length ≤ 1048576) (hr : Rd w w.heap.size A (flatL l)) :
    Calls Try.prog 12 #[.slice A l.length cap] w fun e w' => ∃ g, e = .returned (.slice (some ⟨g, 0, none⟩) l.length l.length) ∧ Whole w' g 61 (flatL l) ∧ w.heap.size ≤ g ∧ Below w.heap.size w w' := by
  have hmk := run_make_logs l.length hn
  go_enter Try.func12, Try.ntmps12
  go_wp2_with (fail)
  go_loopw [4] (fun i wr => ∃ k : Nat, k ≤ l.length ∧ i = .int .i64 k ∧ Whole wr w.heap.size 61 (partL l k) ∧ Below w.heap.size w wr) (fun i _ => l.length - (intOf i).toNat)
  case atStart => exact ⟨0, Nat.zero_le _, rfl, by rw [partL_zero]; exact heap_alloc_new w _, by (repeat' (first | (with_reducible exact Below.refl _ _) | (with_reducible assumption) | (with_reducible refine Below.alloc ?_ ?_ _) | (with_reducible refine Below.setCell ?_ ?_ _) | (with_reducible refine Below.drew ?_) | (with_reducible refine below_drewN ?_ _) | (with_reducible refine Below.trans ?_ (Below.mono (by assumption) ?_)) | (with_reducible exact Nat.le_refl _) | (simp; done) | omega | (simp at *; omega)))⟩
  case round =>
    obtain ⟨k, hk, rfl, hw, hb⟩ := hrel
    by_cases hlt : k < l.length
    · obtain ⟨b, o, rfl, hbl, hc⟩ := hr (by rw [flatL_len]; omega)
      obtain ⟨a0, a1, a2, a3⟩ := flatL_at l k hlt
      have hc0 : wr.cell? ⟨b, o + k * 4, none⟩ = some (.int .i64 l[k].1) := (hb.cell (p := ⟨b, _, none⟩) hbl).trans (hc _ _ a0)
      have hc1 : wr.cell? ⟨b, o + k * 4 + 1, none⟩ = some (.int .i64 l[k].2.1) := (hb.cell (p := ⟨b, _, none⟩) hbl).trans (hc _ _ a1)
      have hc2 : wr.cell? ⟨b, o + k * 4 + 2, none⟩ = some (.int .i64 l[k].2.2.1) := (hb.cell (p := ⟨b, _, none⟩) hbl).trans (hc _ _ a2)
      have hc3 : wr.cell? ⟨b, o + k * 4 + 3, none⟩ = some (.int .i64 l[k].2.2.2) := (hb.cell (p := ⟨b, _, none⟩) hbl).trans (hc _ _ a3)
      have hs : w.heap.size < wr.heap.size := hw.lt
      have HP := Lib.hid (partL_step l k hlt)
      have p0 := partL_at l k 0 hlt (by omega)
      have p1 := partL_at l k 1 hlt (by omega)
      have p2 := partL_at l k 2 hlt (by omega)
      have p3 := partL_at l k 3 hlt (by omega)
      clear hr hc a0 a1 a2 a3
      generalize l[k].1 = x at *
      generalize l[k].2.1 = y at *
      generalize l[k].2.2.1 = z at *
      generalize l[k].2.2.2 = u at *
      go_wp2_with fail
      refine (toLog_any _ _ _ _ _).mono ?_; rintro e w1 ⟨rfl, b1⟩
      have hw1 := hw.below b1 hs
      have q0 : w1.cell? ⟨w.heap.size, k * 4, none⟩ = some (.int .i64 0) := by rw [hw1.cell]; exact p0
      have q1 : w1.cell? ⟨w.heap.size, k * 4 + 1, none⟩ = some (.int .i64 0) := by rw [hw1.cell]; exact p1
      have q2 : w1.cell? ⟨w.heap.size, k * 4 + 2, none⟩ = some (.int .i64 0) := by rw [hw1.cell]; exact p2
      have q3 : w1.cell? ⟨w.heap.size, k * 4 + 3, none⟩ = some (.int .i64 0) := by rw [hw1.cell]; exact p3
      have f0 : w1.frozen? ⟨w.heap.size, k * 4, none⟩ = false := hw1.frozen _
      have f1 : w1.frozen? ⟨w.heap.size, k * 4 + 1, none⟩ = false := hw1.frozen _
      have f2 : w1.frozen? ⟨w.heap.size, k * 4 + 2, none⟩ = false := hw1.frozen _
      have f3 : w1.frozen? ⟨w.heap.size, k * 4 + 3, none⟩ = false := hw1.frozen _
      clear p0 p1 p2 p3 hc0 hc1 hc2 hc3
      have hb1 := hb.trans (b1.mono (Nat.le_of_lt hs))
      clear b1 hb hw
      have HW := Lib.hid hw1
      go_wp2
      go_roundw
      case rel => exact ⟨k + 1, by omega, by go_num, by rw [← HP.out]; exact (((HW.out.set _ _).set _ _).set _ _).set _ _, by (repeat' (first | (with_reducible exact Below.refl _ _) | (with_reducible assumption) | (with_reducible refine Below.alloc ?_ ?_ _) | (with_reducible refine Below.setCell ?_ ?_ _) | (with_reducible refine Below.drew ?_) | (with_reducible refine below_drewN ?_ _) | (with_reducible refine Below.trans ?_ (Below.mono (by assumption) ?_)) | (with_reducible exact Nat.le_refl _) | (simp; done) | omega | (simp at *; omega)))⟩
      case measure => simp [intOf]; omega
    · obtain rfl : k = l.length := by omega
      rw [partL_all] at hw
      go_wp2
      go_returns
      exact ⟨w.heap.size, rfl, hw, Nat.le_refl _, hb⟩
theorem eqLog_any (a b c d a' b' c' d' : Int) (w : World) :
    Calls Try.prog 39 #[.agg #[.int .i64 a, .int .i64 b, .int .i64 c, .int .i64 d], .agg #[.int .i64 a', .int .i64 b', .int .i64 c', .int .i64 d']] w fun e w' => e = .returned (.bool (decide (a = a' ∧ b = b' ∧ c = c' ∧ d = d'))) ∧ Below w.heap.size w w' := by
  by_cases h1 : a = a'
  · subst h1
    by_cases h2 : b = b' ∧ c = c' ∧ d = d'
    · have HL := Lib.hid h2
      have he : decide (b = b' ∧ c = c' ∧ d = d') = true := decide_eq_true h2
      clear h2
      go_enter Try.func39, Try.ntmps39
      go_wp2_with fail
      refine (eqFall_any _ _ _ _ _ _ _).mono ?_; rintro e w1 ⟨rfl, b1⟩
      rw [he]
      clear he
      go_wp2
      go_returns
      exact ⟨ret_bool (by first | exact (decide_eq_true ⟨trivial, HL.out⟩).symm | exact (decide_eq_true ⟨rfl, HL.out⟩).symm), by (repeat' (first | (with_reducible exact Below.refl _ _) | (with_reducible assumption) | (with_reducible refine Below.alloc ?_ ?_ _) | (with_reducible refine Below.setCell ?_ ?_ _) | (with_reducible refine Below.drew ?_) | (with_reducible refine below_drewN ?_ _) | (with_reducible refine Below.trans ?_ (Below.mono (by assumption) ?_)) | (with_reducible exact Nat.le_refl _) | (simp; done) | omega | (simp at *; omega)))⟩
    · have HL := Lib.hid h2
      have he : decide (b = b' ∧ c = c' ∧ d = d') = false := decide_eq_false h2
      clear h2
      go_enter Try.func39, Try.ntmps39
      go_wp2_with fail
      refine (eqFall_any _ _ _ _ _ _ _).mono ?_; rintro e w1 ⟨rfl, b1⟩
      rw [he]
      clear he
      go_wp2
      go_returns
      exact ⟨ret_bool (decide_eq_false (fun h => HL.out h.2)).symm, by (repeat' (first | (with_reducible exact Below.refl _ _) | (with_reducible assumption) | (with_reducible refine Below.alloc ?_ ?_ _) | (with_reducible refine Below.setCell ?_ ?_ _) | (with_reducible refine Below.drew ?_) | (with_reducible refine below_drewN ?_ _) | (with_reducible refine Below.trans ?_ (Below.mono (by assumption) ?_)) | (with_reducible exact Nat.le_refl _) | (simp; done) | omega | (simp at *; omega)))⟩
  · have hb : (a != a') = true := by simpa using h1
    have HL := Lib.hid h1
    clear h1
    go_enter Try.func39, Try.ntmps39
    go_wp2
    go_returns
    exact ⟨ret_bool (decide_eq_false (fun h => HL.out h.1)).symm, by (repeat' (first | (with_reducible exact Below.refl _ _) | (with_reducible assumption) | (with_reducible refine Below.alloc ?_ ?_ _) | (with_reducible refine Below.setCell ?_ ?_ _) | (with_reducible refine Below.drew ?_) | (with_reducible refine below_drewN ?_ _) | (with_reducible refine Below.trans ?_ (Below.mono (by assumption) ?_)) | (with_reducible exact Nat.le_refl _) | (simp; done) | omega | (simp at *; omega)))⟩
set_option maxRecDepth 100000 in
theorem eqLogS_any (A A' : Option Addr) (cap cap' : Nat) (l m : List (Int × Int × Int × Int)) (w : World) (hn : l.length ≤ 1048576) (hm : m.length ≤ 1048576) (hr : Rd w w.heap.size A (flatL l)) (hr' : Rd w w.heap.size A' (flatL m)) :
    Calls Try.prog 14 #[.slice A l.length cap, .slice A' m.length cap'] w fun e w' => e = .returned (.bool (decide (l = m))) ∧ Below w.heap.size w w' := by
  by_cases hlm : l.length = m.length
  · have hlb : ((l.length : Int) != (m.length : Int)) = false := by simp [hlm]
    rw [← hlm] at hlb ⊢
    have HL := Lib.hid hlm
    clear hlm
    go_enter Try.func14, Try.ntmps14
    go_wp2
    go_loopw [5] (fun i wr => ∃ k : Nat, k ≤ l.length ∧ i = .int .i64 k ∧ l.take k = m.take k ∧ Below w.heap.size w wr) (fun i _ => l.length - (intOf i).toNat)
    case atStart => exact ⟨0, Nat.zero_le _, rfl, rfl, by (repeat' (first | (with_reducible exact Below.refl _ _) | (with_reducible assumption) | (with_reducible refine Below.alloc ?_ ?_ _) | (with_reducible refine Below.setCell ?_ ?_ _) | (with_reducible refine Below.drew ?_) | (with_reducible refine below_drewN ?_ _) | (with_reducible refine Below.trans ?_ (Below.mono (by assumption) ?_)) | (with_reducible exact Nat.le_refl _) | (simp; done) | omega | (simp at *; omega)))⟩
    case round =>
      obtain ⟨k, hk, rfl, heq, hb⟩ := hrel
      by_cases hlt : k < l.length
      · obtain ⟨b, o, rfl, hbl, hc⟩ := hr (by rw [flatL_len]; omega)
        obtain ⟨b', o', rfl, hbl', hc'⟩ := hr' (by have := HL.out; rw [flatL_len]; omega)
        have hltm : k < m.length := by have := HL.out; omega
        obtain ⟨a0, a1, a2, a3⟩ := flatL_at l k hlt
        obtain ⟨d0, d1, d2, d3⟩ := flatL_at m k hltm
        have hc0 : wr.cell? ⟨b, o + k * 4, none⟩ = some (.int .i64 l[k].1) := (hb.cell (p := ⟨b, _, none⟩) hbl).trans (hc _ _ a0)
        have hc1 : wr.cell? ⟨b, o + k * 4 + 1, none⟩ = some (.int .i64 l[k].2.1) := (hb.cell (p := ⟨b, _, none⟩) hbl).trans (hc _ _ a1)
        have hc2 : wr.cell? ⟨b, o + k * 4 + 2, none⟩ = some (.int .i64 l[k].2.2.1) := (hb.cell (p := ⟨b, _, none⟩) hbl).trans (hc _ _ a2)
        have hc3 : wr.cell? ⟨b, o + k * 4 + 3, none⟩ = some (.int .i64 l[k].2.2.2) := (hb.cell (p := ⟨b, _, none⟩) hbl).trans (hc _ _ a3)
        have hd0 : wr.cell? ⟨b', o' + k * 4, none⟩ = some (.int .i64 m[k].1) := (hb.cell (p := ⟨b', _, none⟩) hbl').trans (hc' _ _ d0)
        have hd1 : wr.cell? ⟨b', o' + k * 4 + 1, none⟩ = some (.int .i64 m[k].2.1) := (hb.cell (p := ⟨b', _, none⟩) hbl').trans (hc' _ _ d1)
        have hd2 : wr.cell? ⟨b', o' + k * 4 + 2, none⟩ = some (.int .i64 m[k].2.2.1) := (hb.cell (p := ⟨b', _, none⟩) hbl').trans (hc' _ _ d2)
        have hd3 : wr.cell? ⟨b', o' + k * 4 + 3, none⟩ = some (.int .i64 m[k].2.2.2) := (hb.cell (p := ⟨b', _, none⟩) hbl').trans (hc' _ _ d3)
        have hs : w.heap.size ≤ wr.heap.size := hb.size
        clear hr hr' hc hc' a0 a1 a2 a3 d0 d1 d2 d3
        have HT := Lib.hid (takeL_step hlt hltm heq)
        have HN := Lib.hid (fun (h : l = m) => (show l[k].1 = m[k].1 ∧ l[k].2.1 = m[k].2.1 ∧ l[k].2.2.1 = m[k].2.2.1 ∧ l[k].2.2.2 = m[k].2.2.2 by subst h; exact ⟨rfl, rfl, rfl, rfl⟩))
        clear heq
        generalize l[k].1 = x at *
        generalize l[k].2.1 = y at *
        generalize l[k].2.2.1 = z at *
        generalize l[k].2.2.2 = u at *
        generalize m[k].1 = x' at *
        generalize m[k].2.1 = y' at *
        generalize m[k].2.2.1 = z' at *
        generalize m[k].2.2.2 = u' at *
        go_wp2_with fail
        go_still_tail 8, (by kernel_rfl)
        change wpList _ _ _ _ _ wr.drew
        have hb2 : Below w.heap.size w wr.drew := hb.drew
        have hs2 : w.heap.size ≤ wr.drew.heap.size := hs
        generalize wr.drew = w2 at *
        clear hc0 hc1 hc2 hc3 hd0 hd1 hd2 hd3 hb
        go_wp2_with fail
        by_cases hxy : x = x' ∧ y = y' ∧ z = z' ∧ u = u'
        · refine (eqLog_any _ _ _ _ _ _ _ _ _).mono ?_; rintro e w3 ⟨rfl, b3⟩
          rw [decide_eq_true hxy]
          have HX := Lib.hid hxy
          clear hxy
          go_wp2
          go_roundw
          case rel => exact ⟨k + 1, by omega, by go_num, HT.out HX.out.1 HX.out.2.1 HX.out.2.2.1 HX.out.2.2.2, by (repeat' (first | (with_reducible exact Below.refl _ _) | (with_reducible assumption) | (with_reducible refine Below.alloc ?_ ?_ _) | (with_reducible refine Below.setCell ?_ ?_ _) | (with_reducible refine Below.drew ?_) | (with_reducible refine below_drewN ?_ _) | (with_reducible refine Below.trans ?_ (Below.mono (by assumption) ?_)) | (with_reducible exact Nat.le_refl _) | (simp; done) | omega | (simp at *; omega)))⟩
          case measure => simp [intOf]; omega
        · refine (eqLog_any _ _ _ _ _ _ _ _ _).mono ?_; rintro e w3 ⟨rfl, b3⟩
          rw [decide_eq_false hxy]
          have HX := Lib.hid hxy
          clear hxy
          go_wp2
          go_returns
          exact ⟨ret_bool (decide_eq_false (fun h => HX.out (HN.out h))).symm, by (repeat' (first | (with_reducible exact Below.refl _ _) | (with_reducible assumption) | (with_reducible refine Below.alloc ?_ ?_ _) | (with_reducible refine Below.setCell ?_ ?_ _) | (with_reducible refine Below.drew ?_) | (with_reducible refine below_drewN ?_ _) | (with_reducible refine Below.trans ?_ (Below.mono (by assumption) ?_)) | (with_reducible exact Nat.le_refl _) | (simp; done) | omega | (simp at *; omega)))⟩
      · obtain rfl : k = l.length := by omega
        rw [List.take_length, HL.out, List.take_length] at heq
        have HQ := Lib.hid heq
        clear heq
        go_wp2
        go_returns
        exact ⟨ret_bool (decide_eq_true HQ.out).symm, hb⟩
  · have hlb : ((l.length : Int) != (m.length : Int)) = true := by simp; omega
    go_enter Try.func14, Try.ntmps14
    go_wp2
    go_returns
    exact ⟨ret_bool (by simp; intro h; exact hlm (by rw [h])), by (repeat' (first | (with_reducible exact Below.refl _ _) | (with_reducible assumption) | (with_reducible refine Below.alloc ?_ ?_ _) | (with_reducible refine Below.setCell ?_ ?_ _) | (with_reducible refine Below.drew ?_) | (with_reducible refine below_drewN ?_ _) | (with_reducible refine Below.trans ?_ (Below.mono (by assumption) ?_)) | (with_reducible exact Nat.le_refl _) | (simp; done) | omega | (simp at *; omega)))⟩
theorem markLogS_n (A : Option Addr) (cap n : Nat) (xs : List Value) (k : Int) (w : World) (hx : xs.length = 4 * n) (hn : n ≤ 1048576) (h0 : 0 ≤ k) (h1 : k ≤ 16777216) (ho : Own w A 61 xs) :
    Calls Try.prog 21 #[.slice A n cap, .int .i64 k] w fun e w' => e = .returned (.int .i64 (k + 4 * n)) ∧ Own w' A 61 (marks k (4 * n)) ∧ Fx w w' A n := by
  rcases Nat.eq_zero_or_pos n with hz | hp
  · subst hz
    clear ho hx
    go_enter Try.func21, Try.ntmps21
    go_wp2
    go_rounds 1
    go_returns
    exact ⟨ret_int (by simp), fun h => absurd h (by rw [marks_length]; omega), same_fx⟩
  · obtain ⟨g, rest, rfl, hw⟩ := ho (by omega)
    have HX := Lib.hid hx
    clear hx
    go_enter Try.func21, Try.ntmps21
    go_wp2
    go_loopw [1, 5] (fun q i wr => ∃ j : Nat, j ≤ n ∧ i = .int .i64 j ∧ q = .int .i64 (k + 4 * j) ∧ Whole wr g 61 ((marks k (4 * j) ++ xs.drop (4 * j)) ++ rest) ∧ w.grownBy wr (some g)) (fun _ i _ => n - (intOf i).toNat)
    case atStart => exact ⟨0, Nat.zero_le _, rfl, by go_num, by simpa [marks] using hw, World.grownBy.refl w _⟩
    case round =>
      obtain ⟨j, hj, rfl, rfl, hwr, hg⟩ := hrel
      by_cases hlt : j < n
      · have hx3 : 4 * j + 3 < xs.length := by have := HX.out; omega
        obtain ⟨u, hu⟩ := marked_at k xs rest (4 * j) (by omega)
        obtain ⟨u', hu'⟩ := marked_at k xs rest (4 * j + 1) (by omega)
        obtain ⟨u2, hu2⟩ := marked_at k xs rest (4 * j + 2) (by omega)
        obtain ⟨u3, hu3⟩ := marked_at k xs rest (4 * j + 3) hx3
        have s1 := marked_step k xs rest (4 * j) (by omega)
        have s2 := marked_step k xs rest (4 * j + 1) (by omega)
        have s3 := marked_step k xs rest (4 * j + 2) (by omega)
        have s4 := marked_step k xs rest (4 * j + 3) hx3
        have e0 : (k + 4 * (j : Int)) = k + ((4 * j : Nat) : Int) := by omega
        have e1 : k + 4 * (j : Int) + 1 = k + ((4 * j + 1 : Nat) : Int) := by omega
        have e2 : k + 4 * (j : Int) + 1 + 1 = k + ((4 * j + 2 : Nat) : Int) := by omega
        have e3 : k + 4 * (j : Int) + 1 + 1 + 1 = k + ((4 * j + 3 : Nat) : Int) := by omega
        have ej : j * 4 = 4 * j := by omega
        have hc : wr.cell? ⟨g, j * 4, none⟩ = some u := by rw [hwr.cell, ej]; exact hu
        have hw2 := hwr.set (4 * j) (.int .i64 (k + (4 * j : Nat)))
        rw [s1] at hw2
        have hc' : (wr.setCell ⟨g, j * 4, none⟩ (.int .i64 (k + 4 * j))).cell? ⟨g, j * 4 + 1, none⟩ = some u' := by
          rw [e0, ej, hw2.cell]; exact hu'
        have hw3 := hw2.set (4 * j + 1) (.int .i64 (k + ((4 * j + 1 : Nat) : Int)))
        rw [s2] at hw3
        have hc2 : ((wr.setCell ⟨g, j * 4, none⟩ (.int .i64 (k + 4 * j))).setCell ⟨g, j * 4 + 1, none⟩ (.int .i64 (k + 4 * j + 1))).cell? ⟨g, j * 4 + 2, none⟩ = some u2 := by
          rw [e1, e0, ej, hw3.cell]; exact hu2
        have hw4 := hw3.set (4 * j + 2) (.int .i64 (k + ((4 * j + 2 : Nat) : Int)))
        rw [s3] at hw4
        have hc3 : (((wr.setCell ⟨g, j * 4, none⟩ (.int .i64 (k + 4 * j))).setCell ⟨g, j * 4 + 1, none⟩ (.int .i64 (k + 4 * j + 1))).setCell ⟨g, j * 4 + 2, none⟩ (.int .i64 (k + 4 * j + 1 + 1))).cell? ⟨g, j * 4 + 3, none⟩ = some u3 := by
          rw [e2, e1, e0, ej, hw4.cell]; exact hu3
        have hw5 := hw4.set (4 * j + 3) (.int .i64 (k + ((4 * j + 3 : Nat) : Int)))
        rw [s4] at hw5
        have HW := Lib.hid hw5
        have hf := hwr.frozen (j * 4)
        have hf' := hwr.frozen (j * 4 + 1)
        have hf2 := hwr.frozen (j * 4 + 2)
        have hf3 := hwr.frozen (j * 4 + 3)
        have HE := Lib.hid (And.intro e0 (And.intro e1 (And.intro e2 (And.intro e3 ej))))
        clear hu hu' hu2 hu3 s1 s2 s3 s4 hw2 hw3 hw4 hw5 e0 e1 e2 e3 ej
        go_wp2
        go_roundw
        case rel =>
          refine ⟨j + 1, by omega, by go_num, by go_num, ?_, only_setCell (only_setCell (only_setCell (only_setCell hg _ _) _ _) _ _) _ _⟩
          obtain ⟨e0, e1, e2, e3, ej⟩ := HE.out
          have h := HW.out
          rw [e3, e2, e1, e0, ej, show 4 * (j + 1) = 4 * j + 3 + 1 by omega]
          exact h
        case measure => simp [intOf]; omega
      · obtain rfl : j = n := by omega
        have HY := HX.out
        have hd : xs.drop (4 * j) = [] := List.drop_eq_nil_of_le (by omega)
        rw [hd] at hwr
        clear HY hd
        go_wp2
        go_returns
        refine ⟨rfl, fun _ => ⟨g, rest, rfl, by simpa using hwr⟩, only_fx hg hp⟩
theorem heldLogS_any (A : Option Addr) (cap n : Nat) (k : Int) (w : World) (hn : n ≤ 1048576) (h0 : 0 ≤ k) (h1 : k ≤ 16777216) (ho : Own w A 61 (marks k (4 * n))) :
    Calls Try.prog 22 #[.slice A n cap, .int .i64 k] w fun e w' => e = .returned (.int .i64 (k + 4 * n)) ∧ w = w' := by
  rcases Nat.eq_zero_or_pos n with hz | hp
  · subst hz
    clear ho
    go_enter Try.func22, Try.ntmps22
    go_wp2
    go_rounds 1
    go_returns
    refine ⟨ret_int (by simp), rfl⟩
  · obtain ⟨g, rest, rfl, hw⟩ := ho (by rw [marks_length]; omega)
    go_enter Try.func22, Try.ntmps22
    go_wp2
    go_loop [1, 5] (fun q i => ∃ j : Nat, j ≤ n ∧ i = .int .i64 j ∧ q = .int .i64 (k + 4 * j)) (fun _ i => n - (intOf i).toNat)
    case atStart => exact ⟨0, Nat.zero_le _, rfl, by go_num⟩
    case round =>
      obtain ⟨j, hj, rfl, rfl⟩ := hrel
      by_cases hlt : j < n
      · have hc : w.cell? ⟨g, j * 4, none⟩ = some (.int .i64 (k + 4 * j)) := by
          rw [hw.cell, List.getElem?_append_left (by rw [marks_length]; omega), marks_at k (4 * n) (j * 4) (by omega)]
          congr 2; omega
        have hc' : w.cell? ⟨g, j * 4 + 1, none⟩ = some (.int .i64 (k + 4 * j + 1)) := by
          rw [hw.cell, List.getElem?_append_left (by rw [marks_length]; omega), marks_at k (4 * n) (j * 4 + 1) (by omega)]
          congr 2; omega
        have hc2 : w.cell? ⟨g, j * 4 + 2, none⟩ = some (.int .i64 (k + 4 * j + 1 + 1)) := by
          rw [hw.cell, List.getElem?_append_left (by rw [marks_length]; omega), marks_at k (4 * n) (j * 4 + 2) (by omega)]
          congr 2; omega
        have hc3 : w.cell? ⟨g, j * 4 + 3, none⟩ = some (.int .i64 (k + 4 * j + 1 + 1 + 1)) := by
          rw [hw.cell, List.getElem?_append_left (by rw [marks_length]; omega), marks_at k (4 * n) (j * 4 + 3) (by omega)]
          congr 2; omega
        go_wp2
        go_round
        case rel => exact ⟨j + 1, by omega, by go_num, by go_num⟩
        case measure => simp [intOf]; omega
      · obtain rfl : j = n := by omega
        go_wp2
        go_returns
        exact ⟨rfl, rfl⟩
end Go.Proofs.Ytlambflmabecfaa
namespace Go.Proofs.Ytlambflmabecfaa
open Go.ChangeShapes Go.WideShapes Go.ChangeAt Go.RowKit Go.Joins Go.Deep
set_option linter.unusedSimpArgs false
set_option linter.unusedVariables false
set_option maxRecDepth 100000
set_option maxHeartbeats 1000000
abbrev LE := Int × Int × Int × Int
def inL (lo hi n : Int) : Bool := decide (lo ≤ n) && decide (n ≤ hi)
def okE1 (e : LE) : Bool := inL 0 1 e.1 && inL 1 3 e.2.1 && inL 0 10 e.2.2.1 && inL (-1) 9 e.2.2.2
def okLog (l : List LE) : Bool := l.all okE1 && decide (l.length ≤ 60)
theorem all_take_succ {l : List LE} {k : Nat} (h : k < l.length) : (l.take (k + 1)).all okE1 = ((l.take k).all okE1 && okE1 (l[k].1, l[k].2.1, l[k].2.2.1, l[k].2.2.2)) := by
  rw [List.take_succ_eq_append_getElem h, List.all_append]
  simp
theorem okLog_bad {l : List LE} {k : Nat} (h : k < l.length) (hb : okE1 (l[k].1, l[k].2.1, l[k].2.2.1, l[k].2.2.2) = false) : okLog l = false := by
  unfold okLog
  rw [Bool.and_eq_false_iff]
  left
  rw [List.all_eq_false]
  exact ⟨l[k], List.getElem_mem h, by rw [show okE1 l[k] = false from hb]; simp⟩
theorem okLog_all {l : List LE} (h : (l.take l.length).all okE1 = true) : okLog l = decide (l.length ≤ 60) := by
  rw [List.take_length] at h
  unfold okLog
  rw [h, Bool.true_and]
theorem okLog_long {l : List LE} (h : 60 < l.length) : okLog l = false := by
  unfold okLog
  rw [decide_eq_false (by omega), Bool.and_false]
theorem okLog_parts {l : List LE} (h : okLog l = true) : l.length ≤ 60 ∧ ∀ e ∈ l, okE1 e = true := by
  unfold okLog at h
  rw [Bool.and_eq_true, decide_eq_true_eq, List.all_eq_true] at h
  exact ⟨h.2, h.1⟩
theorem okE1_parts {e : LE} (h : okE1 e = true) : (0 ≤ e.1 ∧ e.1 ≤ 1) ∧ (1 ≤ e.2.1 ∧ e.2.1 ≤ 3) ∧ (0 ≤ e.2.2.1 ∧ e.2.2.1 ≤ 10) ∧ (-1 ≤ e.2.2.2 ∧ e.2.2.2 ≤ 9) := by
  unfold okE1 inL at h
  simp only [Bool.and_eq_true, decide_eq_true_eq] at h
  exact ⟨h.1.1.1, h.1.1.2, h.1.2, h.2⟩
/-- How many entries at the beginning are the same. -/
def agreeL : List LE → List LE → Nat
  | a :: xs, b :: ys => if a = b then agreeL xs ys + 1 else 0
  | _, _ => 0
theorem agree_nil (b : List LE) : agreeL [] b = 0 := by cases b <;> rfl
theorem agree_nil' (a : List LE) : agreeL a [] = 0 := by cases a <;> rfl
theorem agree_stop : ∀ (n : Nat) (a b : List LE), n ≤ a.length → n ≤ b.length → a.take n = b.take n → (∀ (h : n < a.length) (h' : n < b.length), a[n] ≠ b[n]) → agreeL a b = n
  | 0, [], b, _, _, _, _ => agree_nil b
  | 0, _ :: _, [], _, _, _, _ => rfl
  | 0, a :: xs, b :: ys, _, _, _, h => by
    have h1 : a ≠ b := h (Nat.zero_lt_succ _) (Nat.zero_lt_succ _)
    unfold agreeL
    rw [if_neg h1]
  | n + 1, [], _, h, _, _, _ => absurd h (by simp)
  | n + 1, _ :: _, [], _, h, _, _ => absurd h (by simp)
  | n + 1, a :: xs, b :: ys, h1, h2, h3, h4 => by
    rw [List.take_succ_cons, List.take_succ_cons] at h3
    injection h3 with h5 h6
    unfold agreeL
    rw [if_pos h5, agree_stop n xs ys (by simpa using h1) (by simpa using h2) h6 (fun h h' => h4 (Nat.succ_lt_succ h) (Nat.succ_lt_succ h'))]
theorem agree_le : ∀ (a b : List LE), agreeL a b ≤ a.length ∧ agreeL a b ≤ b.length
  | [], b => by rw [agree_nil]; exact ⟨Nat.zero_le _, Nat.zero_le _⟩
  | _ :: _, [] => ⟨Nat.zero_le _, Nat.zero_le _⟩
  | a :: xs, b :: ys => by
    unfold agreeL
    have := agree_le xs ys
    split
    · simp; exact this
    · exact ⟨Nat.zero_le _, Nat.zero_le _⟩
theorem agree_comm : ∀ (a b : List LE), agreeL a b = agreeL b a
  | [], b => by rw [agree_nil, agree_nil']
  | _ :: _, [] => rfl
  | a :: xs, b :: ys => by
    unfold agreeL
    by_cases h : a = b
    · rw [if_pos h, if_pos h.symm, agree_comm xs ys]
    · rw [if_neg h, if_neg (fun e => h e.symm)]
theorem agree_take : ∀ (n : Nat) (L l : List LE), l.length ≤ n → agreeL (L.take n) l = agreeL L l
  | n, [], l, _ => by rw [List.take_nil]
  | n, _ :: _, [], _ => by rw [agree_nil', agree_nil']
  | 0, _ :: _, _ :: _, h => absurd h (by simp)
  | n + 1, a :: xs, b :: ys, h => by
    rw [List.take_succ_cons]
    unfold agreeL
    rw [agree_take n xs ys (by simpa using h)]
/-- The least period from p on, n further numbers tried. -/
def perF (l : List LE) : Nat → Nat → Nat
  | p, 0 => p
  | p, n + 1 => if agreeL (l.drop p) l = l.length - p then p else perF l (p + 1) n
def perL (l : List LE) : Nat := perF l 1 (l.length - 1)
theorem perF_yes {l : List LE} {p n : Nat} (h : agreeL (l.drop p) l = l.length - p) : perF l p n = p := by
  cases n with
  | zero => rfl
  | succ n => rw [perF, if_pos h]
theorem perF_no {l : List LE} {p n : Nat} (h : agreeL (l.drop p) l ≠ l.length - p) : perF l p (n + 1) = perF l (p + 1) n := by rw [perF, if_neg h]
def okPer (l : List LE) : Bool := okLog l && decide (0 < l.length)
/-- The indices below k at which the colour changes. -/
def chg (l : List LE) (k : Nat) : Bool := decide (0 < k) && decide ((l.getD k (0, 0, 0, 0)).1 ≠ (l.getD (k - 1) (0, 0, 0, 0)).1)
def chgK (l : List LE) (k : Nat) : List Int := ((List.range k).filter (chg l)).map (fun i : Nat => (i : Int))
def chgL (l : List LE) : List Int := chgK l l.length
theorem chgK_yes {l : List LE} {k : Nat} (h : chg l k = true) : chgK l (k + 1) = chgK l k ++ [(k : Int)] := by
  unfold chgK
  rw [List.range_succ, List.filter_append, List.map_append, List.filter_cons_of_pos h]
  rfl
theorem chgK_no {l : List LE} {k : Nat} (h : chg l k = false) : chgK l (k + 1) = chgK l k := by
  unfold chgK
  rw [List.range_succ, List.filter_append, List.map_append, List.filter_cons_of_neg (by rw [h]; simp)]
  simp
theorem chgK_one (l : List LE) : chgK l 1 = [] := chgK_no (k := 0) (by unfold chg; rfl)
theorem chgK_len (l : List LE) (k : Nat) : (chgK l k).length ≤ k := by
  unfold chgK
  rw [List.length_map]
  exact Nat.le_trans (List.length_filter_le _ _) (by rw [List.length_range]; exact Nat.le_refl _)
theorem chg_at {l : List LE} {k : Nat} (h : k < l.length) (h0 : 0 < k) : chg l k = decide (l[k].1 ≠ (l[k - 1]'(by omega)).1) := by
  unfold chg
  rw [decide_eq_true h0, Bool.true_and, List.getD_eq_getElem?_getD, List.getD_eq_getElem?_getD, List.getElem?_eq_getElem h, List.getElem?_eq_getElem (by omega)]
  rfl
def chO (l : List LE) : List Int := if okLog l then chgL l else []
theorem chO_len (l : List LE) : (chO l).length ≤ l.length := by
  unfold chO
  split
  · exact chgK_len _ _
  · exact Nat.zero_le _
/-- Another end of a stretch: the longest one, its length, where the next one begins. -/
def upd (s : Int × Int × Int) (e : Int) : Int × Int × Int := (if s.2.1 < e - s.2.2 then s.2.2 else s.1, if s.2.1 < e - s.2.2 then e - s.2.2 else s.2.1, e)
def stT (l : List LE) (k : Nat) : Int × Int × Int := (chgK l k).foldl upd (0, 0, 0)
def lonT (l : List LE) : Int × Int × Int := upd (stT l l.length) l.length
theorem stT_yes {l : List LE} {k : Nat} (h : chg l k = true) : stT l (k + 1) = upd (stT l k) k := by
  unfold stT
  rw [chgK_yes h, List.foldl_append]
  rfl
theorem stT_no {l : List LE} {k : Nat} (h : chg l k = false) : stT l (k + 1) = stT l k := by
  unfold stT
  rw [chgK_no h]
theorem lonT_fold (l : List LE) : (chgL l ++ [(l.length : Int)]).foldl upd (0, 0, 0) = lonT l := by
  rw [List.foldl_append]
  rfl
/-- What the model knows behind k entries: where the longest stretch begins, its length, where the last one begins. -/
structure LonK (l : List LE) (k : Nat) (best most : Int) (start : Nat) : Prop where
  bg : (stT l k).2.2 = (start : Int)
  b : best = (upd (stT l k) k).1
  m : most = (upd (stT l k) k).2.1
  in_ : start < k ∨ k = 0 ∧ start = 0
  same : ∀ j (hj : j < l.length) (hs : start < l.length), start ≤ j → j < k → l[j].1 = l[start].1
theorem LonK.zero (l : List LE) : LonK l 0 0 0 0 := ⟨rfl, rfl, rfl, .inr ⟨rfl, rfl⟩, fun j _ _ _ h => absurd h (by omega)⟩
theorem LonK.no {l : List LE} {k start : Nat} {best most : Int} (h : LonK l k best most start) (hk : k < l.length) (hs : start < l.length) (he : l[k].1 = l[start].1) :
    LonK l (k + 1) (if most < (k : Int) + 1 - start then start else best) (if most < (k : Int) + 1 - start then (k : Int) + 1 - start else most) start := by
  have hc : chg l k = false := by
    rcases Nat.eq_zero_or_pos k with h0 | h0
    · subst h0; rfl
    · rw [chg_at hk h0, decide_eq_false]
      intro hne
      refine hne (he.trans (h.same (k - 1) (by omega) hs ?_ (by omega)).symm)
      have := h.in_
      omega
  obtain ⟨h1, h2, h3, h4, h5⟩ := h
  have e := stT_no hc
  generalize stT l k = s at *
  obtain ⟨s0, s1, s2⟩ := s
  unfold upd at h2 h3
  dsimp only at h1 h2 h3
  subst h1 h2 h3
  refine ⟨by rw [e], ?_, ?_, .inl (by omega), fun j hj hs' h6 h7 => ?_⟩
  · rw [e]
    unfold upd
    dsimp only
    push_cast
    (repeat' split) <;> omega
  · rw [e]
    unfold upd
    dsimp only
    push_cast
    (repeat' split) <;> omega
  · rcases Nat.lt_or_ge j k with h8 | h8
    · exact h5 j hj hs' h6 h8
    · obtain rfl : j = k := by omega
      exact he
theorem LonK.yes {l : List LE} {k start : Nat} {best most : Int} (h : LonK l k best most start) (hk : k < l.length) (hs : start < l.length) (he : l[k].1 ≠ l[start].1) :
    LonK l (k + 1) best most k ∧ ¬ most < (k : Int) + 1 - k := by
  have h0 : 0 < k := by
    rcases Nat.eq_zero_or_pos k with h0 | h0
    · subst h0
      have := h.in_
      obtain rfl : start = 0 := by omega
      exact absurd rfl he
    · exact h0
  have hc : chg l k = true := by
    rw [chg_at hk h0, decide_eq_true]
    intro hne
    refine he (hne.trans (h.same (k - 1) (by omega) hs ?_ (by omega)))
    have := h.in_
    omega
  obtain ⟨h1, h2, h3, h4, h5⟩ := h
  have e := stT_yes hc
  generalize stT l k = s at *
  obtain ⟨s0, s1, s2⟩ := s
  unfold upd at h2 h3
  dsimp only at h1 h2 h3
  subst h1 h2 h3
  have hm : ¬ (if s1 < (k : Int) - start then (k : Int) - start else s1) < (k : Int) + 1 - k := by split <;> omega
  refine ⟨⟨by rw [e]; rfl, ?_, ?_, .inl (by omega), fun j hj hs' h6 h7 => ?_⟩, hm⟩
  · rw [e]
    unfold upd
    dsimp only
    push_cast
    (repeat' split) <;> omega
  · rw [e]
    unfold upd
    dsimp only
    push_cast
    (repeat' split) <;> omega
  · obtain rfl : j = k := by omega
    rfl
theorem LonK.end_ {l : List LE} {best most : Int} {start : Nat} (h : LonK l l.length best most start) : best = (lonT l).1 ∧ most = (lonT l).2.1 := ⟨h.b, h.m⟩
end Go.Proofs.Ytlambflmabecfaa
namespace Go.Proofs.Ytlambflmabecfaa
open Go.ChangeShapes Go.WideShapes Go.ChangeAt Go.RowKit Go.Joins Go.Deep
set_option linter.unusedSimpArgs false
set_option linter.unusedVariables false
set_option maxRecDepth 100000
set_option maxHeartbeats 400000
def goN (k s d : Int) : Int := if k = 1 then -1 else if k = 2 then 1 else if k = 3 ∨ k = 6 then 2 * s - 1 else if k = 4 then -d else 0
def goB (k s d : Int) : Bool := good k s && decide (-1 ≤ d ∧ d ≤ 1 ∧ k ≠ 5)
theorem spec_paGoes (a b d : Int) (h : good a b = true) (h1 : -1 ≤ d) (h2 : d ≤ 1) (w : World) :
    Calls Try.prog 88 #[.agg #[.int .i64 a, .int .i64 b], .int .i64 d] w fun e w' => e = .returned (.int .i64 (goN a b d)) ∧ Below w.heap.size w w' := by
  have h3 : 0 ≤ b := by unfold good at h; simp at h; omega
  have h4 : b ≤ 1 := by unfold good at h; simp at h; omega
  clear h
  go_enter Try.func88, Try.ntmps88
  go_wp2
  all_goals go_returns
  all_goals refine ⟨ret_int (by unfold goN; (simp only [beq_iff_eq, beq_eq_false_iff_ne, ne_eq] at *; (repeat' split) <;> first | rfl | omega)), by (repeat' (first | (with_reducible exact Below.refl _ _) | (with_reducible assumption) | (with_reducible refine Below.alloc ?_ ?_ _) | (with_reducible refine Below.setCell ?_ ?_ _) | (with_reducible refine Below.drew ?_) | (with_reducible refine below_drewN ?_ _) | (with_reducible refine Below.trans ?_ (Below.mono (by assumption) ?_)) | (with_reducible exact Nat.le_refl _) | (simp; done) | omega | (simp at *; omega)))⟩
theorem ret_intb {a c : Int} {x y : Bool} (h : x = y) (h1 : y = true → a = c) (h3 : y = false → a = 0) :
    Ending.returned (.tuple #[.int .i64 a, .bool x]) = .returned (.tuple #[.int .i64 (selI y c), .bool y]) := by
  subst h
  cases x
  · rw [h3 rfl]; rfl
  · rw [h1 rfl]; rfl
theorem impl_GoesTo (a b d : Int) (w : World) :
    Calls Try.prog 85 #[.agg #[.int .i64 a, .int .i64 b], .int .i64 d] w fun e w' => e = .returned (.tuple #[.int .i64 (selI (goB a b d) (goN a b d)), .bool (goB a b d)]) ∧ Below w.heap.size w w' := by
  go_enter Try.func85, Try.ntmps85
  go_wp2_with (first | (go_at_call 92; refine (impl_IsCell _ _ _).mono ?_; rintro e w1 ⟨rfl, bw1⟩; obtain ⟨cw1, fw1⟩ := bcell bw1; have zw10 : w.heap.size < w1.heap.size := (by have := bw1.size; first | omega | (simp at this; omega))) | (go_at_call 93; go_in) | (go_at_call 99; go_in) | (go_at_call 100; go_in) | (go_at_call 101; go_in) | (go_at_call 102; go_in))
  all_goals go_returns
  all_goals (have hg := (show good a b = true → (b = 0 ∨ b = 1) from (by unfold good; simp; omega)))
  all_goals refine ⟨by (refine ret_intb ?_ ?_ ?_ <;> first | rfl | (intros; rfl) | (unfold goB; simp_all; done) | (unfold goB; simp_all; omega) | (intro _; unfold goN; simp_all; done) | (intro _; unfold goN; simp_all; omega)), by (repeat' (first | (with_reducible exact Below.refl _ _) | (with_reducible assumption) | (with_reducible refine Below.alloc ?_ ?_ _) | (with_reducible refine Below.setCell ?_ ?_ _) | (with_reducible refine Below.drew ?_) | (with_reducible refine below_drewN ?_ _) | (with_reducible refine Below.trans ?_ (Below.mono (by assumption) ?_)) | (with_reducible exact Nat.le_refl _) | (simp; done) | omega | (simp at *; omega)))⟩
end Go.Proofs.Ytlambflmabecfaa
namespace Go.Proofs.Ytlambflmabecfaa
open Go.ChangeShapes Go.WideShapes Go.ChangeAt Go.RowKit Go.Joins Go.Deep
set_option linter.unusedSimpArgs false
set_option linter.unusedVariables false
set_option maxRecDepth 100000
set_option maxHeartbeats 400000
/-- A cell that may still be found: it joins, is in no group yet, and not found. -/
def opn (J : Nat → Bool) (v q : List Nat) (i : Nat) : Bool := J i && !v.contains i && !q.contains i
def bst (J : Nat → Bool) (v q : List Nat) (i : Nat) : List Nat := if opn J v q i then q ++ [i] else q
def brn (J : Nat → Bool) (v q : List Nat) (l : List Nat) : List Nat := l.foldl (bst J v) q
def bro (J : Nat → Bool) (near : Nat → List Nat) (v q : List Nat) (k : Nat) : List Nat :=
  match q[k]? with
  | some x => brn J v q (near x)
  | none => q
def brs (J : Nat → Bool) (near : Nat → List Nat) (v q : List Nat) : Nat → List Nat
  | 0 => q
  | k + 1 => bro J near v (brs J near v q k) k
theorem brn_snoc (J : Nat → Bool) (v q l : List Nat) (x : Nat) : brn J v q (l ++ [x]) = bst J v (brn J v q l) x := by
  unfold brn; rw [List.foldl_append]; rfl
theorem brn_take (J : Nat → Bool) (v q l : List Nat) (k : Nat) (h : k < l.length) : brn J v q (l.take (k + 1)) = bst J v (brn J v q (l.take k)) l[k] := by
  rw [List.take_succ_eq_append_getElem h, brn_snoc]
theorem brs_at (J : Nat → Bool) (near : Nat → List Nat) (v q : List Nat) (k : Nat) (h : k < (brs J near v q k).length) : brs J near v q (k + 1) = brn J v (brs J near v q k) (near (brs J near v q k)[k]) := by
  show bro J near v (brs J near v q k) k = _
  unfold bro
  rw [List.getElem?_eq_getElem h]
theorem brs_stop (J : Nat → Bool) (near : Nat → List Nat) (v q : List Nat) (k : Nat) (h : (brs J near v q k).length ≤ k) : ∀ m, k ≤ m → brs J near v q m = brs J near v q k := by
  intro m hm
  induction m with
  | zero => rw [show k = 0 by omega]
  | succ m ih =>
    rcases Nat.eq_or_lt_of_le hm with e | e
    · rw [e]
    · have e1 := ih (by omega)
      show bro J near v (brs J near v q m) m = _
      rw [e1]
      unfold bro
      rw [List.getElem?_eq_none (by omega)]
/-! ### how many -/
def cntp (p : Nat → Bool) : Nat → Nat
  | 0 => 0
  | n + 1 => cntp p n + (if p n then 1 else 0)
theorem cntp_le (p : Nat → Bool) (n : Nat) : cntp p n ≤ n := by
  induction n with
  | zero => exact Nat.le_refl _
  | succ n ih =>
    show cntp p n + (if p n then 1 else 0) ≤ n + 1
    split <;> omega
theorem cntp_congr {p r : Nat → Bool} {n : Nat} (h : ∀ j, j < n → p j = r j) : cntp p n = cntp r n := by
  induction n with
  | zero => rfl
  | succ n ih =>
    show cntp p n + (if p n then 1 else 0) = cntp r n + (if r n then 1 else 0)
    rw [ih (fun j hj => h j (by omega)), h n (by omega)]
theorem cntp_drop {p r : Nat → Bool} {i n : Nat} (hi : i < n) (hp : p i = true) (hr : r i = false) (h : ∀ j, j ≠ i → r j = p j) : cntp p n = cntp r n + 1 := by
  induction n with
  | zero => omega
  | succ n ih =>
    show cntp p n + (if p n then 1 else 0) = cntp r n + (if r n then 1 else 0) + 1
    by_cases e : n = i
    · subst e
      rw [hp, hr, cntp_congr (fun j hj => (h j (by omega)).symm)]
      simp
    · rw [ih (by omega), h n e]
      omega
theorem opn_snoc (J : Nat → Bool) (v q : List Nat) (x j : Nat) : opn J v (q ++ [x]) j = (opn J v q j && !(j == x)) := by
  unfold opn
  rw [List.contains_eq_any_beq, List.contains_eq_any_beq, List.contains_eq_any_beq, List.any_append, Bool.not_or]
  simp [Bool.and_assoc]
/-- What has been found and what may still be found are no more than n together. -/
def Few (J : Nat → Bool) (v : List Nat) (n : Nat) (q : List Nat) : Prop := q.length + cntp (opn J v q) n ≤ n
theorem few_bst {J : Nat → Bool} {v q : List Nat} {n i : Nat} (h : Few J v n q) (hi : i < n) : Few J v n (bst J v q i) := by
  unfold bst
  split
  · rename_i ho
    unfold Few at h ⊢
    have := cntp_drop (p := opn J v q) (r := opn J v (q ++ [i])) hi ho (by rw [opn_snoc]; simp) (fun j hj => by rw [opn_snoc]; simp [hj])
    rw [List.length_append, List.length_singleton]
    omega
  · exact h
theorem few_brn {J : Nat → Bool} {v : List Nat} {n : Nat} : ∀ (l : List Nat) (q : List Nat), (∀ x ∈ l, x < n) → Few J v n q → Few J v n (brn J v q l)
  | [], q, _, h => h
  | x :: l, q, hl, h => few_brn l (bst J v q x) (fun y hy => hl y (List.mem_cons_of_mem _ hy)) (few_bst h (hl x (List.mem_cons_self ..)))
theorem mem_bst {J : Nat → Bool} {v q : List Nat} {i x : Nat} : x ∈ bst J v q i ↔ x ∈ q ∨ (x = i ∧ opn J v q i = true) := by
  unfold bst
  split
  · rename_i h; rw [List.mem_append, List.mem_singleton, h]; simp
  · rename_i h; simp [h]
theorem mem_brn_le {J : Nat → Bool} {v : List Nat} {x : Nat} : ∀ (l q : List Nat), x ∈ q → x ∈ brn J v q l
  | [], q, h => h
  | y :: l, q, h => mem_brn_le l (bst J v q y) (mem_bst.2 (.inl h))
theorem opn_iff {J : Nat → Bool} {v q : List Nat} {i : Nat} : opn J v q i = true ↔ J i = true ∧ i ∉ v ∧ i ∉ q := by
  unfold opn
  simp [and_assoc]
theorem mem_brn_open {J : Nat → Bool} {v : List Nat} {x : Nat} (hJ : J x = true) (hv : x ∉ v) : ∀ (l q : List Nat), x ∈ l → x ∈ brn J v q l
  | [], q, h => absurd h (List.not_mem_nil)
  | y :: l, q, h => by
    show x ∈ brn J v (bst J v q y) l
    by_cases hq : x ∈ bst J v q y
    · exact mem_brn_le l _ hq
    · rcases List.mem_cons.1 h with e | e
      · subst e
        exact absurd (mem_bst.2 (by
          by_cases hx : x ∈ q
          · exact .inl hx
          · exact .inr ⟨rfl, opn_iff.2 ⟨hJ, hv, hx⟩⟩)) hq
      · exact mem_brn_open hJ hv l _ e
theorem brn_prefix {J : Nat → Bool} {v : List Nat} : ∀ (l q : List Nat), q <+: brn J v q l
  | [], q => List.prefix_refl q
  | y :: l, q => by
    refine List.IsPrefix.trans ?_ (brn_prefix l (bst J v q y))
    unfold bst
    split
    · exact List.prefix_append _ _
    · exact List.prefix_refl _
/-- A property of lists that a step keeps is one of the whole search. -/
theorem brn_keeps {J : Nat → Bool} {v : List Nat} {M : List Nat → Prop} {D : Nat → Prop} (hM : ∀ q i, D i → M q → M (bst J v q i)) : ∀ (l q : List Nat), (∀ x ∈ l, D x) → M q → M (brn J v q l)
  | [], q, _, h => h
  | x :: l, q, hl, h => brn_keeps hM l (bst J v q x) (fun y hy => hl y (List.mem_cons_of_mem _ hy)) (hM q x (hl x (List.mem_cons_self ..)) h)
theorem brs_succ_or (J : Nat → Bool) (near : Nat → List Nat) (v q : List Nat) (k : Nat) : ((brs J near v q k).length ≤ k ∧ brs J near v q (k + 1) = brs J near v q k) ∨ ∃ h : k < (brs J near v q k).length, brs J near v q (k + 1) = brn J v (brs J near v q k) (near (brs J near v q k)[k]) := by
  rcases Nat.lt_or_ge k (brs J near v q k).length with h | h
  · exact .inr ⟨h, brs_at J near v q k h⟩
  · exact .inl ⟨h, brs_stop J near v q k h (k + 1) (by omega)⟩
theorem brs_few {J : Nat → Bool} {near : Nat → List Nat} {v q : List Nat} {n : Nat} (hn : ∀ x, x < n → ∀ y ∈ near x, y < n) (hq : ∀ x ∈ q, x < n) (h : Few J v n q) : ∀ k, Few J v n (brs J near v q k) ∧ ∀ x ∈ brs J near v q k, x < n := by
  intro k
  induction k with
  | zero => exact ⟨h, hq⟩
  | succ k ih =>
    rcases brs_succ_or J near v q k with ⟨hz, e⟩ | ⟨hk, e⟩
    · rw [e]; exact ih
    · rw [e]
      have hx := ih.2 _ (List.getElem_mem hk)
      refine ⟨few_brn _ _ (hn _ hx) ih.1, brn_keeps (M := fun q => ∀ x ∈ q, x < n) (D := fun i => i < n) ?_ _ _ (hn _ hx) ih.2⟩
      intro q i hi hM x hx
      rcases mem_bst.1 hx with h1 | ⟨rfl, _⟩
      · exact hM x h1
      · exact hi
theorem few_len {J : Nat → Bool} {v q : List Nat} {n : Nat} (h : Few J v n q) : q.length ≤ n := by unfold Few at h; omega
theorem few_one {J : Nat → Bool} {v : List Nat} {n i : Nat} (hi : i < n) (ho : opn J v [] i = true) : Few J v n [i] := by
  have h := few_bst (J := J) (v := v) (q := []) (n := n) (i := i) (by unfold Few; have := cntp_le (opn J v []) n; simpa using this) hi
  unfold bst at h
  rw [ho] at h
  exact h
/-- The search has come to its end when its next cell is none: no further round turns it. -/
theorem brs_end {J : Nat → Bool} {near : Nat → List Nat} {v q : List Nat} {k n : Nat} (h : (brs J near v q k).length ≤ k) (hk : k ≤ n) : brs J near v q k = brs J near v q n := (brs_stop J near v q k h n hk).symm
theorem brs_le {J : Nat → Bool} {near : Nat → List Nat} {v q : List Nat} {x : Nat} (h : x ∈ q) : ∀ k, x ∈ brs J near v q k := by
  intro k
  induction k with
  | zero => exact h
  | succ k ih =>
    rcases brs_succ_or J near v q k with ⟨hz, e⟩ | ⟨hk, e⟩
    · rw [e]; exact ih
    · rw [e]; exact mem_brn_le _ _ ih
/-- Whatever is found joins and was in no group. -/
theorem brs_joins {J : Nat → Bool} {near : Nat → List Nat} {v q : List Nat} (h : ∀ x ∈ q, J x = true ∧ x ∉ v) : ∀ k, ∀ x ∈ brs J near v q k, J x = true ∧ x ∉ v := by
  intro k
  induction k with
  | zero => exact h
  | succ k ih =>
    rcases brs_succ_or J near v q k with ⟨hz, e⟩ | ⟨hk, e⟩
    · rw [e]; exact ih
    · rw [e]
      refine brn_keeps (M := fun q => ∀ x ∈ q, J x = true ∧ x ∉ v) (D := fun _ => True) ?_ _ _ (fun _ _ => trivial) ih
      intro q i _ hM x hx
      rcases mem_bst.1 hx with h1 | ⟨rfl, h1⟩
      · exact hM x h1
      · exact ⟨(opn_iff.1 h1).1, (opn_iff.1 h1).2.1⟩
theorem brs_nodup {J : Nat → Bool} {near : Nat → List Nat} {v q : List Nat} (h : q.Nodup) : ∀ k, (brs J near v q k).Nodup := by
  intro k
  induction k with
  | zero => exact h
  | succ k ih =>
    rcases brs_succ_or J near v q k with ⟨hz, e⟩ | ⟨hk, e⟩
    · rw [e]; exact ih
    · rw [e]
      refine brn_keeps (M := List.Nodup) (D := fun _ => True) ?_ _ _ (fun _ _ => trivial) ih
      intro q i _ hM
      unfold bst
      split
      · rename_i ho
        rw [List.nodup_append]
        refine ⟨hM, by simp, ?_⟩
        intro a ha b hb e
        rw [List.mem_singleton] at hb
        subst hb; subst e
        exact (opn_iff.1 ho).2.2 ha
      · exact hM
/-- It stays in what is closed. -/
theorem brs_inside {J : Nat → Bool} {near : Nat → List Nat} {v q : List Nat} {S : Nat → Prop} (hS : ∀ x, S x → ∀ y ∈ near x, J y = true → y ∉ v → S y) (h : ∀ x ∈ q, S x) : ∀ k, ∀ x ∈ brs J near v q k, S x := by
  intro k
  induction k with
  | zero => exact h
  | succ k ih =>
    rcases brs_succ_or J near v q k with ⟨hz, e⟩ | ⟨hk, e⟩
    · rw [e]; exact ih
    · rw [e]
      have hx := ih _ (List.getElem_mem hk)
      refine brn_keeps (M := fun q => ∀ x ∈ q, S x) (D := fun y => y ∈ near (brs J near v q k)[k]) ?_ _ _ (fun _ h => h) ih
      intro q i hi hM x hx'
      rcases mem_bst.1 hx' with h1 | ⟨rfl, h1⟩
      · exact hM x h1
      · exact hS _ hx x hi (opn_iff.1 h1).1 (opn_iff.1 h1).2.1
theorem brs_prefix (J : Nat → Bool) (near : Nat → List Nat) (v q : List Nat) (k : Nat) : brs J near v q k <+: brs J near v q (k + 1) := by
  rcases brs_succ_or J near v q k with ⟨hz, e⟩ | ⟨hk, e⟩
  · rw [e]; exact List.prefix_refl _
  · rw [e]; exact brn_prefix _ _
theorem brs_done {J : Nat → Bool} {near : Nat → List Nat} {v q : List Nat} : ∀ k m, m < k → ∀ hm : m < (brs J near v q k).length, ∀ y ∈ near (brs J near v q k)[m], J y = true → y ∉ v → y ∈ brs J near v q k := by
  intro k
  induction k with
  | zero => intro m hm; omega
  | succ k ih =>
    intro m hmk hm y hy hJ hv
    have hp := brs_prefix J near v q k
    rcases brs_succ_or J near v q k with ⟨hz, e⟩ | ⟨hk, e⟩
    · rcases Nat.lt_or_ge m k with h1 | h1
      · have hm' : m < (brs J near v q k).length := by rw [← e]; exact hm
        have e2 : (brs J near v q (k + 1))[m] = (brs J near v q k)[m] := by simp [e]
        rw [e2] at hy
        rw [e]
        exact ih m h1 hm' y hy hJ hv
      · have : m < (brs J near v q k).length := by rw [← e]; exact hm
        omega
    · rcases Nat.lt_or_ge m k with h1 | h1
      · have hm' : m < (brs J near v q k).length := by omega
        have e2 : (brs J near v q (k + 1))[m] = (brs J near v q k)[m] := (List.IsPrefix.getElem hp hm').symm
        rw [e2] at hy
        have := ih m h1 hm' y hy hJ hv
        rw [e]
        exact mem_brn_le _ _ this
      · have e3 : m = k := by omega
        subst e3
        have e2 : (brs J near v q (m + 1))[m] = (brs J near v q m)[m] := (List.IsPrefix.getElem hp hk).symm
        rw [e2] at hy
        rw [e]
        exact mem_brn_open hJ hv _ _ hy
/-- Behind the whole search: a neighbour that joins has been found too, or is in a group. -/
theorem brs_closed {J : Nat → Bool} {near : Nat → List Nat} {v q : List Nat} {n : Nat} (hl : (brs J near v q n).length ≤ n) : ∀ x ∈ brs J near v q n, ∀ y ∈ near x, J y = true → y ∉ v → y ∈ brs J near v q n := by
  intro x hx y hy hJ hv
  obtain ⟨m, hm, rfl⟩ := List.getElem_of_mem hx
  exact brs_done n m (by omega) hm y hy hJ hv
/-! ### the groups -/
def grp (J : Nat → Bool) (near : Nat → List Nat) (n : Nat) (G : List (List Nat)) (i : Nat) : List Nat := brs J near G.flatten [i] n
def gst (J : Nat → Bool) (near : Nat → List Nat) (n : Nat) (G : List (List Nat)) (i : Nat) : List (List Nat) := if opn J G.flatten [] i then G ++ [grp J near n G i] else G
def gat (J : Nat → Bool) (near : Nat → List Nat) (n : Nat) : Nat → List (List Nat)
  | 0 => []
  | k + 1 => gst J near n (gat J near n k) k
/-- The number of the group of a cell, or -1. -/
def num : List (List Nat) → Nat → Nat → Int
  | [], _, _ => -1
  | g :: G, c, j => if g.contains j then (c : Int) else num G (c + 1) j
theorem num_neg {j : Nat} : ∀ (G : List (List Nat)) (c : Nat), num G c j < 0 ↔ j ∉ G.flatten
  | [], c => by simp [num]
  | g :: G, c => by
    unfold num
    have ih := num_neg (j := j) G (c + 1)
    by_cases h : j ∈ g
    · simp [h]
    · simp only [List.contains_iff_mem, h, if_false, List.flatten_cons, List.mem_append, false_or]
      exact ih
theorem num_ge {j : Nat} : ∀ (G : List (List Nat)) (c : Nat), -1 ≤ num G c j ∧ num G c j < c + G.length
  | [], c => by constructor <;> (simp [num]; try omega)
  | g :: G, c => by
    unfold num
    have ih := num_ge (j := j) G (c + 1)
    rw [List.length_cons]
    split
    · constructor <;> omega
    · constructor <;> omega
theorem num_lone {j : Nat} (G : List (List Nat)) (c : Nat) (h : num G c j < 0) : num G c j = -1 := by have := (num_ge (j := j) G c).1; omega
theorem num_snoc {j : Nat} (q : List Nat) : ∀ (G : List (List Nat)) (c : Nat), num (G ++ [q]) c j = if j ∈ G.flatten then num G c j else if j ∈ q then ((c + G.length : Nat) : Int) else -1
  | [], c => by simp [num]
  | g :: G, c => by
    have ih := num_snoc (j := j) q G (c + 1)
    show (if g.contains j then (c : Int) else num (G ++ [q]) (c + 1) j) = _
    rw [ih]
    by_cases h : j ∈ g
    · simp [h, num]
    · simp only [List.contains_iff_mem, h, if_false, List.flatten_cons, List.mem_append, false_or, num, List.length_cons]
      rw [show c + 1 + G.length = c + (G.length + 1) by omega]
theorem num_from {j : Nat} : ∀ (G : List (List Nat)) (c : Nat), num G c j = -1 ∨ (c : Int) ≤ num G c j
  | [], c => .inl rfl
  | g :: G, c => by
    unfold num
    split
    · exact .inr (Int.le_refl _)
    · rcases num_from (j := j) G (c + 1) with h | h
      · exact .inl h
      · exact .inr (by omega)
theorem num_mem {j : Nat} : ∀ (G : List (List Nat)) (c k : Nat), num G c j = ((c + k : Nat) : Int) → ∃ g, G[k]? = some g ∧ j ∈ g
  | [], c, k, h => by simp [num] at h; omega
  | g :: G, c, k, h => by
    unfold num at h
    split at h
    · rename_i hg
      have : k = 0 := by omega
      subst this
      exact ⟨g, rfl, by simpa using hg⟩
    · cases k with
      | zero =>
        have := (num_ge (j := j) G (c + 1))
        rcases Int.lt_or_le (num G (c + 1) j) 0 with h1 | h1
        · omega
        · exfalso
          have h2 := num_from (j := j) G (c + 1)
          omega
      | succ k =>
        obtain ⟨g', h1, h2⟩ := num_mem G (c + 1) k (by rw [h]; omega)
        exact ⟨g', by simpa using h1, h2⟩
end Go.Proofs.Ytlambflmabecfaa
namespace Go.Proofs.Ytlambflmabecfaa
open Go.ChangeShapes Go.WideShapes Go.ChangeAt Go.RowKit Go.Joins Go.Deep
set_option linter.unusedSimpArgs false
set_option linter.unusedVariables false
set_option maxRecDepth 100000
set_option maxHeartbeats 400000
open Go.Maps
theorem keysLaw : Maps.Keyed Try.prog 3 := Maps.int_keyed Try.underlying3
theorem zeroBool (w : World) : (zeroValue 4).run Try.prog w = .ok (.bool false) w := by kernel_rfl
theorem plain_bool_inv {v : Value} {x : Bool} {ps : List MemPlace} (h : plainElem (H := Unit) Try.prog 4 v = some (.lit (.bool x), ps)) : v = .bool x := by
  unfold plainElem at h
  rw [Try.underlying4] at h
  cases v <;> simp at h
  rw [h.1]
def kyAt (i : Nat) : Lit := .int .i64 (i : Int)
theorem kyAt_of {i : Nat} (h : i ≤ 1048576) : keyOf Try.prog 3 (.int .i64 (i : Int)) = some (kyAt i) := Maps.keyOf_int_mk Try.underlying3 (WalkArith.wf_i64 (by omega))
theorem kyAt_key (i : Nat) : WideAt.IsKeyLit (kyAt i) := trivial
theorem kyAt_ne {i j : Nat} (h : j ≠ i) : kyAt j ≠ kyAt i := by
  intro e
  unfold kyAt at e
  injection e with _ e
  omega
/-- Block B is such a map: at most n entries; true just at the numbers of o. -/
def Keys (w : World) (B n : Nat) (o : Nat → Bool) : Prop :=
  ∃ D : DataW Unit, w.ownsMap Try.prog 3 (plainElem Try.prog 4) B n D ∧ ∀ i, i ≤ 1048576 → D.atKey (kyAt i) (.lit (.bool false)) = .lit (.bool (o i))
theorem Keys.lt {w : World} {B n : Nat} {o : Nat → Bool} (h : Keys w B n o) : B < w.heap.size := by
  obtain ⟨D, h, _⟩ := h
  exact h.lt
theorem Keys.congr {w : World} {B n : Nat} {o o' : Nat → Bool} (h : Keys w B n o) (he : ∀ i, i ≤ 1048576 → o i = o' i) : Keys w B n o' := by
  obtain ⟨D, h, ha⟩ := h
  exact ⟨D, h, fun i hi => by rw [ha i hi, he i hi]⟩
theorem Keys.mono {w : World} {B n m : Nat} {o : Nat → Bool} (h : Keys w B n o) (hm : n ≤ m) : Keys w B m o := by
  obtain ⟨D, h, ha⟩ := h
  exact ⟨D, h.mono hm, ha⟩
theorem Keys.kept {w w' : World} {B n : Nat} {o : Nat → Bool} {row : Option Nat} (h : Keys w B n o) (hg : w.grownBy w' row) (hne : some B ≠ row) : Keys w' B n o := by
  obtain ⟨D, h, ha⟩ := h
  exact ⟨D, h.kept hg hne, ha⟩
theorem Keys.below {w w' : World} {B n : Nat} {o : Nat → Bool} (h : Keys w B n o) (hb : Below w.heap.size w w') : Keys w' B n o :=
  h.kept (row := none) ⟨hb.os, hb.tape, hb.output, hb.size, fun i hi _ => hb.block i hi⟩ (by simp)
theorem Keys.alloc {w : World} {B n : Nat} {o : Nat → Bool} (h : Keys w B n o) (x : Obj) : Keys (w.alloc x) B n o := h.kept (World.grownBy_alloc w x none) (by simp)
theorem Keys.setCell {w : World} {B n : Nat} {o : Nat → Bool} (h : Keys w B n o) {a : Addr} (ha : B ≠ a.block) (u : Value) : Keys (w.setCell a u) B n o := by
  obtain ⟨D, h, hd⟩ := h
  exact ⟨D, h.setCell ha u, hd⟩
theorem Keys.row {w : World} {B n : Nat} {o : Nat → Bool} (h : Keys w B n o) {base : Nat} {e : TypeId} {size m : Nat} {v : Value} {xs : List Value} (hr : w.ownsRow base e size v m xs) : some B ≠ v.ownBlock := by
  obtain ⟨D, ⟨es, clock, hb, _⟩, _⟩ := h
  rcases hr.2 with ⟨rfl, _⟩ | ⟨g, cap, cur, rfl, _, hg, _⟩
  · simp [Value.ownBlock]
  · intro e1
    have : B = g := by simpa [Value.ownBlock] using e1
    subst this
    rw [hb] at hg
    cases hg
theorem Keys.whole {w : World} {B n : Nat} {o : Nat → Bool} (h : Keys w B n o) {g : Nat} {t : TypeId} {xs : List Value} (hw : Whole w g t xs) : B ≠ g := by
  obtain ⟨D, ⟨es, clock, hb, _⟩, _⟩ := h
  intro e
  subst e
  unfold Whole at hw
  rw [hb] at hw
  cases hw
theorem Keys.made (w : World) : Keys (w.alloc (.map #[] 0)) w.heap.size 0 (fun _ => false) :=
  ⟨.map [], World.ownsMap_made _ _ _ _, fun _ _ => rfl⟩
theorem Keys.look {w : World} {B n : Nat} {o : Nat → Bool} (h : Keys w B n o) {i : Nat} (hi : i ≤ 1048576) :
    (Instr.lookup 140 (.map (some B)) (.int .i64 (i : Int)) false).run Try.prog w = .ok (.bool (o i)) w := by
  obtain ⟨D, h, ha⟩ := h
  obtain ⟨v, ps, hrun, hv⟩ := h.lookup keysLaw Try.underlying140 (zeroBool w) (plainElem_bool Try.underlying4 false) (kyAt_of hi)
  rw [ha i hi] at hv
  rw [hrun, plain_bool_inv hv]
theorem wpList_look_keys {w : World} {ops : Array Oper} {rest : List Oper} {o : Oper} {a : Act} {Q : Exit → Act → World → Prop} (hg : o.guard = none) (m x : Operand) (hop : o.op = Op.lookup 140 m x false)
    (B n : Nat) (p : Nat → Bool) (hm : a.eval m = .map (some B)) (hk : Keys w B n p) (i : Nat) (hx : a.eval x = .int .i64 (i : Int)) (hi : i ≤ 1048576)
    (hK : wpList Try.prog ops Q rest (a.put o.dst (.bool (p i))) w) : wpList Try.prog ops Q (o :: rest) a w := by
  refine wpList_plain hg fun K' hK' => ?_
  unfold Oper.wp
  simp [execOp, hop, hm, hx, hk.look hi, Result.andThen]
  exact hK' _ _ hK
theorem wpList_del_keys {w : World} {ops : Array Oper} {rest : List Oper} {o : Oper} {a : Act} {Q : Exit → Act → World → Prop} (hg : o.guard = none) (m x : Operand)
    (hop : o.op = Op.call { callee := Callee.builtin Builtin.delete, args := #[m, x], argTypes := #[140, 3] })
    (B n : Nat) (p : Nat → Bool) (hm : a.eval m = .map (some B)) (hk : Keys w B n p) (i : Nat) (hx : a.eval x = .int .i64 (i : Int)) (hi : i ≤ 1048576)
    (hK : ∀ w', Keys w' B n (fun j => p j && !(j == i)) → w.grownBy w' (some B) → wpList Try.prog ops Q rest (a.put o.dst (.tuple #[])) w') : wpList Try.prog ops Q (o :: rest) a w := by
  obtain ⟨D, hown, ha⟩ := hk
  refine wpList_delete_own w hg m x _ _ hop _ keysLaw Try.underlying140 _ B n D hm hown _ _ hx (kyAt_of hi) (fun w' h1 h2 => hK w' ⟨_, h1, fun j hj => ?_⟩ h2.grown)
  by_cases e : j = i
  · subst e
    rw [atKey_del_same]
    simp
  · rw [atKey_del_other (kyAt_ne e), ha j hj]
    simp [e]
theorem wpList_put_keys {w : World} {ops : Array Oper} {rest : List Oper} {o : Oper} {a : Act} {Q : Exit → Act → World → Prop} (hg : o.guard = none) (m x v : Operand) (hop : o.op = Op.mapUpdate 140 m x v)
    (B n : Nat) (p : Nat → Bool) (hm : a.eval m = .map (some B)) (hk : Keys w B n p) (hn : n < maxLen) (i : Nat) (hx : a.eval x = .int .i64 (i : Int)) (hv : a.eval v = .bool true) (hi : i ≤ 1048576)
    (hK : ∀ w', Keys w' B (n + 1) (fun j => p j || j == i) → w.grownBy w' (some B) → wpList Try.prog ops Q rest (a.put o.dst undef) w') : wpList Try.prog ops Q (o :: rest) a w := by
  obtain ⟨D, hown, ha⟩ := hk
  refine wpList_mapUpdate_own w hg m x v _ hop _ _ keysLaw Try.underlying140 _ B n D hm hown hn _ _ _ hx hv (kyAt_of hi) _ _ (plainElem_bool Try.underlying4 true) (fun w' h1 h2 => hK w' ⟨_, h1, fun j hj => ?_⟩ h2)
  by_cases e : j = i
  · subst e
    rw [atKey_put_same hown.isMap (kyAt_key j)]
    simp
  · rw [atKey_put_other (kyAt_ne e), ha j hj]
    simp [e]
end Go.Proofs.Ytlambflmabecfaa
namespace Go.Proofs.Ytlambflmabecfaa
open Go.ChangeShapes Go.WideShapes Go.ChangeAt Go.RowKit Go.Joins Go.Deep
set_option linter.unusedSimpArgs false
set_option linter.unusedVariables false
set_option maxRecDepth 100000
set_option maxHeartbeats 400000
theorem cell_two {w : World} {b o : Nat} {l : List (Int × Int)} (hc : ∀ j u, (flat l)[j]? = some u → w.cell? ⟨b, o + j, none⟩ = some u) {k : Nat} (h : k < l.length) :
    w.cell? ⟨b, o + k * 2, none⟩ = some (.int .i64 l[k].1) ∧ w.cell? ⟨b, o + k * 2 + 1, none⟩ = some (.int .i64 l[k].2) :=
  ⟨hc _ _ (flat_at l k h).1, hc _ _ (flat_at l k h).2⟩
def inB (R C i j : Int) : Bool := decide (0 ≤ i ∧ i < R ∧ 0 ≤ j ∧ j < C)
def hasB (R C : Int) (l : List (Int × Int)) (i j : Int) : Bool := goodB R C l && inB R C i j
theorem inB_iff {R C i j : Int} : inB R C i j = true ↔ 0 ≤ i ∧ i < R ∧ 0 ≤ j ∧ j < C := by unfold inB; simp
def atI (C i j : Int) : Nat := (i * C + j).toNat
theorem at_bound {R C : Int} {l : List (Int × Int)} {i j : Int} (hg : goodB R C l = true) (hi : inB R C i j = true) :
    (0 ≤ i * C ∧ i * C ≤ 90) ∧ i * C + j = (atI C i j : Int) ∧ atI C i j < l.length ∧ l.length ≤ 90 := by
  obtain ⟨hs, hl, _⟩ := goodB_iff.1 hg
  obtain ⟨a, b, c, d⟩ := inB_iff.1 hi
  have hm := mul_bound hs
  obtain ⟨s1, s2, s3, s4⟩ := sizeB_iff.1 hs
  have h1 : i * C ≤ (R - 1) * C := Int.mul_le_mul_of_nonneg_right (by omega) (by omega)
  have h2 : (R - 1) * C = R * C - C := by rw [Int.sub_mul, Int.one_mul]
  have h3 : 0 ≤ i * C := Int.mul_nonneg a (by omega)
  unfold atI
  omega
theorem wrap_at {R C : Int} {l : List (Int × Int)} {i j : Int} (hg : goodB R C l = true) (hi : inB R C i j = true) :
    IntKind.i64.wrap (i * C) = i * C ∧ IntKind.i64.wrap (i * C + j) = (atI C i j : Int) := by
  obtain ⟨h1, h2, h3, h4⟩ := at_bound hg hi
  refine ⟨IntWalk.i64_in (i * C) (by omega), ?_⟩
  rw [IntWalk.i64_in (i * C + j) (by omega), h2]
theorem spec_boAt (R C : Int) (A : Option Addr) (cap : Nat) (l : List (Int × Int)) (i j : Int) (w : World) (hg : goodB R C l = true) (hi : inB R C i j = true) (hr : Rd w w.heap.size A (flat l)) :
    Calls Try.prog 87 #[.agg #[.int .i64 R, .int .i64 C, .slice A l.length cap], .int .i64 i, .int .i64 j] w fun e w' => e = .returned (.agg #[.int .i64 (l.getD (atI C i j) (0, 0)).1, .int .i64 (l.getD (atI C i j) (0, 0)).2]) ∧ Below w.heap.size w w' := by
  obtain ⟨_, _, hlt, h90⟩ := at_bound hg hi
  obtain ⟨m1, m2⟩ := wrap_at hg hi
  have e : l.getD (atI C i j) (0, 0) = l[atI C i j] := by rw [List.getD_eq_getElem?_getD, List.getElem?_eq_getElem hlt]; rfl
  rw [e]
  obtain ⟨b, o, rfl, hbl, hc⟩ := hr (by rw [flat_length]; omega)
  obtain ⟨hc0, hc1⟩ := cell_two hc hlt
  clear e hr hc hg hi
  generalize l[atI C i j].1 = x at *
  generalize l[atI C i j].2 = y at *
  generalize atI C i j = n at *
  go_enter Try.func87, Try.ntmps87
  go_wp2
  refine bodyPost_ret (v := .agg #[.int .i64 x, .int .i64 y]) ?_ rfl ?_; (focus (simp [results, Try.results87, go_sem, *]; done))
  exact ⟨rfl, by (repeat' (first | (with_reducible exact Below.refl _ _) | (with_reducible assumption) | (with_reducible refine Below.alloc ?_ ?_ _) | (with_reducible refine Below.setCell ?_ ?_ _) | (with_reducible refine Below.drew ?_) | (with_reducible refine below_drewN ?_ _) | (with_reducible refine Below.trans ?_ (Below.mono (by assumption) ?_)) | (with_reducible exact Nat.le_refl _) | (simp; done) | omega | (simp at *; omega)))⟩
def cellK (R C : Int) (l : List (Int × Int)) (i j : Int) : Int := selI (hasB R C l i j) (l.getD (atI C i j) (0, 0)).1
def cellS (R C : Int) (l : List (Int × Int)) (i j : Int) : Int := selI (hasB R C l i j) (l.getD (atI C i j) (0, 0)).2
theorem hasB_and {R C : Int} {l : List (Int × Int)} {i j : Int} (h : hasB R C l i j = true) : goodB R C l = true ∧ inB R C i j = true := by
  unfold hasB at h; simpa using h
end Go.Proofs.Ytlambflmabecfaa
