/- Contracts of the program and of the model, walked, part 2 of 5. No condition but what each says. -/
import Derived.Test.YtpfjbecpfdgnpabDoorM1
import Derived.Deep.Cut
import Derived.Maps.OwnSet
import Derived.Deep.RegionHeld3
import Derived.Deep.AppendLies
import Derived.Lib.BufferMore
import Derived.Deep.DeepCutAuto
import Derived.Deep.RegionLaw
import Derived.BigQuiet
import Derived.Maps.AppendAt
import Derived.Sort.OwnSortedInts
import Derived.Test.YtpfjbecpfdgnpabDoorShelf
import Derived.Laws.CopyOwn
namespace Go.Proofs.YtpfjbecpfdgnpabDoor
open Go.ChangeShapes Go.WideShapes Go.ChangeAt Go.RowKit Go.Joins Go.Deep
set_option linter.unusedSimpArgs false
set_option linter.unusedVariables false
set_option maxRecDepth 100000
set_option maxHeartbeats 2000000
/-- Eight cells stored one after the other. -/
def mset (w : World) (g : Nat) (a0 a1 a2 a3 a4 a5 a6 a7 : Value) : World :=
  (((((((w.setCell ⟨g, 0, none⟩ a0).setCell ⟨g, 1, none⟩ a1).setCell ⟨g, 2, none⟩ a2).setCell ⟨g, 3, none⟩ a3).setCell ⟨g, 4, none⟩ a4).setCell ⟨g, 5, none⟩ a5).setCell ⟨g, 6, none⟩ a6).setCell ⟨g, 7, none⟩ a7
theorem mset_fold (w : World) (g : Nat) (a0 a1 a2 a3 a4 a5 a6 a7 : Value) : (((((((w.setCell ⟨g, 0, none⟩ a0).setCell ⟨g, 1, none⟩ a1).setCell ⟨g, 2, none⟩ a2).setCell ⟨g, 3, none⟩ a3).setCell ⟨g, 4, none⟩ a4).setCell ⟨g, 5, none⟩ a5).setCell ⟨g, 6, none⟩ a6).setCell ⟨g, 7, none⟩ a7 = mset w g a0 a1 a2 a3 a4 a5 a6 a7 := rfl
theorem Whole.mset {w : World} {g : Nat} {t : TypeId} {b0 b1 b2 b3 b4 b5 b6 b7 : Value} (h : Whole w g t [b0, b1, b2, b3, b4, b5, b6, b7]) (a0 a1 a2 a3 a4 a5 a6 a7 : Value) : Whole (mset w g a0 a1 a2 a3 a4 a5 a6 a7) g t [a0, a1, a2, a3, a4, a5, a6, a7] :=
  (((((((h.set 0 a0).set 1 a1).set 2 a2).set 3 a3).set 4 a4).set 5 a5).set 6 a6).set 7 a7
theorem Whole.mset_far {w : World} {k g : Nat} {t : TypeId} {xs : List Value} (h : Whole w k t xs) (hne : g ≠ k) {a0 a1 a2 a3 a4 a5 a6 a7 : Value} : Whole (Proofs.YtpfjbecpfdgnpabDoor.mset w g a0 a1 a2 a3 a4 a5 a6 a7) k t xs :=
  (((((((h.set_far _ _ hne).set_far _ _ hne).set_far _ _ hne).set_far _ _ hne).set_far _ _ hne).set_far _ _ hne).set_far _ _ hne).set_far _ _ hne
theorem below_mset {B : Nat} {w v : World} {g : Nat} (h : Below B w v) (hB : B ≤ g) {a0 a1 a2 a3 a4 a5 a6 a7 : Value} : Below B w (mset v g a0 a1 a2 a3 a4 a5 a6 a7) :=
  (((((((h.setCell (p := ⟨g, 0, none⟩) hB _).setCell (p := ⟨g, 1, none⟩) hB _).setCell (p := ⟨g, 2, none⟩) hB _).setCell (p := ⟨g, 3, none⟩) hB _).setCell (p := ⟨g, 4, none⟩) hB _).setCell (p := ⟨g, 5, none⟩) hB _).setCell (p := ⟨g, 6, none⟩) hB _).setCell (p := ⟨g, 7, none⟩) hB _
theorem size_mset (w : World) (g : Nat) (a0 a1 a2 a3 a4 a5 a6 a7 : Value) : (mset w g a0 a1 a2 a3 a4 a5 a6 a7).heap.size = w.heap.size := by
  unfold mset
  simp only [World.size_setCell]
theorem mset_only {w : World} {g : Nat} {a0 a1 a2 a3 a4 a5 a6 a7 : Value} {k : Nat} (h : k ≠ g) : (mset w g a0 a1 a2 a3 a4 a5 a6 a7).heap[k]? = w.heap[k]? := by
  unfold mset
  rw [Below.heap_setCell _ _ _ _ h, Below.heap_setCell _ _ _ _ h, Below.heap_setCell _ _ _ _ h, Below.heap_setCell _ _ _ _ h, Below.heap_setCell _ _ _ _ h, Below.heap_setCell _ _ _ _ h, Below.heap_setCell _ _ _ _ h, Below.heap_setCell _ _ _ _ h]
theorem gb_one (v : World) (g j : Nat) (u : Value) : v.grownBy (v.setCell ⟨g, j, none⟩ u) (some g) := ⟨rfl, rfl, rfl, by rw [World.size_setCell]; exact Nat.le_refl _, fun k _ hk => Below.heap_setCell _ _ _ _ (fun e => hk (by rw [e]))⟩
theorem gb_and {w v v' : World} {row : Option Nat} (h : w.grownBy v row) (hg : v.grownBy v' row) : w.grownBy v' row :=
  ⟨hg.os.trans h.os, hg.tape.trans h.tape, hg.output.trans h.output, Nat.le_trans h.size hg.size, fun k hk hne => (hg.block k (Nat.lt_of_lt_of_le hk h.size) hne).trans (h.block k hk hne)⟩
theorem grown_mset (w : World) (g : Nat) (a0 a1 a2 a3 a4 a5 a6 a7 : Value) : w.grownBy (mset w g a0 a1 a2 a3 a4 a5 a6 a7) (some g) :=
  gb_and (gb_and (gb_and (gb_and (gb_and (gb_and (gb_and (gb_one w g 0 a0) (gb_one _ g 1 a1)) (gb_one _ g 2 a2)) (gb_one _ g 3 a3)) (gb_one _ g 4 a4)) (gb_one _ g 5 a5)) (gb_one _ g 6 a6)) (gb_one _ g 7 a7)
theorem own_mset {w : World} {g : Nat} {A : Option Addr} {t t' : TypeId} {xs ys : List Value} (h : Own w A t xs) (hw : Whole w g t' ys) (hne : t ≠ t') {a0 a1 a2 a3 a4 a5 a6 a7 : Value} : Own (mset w g a0 a1 a2 a3 a4 a5 a6 a7) A t xs := fun hx => by
  obtain ⟨k, rest, rfl, hk⟩ := h hx
  exact ⟨k, rest, rfl, (mset_only (own_apart h hw hne hx rfl)).trans hk⟩
theorem row_mset {w : World} {base g size n : Nat} {e : TypeId} {v : Value} {xs : List Value} (h : w.ownsRow base e size v n xs) (hne : some g ≠ v.ownBlock) {a0 a1 a2 a3 a4 a5 a6 a7 : Value} : (mset w g a0 a1 a2 a3 a4 a5 a6 a7).ownsRow base e size v n xs := by
  refine ⟨h.1, ?_⟩
  rcases h.2 with h2 | ⟨k, cap, cur, rfl, h2, hh, h3⟩
  · exact .inl h2
  · exact .inr ⟨k, cap, cur, rfl, h2, (mset_only (fun e' => hne (by rw [← e']; rfl))).trans hh, h3⟩
theorem szMachine_any (R C : Int) (A : Option Addr) (n cap : Nat) (p q bl rd nx : Int) (left : Int) (w : World) (hn : n ≤ maxLen) (h0 : 0 ≤ left) (h1 : left ≤ 1048576) :
    Calls Tryd.prog 4 #[.agg #[.int .i64 R, .int .i64 C, .slice A n cap, .int .i64 p, .int .i64 q, .int .i64 bl, .int .i64 rd, .int .i64 nx], .int .i64 left] w fun e w' => e = .returned (.int .i64 (if left < n then -1 else left - n)) ∧ Below w.heap.size w w' := by
  by_cases hl : left < n
  · go_enter Tryd.func4, Tryd.ntmps4
    go_wp2_with fail
    refine (szBoard_any _ _ _ _ _ _ _ hn h0 h1).mono ?_; rintro e w1 ⟨rfl, b1⟩
    rw [if_pos hl]
    have HL := Lib.hid hl
    clear hl
    go_wp2
    go_returns
    exact ⟨ret_int (by first | rfl | exact (if_pos HL.out).symm), by (repeat' (first | (with_reducible exact Below.refl _ _) | (with_reducible assumption) | (with_reducible refine Below.alloc ?_ ?_ _) | (with_reducible refine Below.setCell ?_ ?_ _) | (with_reducible refine Below.drew ?_) | (with_reducible refine below_drewN ?_ _) | (with_reducible refine Below.trans ?_ (Below.mono (by assumption) ?_)) | (with_reducible exact Nat.le_refl _) | (simp; done) | omega | (simp at *; omega)))⟩
  · go_enter Tryd.func4, Tryd.ntmps4
    go_wp2_with fail
    refine (szBoard_any _ _ _ _ _ _ _ hn h0 h1).mono ?_; rintro e w1 ⟨rfl, b1⟩
    rw [if_neg (by omega)]
    go_wp2
    go_returns
    exact ⟨ret_int (by first | rfl | exact (if_neg (by omega)).symm), by (repeat' (first | (with_reducible exact Below.refl _ _) | (with_reducible assumption) | (with_reducible refine Below.alloc ?_ ?_ _) | (with_reducible refine Below.setCell ?_ ?_ _) | (with_reducible refine Below.drew ?_) | (with_reducible refine below_drewN ?_ _) | (with_reducible refine Below.trans ?_ (Below.mono (by assumption) ?_)) | (with_reducible exact Nat.le_refl _) | (simp; done) | omega | (simp at *; omega)))⟩
theorem toMachine_any (R C : Int) (A : Option Addr) (cap : Nat) (l : List (Int × Int)) (p q bl rd nx : Int) (w : World) (hn : l.length ≤ 1048576) (hr : Rd w w.heap.size A (flat l)) :
    Calls Tryd.prog 6 #[.agg #[.int .i64 R, .int .i64 C, .slice A l.length cap, .int .i64 p, .int .i64 q, .int .i64 bl, .int .i64 rd, .int .i64 nx]] w fun e w' => ∃ g, e = .returned (.agg #[.int .i64 R, .int .i64 C, .slice (some ⟨g, 0, none⟩) l.length l.length, .int .i64 p, .int .i64 q, .int .i64 bl, .int .i64 rd, .int .i64 nx]) ∧ Whole w' g 71 (flat l) ∧ w.heap.size ≤ g ∧ Below w.heap.size w w' := by
  go_enter Tryd.func6, Tryd.ntmps6
  obtain ⟨v0, hv0, X0, X1, X2, B0, hz0⟩ := three_boxes w [.int .i64 R, .int .i64 C, .slice A l.length cap, .int .i64 p, .int .i64 q, .int .i64 bl, .int .i64 rd, .int .i64 nx] 26 [.int .i64 0, .int .i64 0, .slice none 0 0, .int .i64 0, .int .i64 0, .int .i64 0, .int .i64 0, .int .i64 0] 34 [.int .i64 0, .int .i64 0, .slice none 0 0, .int .i64 0, .int .i64 0, .int .i64 0, .int .i64 0, .int .i64 0] 34; have HV := Lib.hid hv0; have hx : w.heap.size + 1 + 1 < v0.heap.size := (by omega); have hz : w.heap.size + 1 < v0.heap.size := (by omega); have hy : w.heap.size < v0.heap.size := (by omega); have hb0 := B0.size; clear hv0 hz0; go_wp2_with fail; rewrite [show ((w.alloc (.cells ([.int .i64 R, .int .i64 C, .slice A l.length cap, .int .i64 p, .int .i64 q, .int .i64 bl, .int .i64 rd, .int .i64 nx] : List Value).toArray 26)).alloc (.cells ([.int .i64 0, .int .i64 0, .slice none 0 0, .int .i64 0, .int .i64 0, .int .i64 0, .int .i64 0, .int .i64 0] : List Value).toArray 34)).alloc (.cells ([.int .i64 0, .int .i64 0, .slice none 0 0, .int .i64 0, .int .i64 0, .int .i64 0, .int .i64 0, .int .i64 0] : List Value).toArray 34) = v0 from HV.out]; clear HV
  have X0k0 : v0.cell? ⟨w.heap.size, 0, none⟩ = some (.int .i64 R) := (X0.cell 0).trans rfl; have X0k1 : v0.cell? ⟨w.heap.size, 1, none⟩ = some (.int .i64 C) := (X0.cell 1).trans rfl; have X0k2 : v0.cell? ⟨w.heap.size, 2, none⟩ = some (.slice A l.length cap) := (X0.cell 2).trans rfl; have X0k3 : v0.cell? ⟨w.heap.size, 3, none⟩ = some (.int .i64 p) := (X0.cell 3).trans rfl; have X0k4 : v0.cell? ⟨w.heap.size, 4, none⟩ = some (.int .i64 q) := (X0.cell 4).trans rfl; have X0k5 : v0.cell? ⟨w.heap.size, 5, none⟩ = some (.int .i64 bl) := (X0.cell 5).trans rfl
  have X0k6 : v0.cell? ⟨w.heap.size, 6, none⟩ = some (.int .i64 rd) := (X0.cell 6).trans rfl; have X0k7 : v0.cell? ⟨w.heap.size, 7, none⟩ = some (.int .i64 nx) := (X0.cell 7).trans rfl
  go_wp2_with fail
  refine (toBoard_any _ _ _ _ l _ hn ((hr.below B0).mono B0.size)).mono ?_; rintro e w1 ⟨g, rfl, t1, n1, b1⟩
  clear X0k0 X0k1 X0k2 X0k3 X0k4 X0k5 X0k6 X0k7
  have hg0 : v0.heap.size ≤ g := n1
  replace X0 := X0.below b1 X0.lt; replace X1 := X1.below b1 X1.lt; replace X2 := X2.below b1 X2.lt; replace B0 := B0.trans (b1.mono B0.size); have hy := X0.lt; have hz := X1.lt; have hx := X2.lt; have hb0 := B0.size; clear b1
  have hg : w.heap.size ≤ g := by omega
  have hne : w.heap.size + 1 ≠ g := by omega
  have hne' := hne.symm
  have hne2 : w.heap.size + 1 + 1 ≠ g := by omega
  have hne2' := hne2.symm
  have b3 : ∀ (u0 u1 u2 : Value), Below w.heap.size w1 (((w1.setCell ⟨w.heap.size + 1 + 1, 0, none⟩ u0).setCell ⟨w.heap.size + 1 + 1, 1, none⟩ u1).setCell ⟨w.heap.size + 1 + 1, 2, none⟩ u2) := fun u0 u1 u2 => by (repeat' (first | (with_reducible exact Below.refl _ _) | (with_reducible assumption) | (with_reducible refine Below.alloc ?_ ?_ _) | (with_reducible refine Below.setCell ?_ ?_ _) | (with_reducible refine Below.drew ?_) | (with_reducible refine below_drewN ?_ _) | (with_reducible refine Below.trans ?_ (Below.mono (by assumption) ?_)) | (with_reducible exact Nat.le_refl _) | (simp; done) | omega | (simp at *; omega)))
  have n20 : w.heap.size + 1 + 1 ≠ w.heap.size := by omega
  have n21 : w.heap.size + 1 + 1 ≠ w.heap.size + 1 := by omega
  have X2k0 : w1.cell? ⟨w.heap.size + 1 + 1, 0, none⟩ = some (.int .i64 0) := (X2.cell 0).trans rfl; have X2k1 : w1.cell? ⟨w.heap.size + 1 + 1, 1, none⟩ = some (.int .i64 0) := (X2.cell 1).trans rfl; have X2k2 : w1.cell? ⟨w.heap.size + 1 + 1, 2, none⟩ = some (.slice none 0 0) := (X2.cell 2).trans rfl
  have Y2f0 := X2.frozen 0
  have Y2f1 := X2.frozen 1
  have Y2f2 := X2.frozen 2
  go_upto_region 3 with (fail)
  obtain ⟨v2, hv2⟩ : ∃ v2, v2 = (((w1.setCell ⟨w.heap.size + 1 + 1, 0, none⟩ (.int .i64 R)).setCell ⟨w.heap.size + 1 + 1, 1, none⟩ (.int .i64 C)).setCell ⟨w.heap.size + 1 + 1, 2, none⟩ (.slice (some ⟨g, 0, none⟩) l.length l.length)) := ⟨_, rfl⟩
  replace X0 : Whole v2 w.heap.size 26 [.int .i64 R, .int .i64 C, .slice A l.length cap, .int .i64 p, .int .i64 q, .int .i64 bl, .int .i64 rd, .int .i64 nx] := by rw [hv2]; exact ((X0.set_far _ _ n20).set_far _ _ n20).set_far _ _ n20
  replace X1 : Whole v2 (w.heap.size + 1) 34 [.int .i64 0, .int .i64 0, .slice none 0 0, .int .i64 0, .int .i64 0, .int .i64 0, .int .i64 0, .int .i64 0] := by rw [hv2]; exact ((X1.set_far _ _ n21).set_far _ _ n21).set_far _ _ n21
  replace X2 : Whole v2 (w.heap.size + 1 + 1) 34 [.int .i64 R, .int .i64 C, .slice (some ⟨g, 0, none⟩) l.length l.length, .int .i64 0, .int .i64 0, .int .i64 0, .int .i64 0, .int .i64 0] := by rw [hv2]; exact ((X2.set 0 (.int .i64 R)).set 1 (.int .i64 C)).set 2 (.slice (some ⟨g, 0, none⟩) l.length l.length)
  replace t1 : Whole v2 g 71 (flat l) := by rw [hv2]; exact ((t1.set_far _ _ hne2).set_far _ _ hne2).set_far _ _ hne2
  replace B0 : Below w.heap.size w v2 := by rw [hv2]; exact B0.trans (b3 _ _ _)
  rewrite [← hv2]
  clear hv2 b3 Y2f0 Y2f1 Y2f2
  clear X2k0 X2k1 X2k2
  have hx := X2.lt
  have hy := X0.lt
  have hz := X1.lt
  have X0k3 : v2.cell? ⟨w.heap.size, 3, none⟩ = some (.int .i64 p) := (X0.cell 3).trans rfl
  have X0k4 : v2.cell? ⟨w.heap.size, 4, none⟩ = some (.int .i64 q) := (X0.cell 4).trans rfl
  have X0k5 : v2.cell? ⟨w.heap.size, 5, none⟩ = some (.int .i64 bl) := (X0.cell 5).trans rfl
  have X0k6 : v2.cell? ⟨w.heap.size, 6, none⟩ = some (.int .i64 rd) := (X0.cell 6).trans rfl
  have X0k7 : v2.cell? ⟨w.heap.size, 7, none⟩ = some (.int .i64 nx) := (X0.cell 7).trans rfl
  have X2k3 : v2.cell? ⟨w.heap.size + 1 + 1, 3, none⟩ = some (.int .i64 0) := (X2.cell 3).trans rfl
  have X2k4 : v2.cell? ⟨w.heap.size + 1 + 1, 4, none⟩ = some (.int .i64 0) := (X2.cell 4).trans rfl
  have X2k5 : v2.cell? ⟨w.heap.size + 1 + 1, 5, none⟩ = some (.int .i64 0) := (X2.cell 5).trans rfl
  have X2k6 : v2.cell? ⟨w.heap.size + 1 + 1, 6, none⟩ = some (.int .i64 0) := (X2.cell 6).trans rfl
  have X2k7 : v2.cell? ⟨w.heap.size + 1 + 1, 7, none⟩ = some (.int .i64 0) := (X2.cell 7).trans rfl
  have X2f3 := X2.frozen 3
  have X2f4 := X2.frozen 4
  have X2f5 := X2.frozen 5
  have X2f6 := X2.frozen 6
  have X2f7 := X2.frozen 7
  have b3 : ∀ (u0 u1 u2 u3 u4 : Value), Below w.heap.size v2 (((((v2.setCell ⟨w.heap.size + 1 + 1, 3, none⟩ u0).setCell ⟨w.heap.size + 1 + 1, 4, none⟩ u1).setCell ⟨w.heap.size + 1 + 1, 5, none⟩ u2).setCell ⟨w.heap.size + 1 + 1, 6, none⟩ u3).setCell ⟨w.heap.size + 1 + 1, 7, none⟩ u4) := fun u0 u1 u2 u3 u4 => by (repeat' (first | (with_reducible exact Below.refl _ _) | (with_reducible assumption) | (with_reducible refine Below.alloc ?_ ?_ _) | (with_reducible refine Below.setCell ?_ ?_ _) | (with_reducible refine Below.drew ?_) | (with_reducible refine below_drewN ?_ _) | (with_reducible refine Below.trans ?_ (Below.mono (by assumption) ?_)) | (with_reducible exact Nat.le_refl _) | (simp; done) | omega | (simp at *; omega)))
  go_upto_region 8 with (fail)
  obtain ⟨v3, hv3⟩ : ∃ v3, v3 = (((((v2.setCell ⟨w.heap.size + 1 + 1, 3, none⟩ (.int .i64 p)).setCell ⟨w.heap.size + 1 + 1, 4, none⟩ (.int .i64 q)).setCell ⟨w.heap.size + 1 + 1, 5, none⟩ (.int .i64 bl)).setCell ⟨w.heap.size + 1 + 1, 6, none⟩ (.int .i64 rd)).setCell ⟨w.heap.size + 1 + 1, 7, none⟩ (.int .i64 nx)) := ⟨_, rfl⟩
  replace X1 : Whole v3 (w.heap.size + 1) 34 [.int .i64 0, .int .i64 0, .slice none 0 0, .int .i64 0, .int .i64 0, .int .i64 0, .int .i64 0, .int .i64 0] := by rw [hv3]; exact ((((X1.set_far _ _ n21).set_far _ _ n21).set_far _ _ n21).set_far _ _ n21).set_far _ _ n21
  replace X2 : Whole v3 (w.heap.size + 1 + 1) 34 [.int .i64 R, .int .i64 C, .slice (some ⟨g, 0, none⟩) l.length l.length, .int .i64 p, .int .i64 q, .int .i64 bl, .int .i64 rd, .int .i64 nx] := by rw [hv3]; exact ((((X2.set 3 (.int .i64 p)).set 4 (.int .i64 q)).set 5 (.int .i64 bl)).set 6 (.int .i64 rd)).set 7 (.int .i64 nx)
  replace t1 : Whole v3 g 71 (flat l) := by rw [hv3]; exact ((((t1.set_far _ _ hne2).set_far _ _ hne2).set_far _ _ hne2).set_far _ _ hne2).set_far _ _ hne2
  replace B0 : Below w.heap.size w v3 := by rw [hv3]; exact B0.trans (b3 _ _ _ _ _)
  rewrite [← hv3]
  clear hv3 b3 X0 X0k3 X0k4 X0k5 X0k6 X0k7 X2f3 X2f4 X2f5 X2f6 X2f7 X2k3 X2k4 X2k5 X2k6 X2k7
  have hx := X2.lt
  have hz := X1.lt
  have X2k0 : v3.cell? ⟨w.heap.size + 1 + 1, 0, none⟩ = some (.int .i64 R) := (X2.cell 0).trans rfl; have X2k1 : v3.cell? ⟨w.heap.size + 1 + 1, 1, none⟩ = some (.int .i64 C) := (X2.cell 1).trans rfl; have X2k2 : v3.cell? ⟨w.heap.size + 1 + 1, 2, none⟩ = some (.slice (some ⟨g, 0, none⟩) l.length l.length) := (X2.cell 2).trans rfl; have X2k3 : v3.cell? ⟨w.heap.size + 1 + 1, 3, none⟩ = some (.int .i64 p) := (X2.cell 3).trans rfl; have X2k4 : v3.cell? ⟨w.heap.size + 1 + 1, 4, none⟩ = some (.int .i64 q) := (X2.cell 4).trans rfl; have X2k5 : v3.cell? ⟨w.heap.size + 1 + 1, 5, none⟩ = some (.int .i64 bl) := (X2.cell 5).trans rfl
  have X2k6 : v3.cell? ⟨w.heap.size + 1 + 1, 6, none⟩ = some (.int .i64 rd) := (X2.cell 6).trans rfl; have X2k7 : v3.cell? ⟨w.heap.size + 1 + 1, 7, none⟩ = some (.int .i64 nx) := (X2.cell 7).trans rfl
  have X1k0 : v3.cell? ⟨w.heap.size + 1, 0, none⟩ = some (.int .i64 0) := (X1.cell 0).trans rfl; have X1k1 : v3.cell? ⟨w.heap.size + 1, 1, none⟩ = some (.int .i64 0) := (X1.cell 1).trans rfl; have X1k2 : v3.cell? ⟨w.heap.size + 1, 2, none⟩ = some (.slice none 0 0) := (X1.cell 2).trans rfl; have X1k3 : v3.cell? ⟨w.heap.size + 1, 3, none⟩ = some (.int .i64 0) := (X1.cell 3).trans rfl; have X1k4 : v3.cell? ⟨w.heap.size + 1, 4, none⟩ = some (.int .i64 0) := (X1.cell 4).trans rfl; have X1k5 : v3.cell? ⟨w.heap.size + 1, 5, none⟩ = some (.int .i64 0) := (X1.cell 5).trans rfl
  have X1k6 : v3.cell? ⟨w.heap.size + 1, 6, none⟩ = some (.int .i64 0) := (X1.cell 6).trans rfl; have X1k7 : v3.cell? ⟨w.heap.size + 1, 7, none⟩ = some (.int .i64 0) := (X1.cell 7).trans rfl
  have X1f0 := X1.frozen 0; have X1f1 := X1.frozen 1; have X1f2 := X1.frozen 2; have X1f3 := X1.frozen 3; have X1f4 := X1.frozen 4; have X1f5 := X1.frozen 5; have X1f6 := X1.frozen 6; have X1f7 := X1.frozen 7
  go_wp2
  rewrite [mset_fold]
  obtain ⟨v4, hv4⟩ : ∃ v4, v4 = mset v3 (w.heap.size + 1) (.int .i64 R) (.int .i64 C) (.slice (some ⟨g, 0, none⟩) l.length l.length) (.int .i64 p) (.int .i64 q) (.int .i64 bl) (.int .i64 rd) (.int .i64 nx) := ⟨_, rfl⟩
  have Z1 : Whole v4 (w.heap.size + 1) 34 [.int .i64 R, .int .i64 C, .slice (some ⟨g, 0, none⟩) l.length l.length, .int .i64 p, .int .i64 q, .int .i64 bl, .int .i64 rd, .int .i64 nx] := by rw [hv4]; exact X1.mset _ _ _ _ _ _ _ _
  replace t1 : Whole v4 g 71 (flat l) := by rw [hv4]; exact t1.mset_far hne
  replace B0 : Below w.heap.size w v4 := by rw [hv4]; exact below_mset B0 (by omega)
  clear X2k0 X2k1 X2k2 X2k3 X2k4 X2k5 X2k6 X2k7
  clear X1k0 X1k1 X1k2 X1k3 X1k4 X1k5 X1k6 X1k7
  clear X1f0 X1f1 X1f2 X1f3 X1f4 X1f5 X1f6 X1f7
  rewrite [← hv4]
  clear hv4
  have Z1k0 : v4.cell? ⟨w.heap.size + 1, 0, none⟩ = some (.int .i64 R) := (Z1.cell 0).trans rfl; have Z1k1 : v4.cell? ⟨w.heap.size + 1, 1, none⟩ = some (.int .i64 C) := (Z1.cell 1).trans rfl; have Z1k2 : v4.cell? ⟨w.heap.size + 1, 2, none⟩ = some (.slice (some ⟨g, 0, none⟩) l.length l.length) := (Z1.cell 2).trans rfl; have Z1k3 : v4.cell? ⟨w.heap.size + 1, 3, none⟩ = some (.int .i64 p) := (Z1.cell 3).trans rfl; have Z1k4 : v4.cell? ⟨w.heap.size + 1, 4, none⟩ = some (.int .i64 q) := (Z1.cell 4).trans rfl; have Z1k5 : v4.cell? ⟨w.heap.size + 1, 5, none⟩ = some (.int .i64 bl) := (Z1.cell 5).trans rfl
  have Z1k6 : v4.cell? ⟨w.heap.size + 1, 6, none⟩ = some (.int .i64 rd) := (Z1.cell 6).trans rfl; have Z1k7 : v4.cell? ⟨w.heap.size + 1, 7, none⟩ = some (.int .i64 nx) := (Z1.cell 7).trans rfl
  refine bodyPost_ret (v := .agg #[.int .i64 R, .int .i64 C, .slice (some ⟨g, 0, none⟩) l.length l.length, .int .i64 p, .int .i64 q, .int .i64 bl, .int .i64 rd, .int .i64 nx]) ?_ rfl ?_; (focus (simp [results, Tryd.results6, go_sem, *]; done))
  exact ⟨g, rfl, t1, hg, B0⟩
theorem eqMachine_same (R C p q bl rd nx : Int) (A A' : Option Addr) (cap cap' : Nat) (l : List (Int × Int)) (w : World) (hn : l.length ≤ 1048576) (hr : Rd w w.heap.size A (flat l)) (hr' : Rd w w.heap.size A' (flat l)) :
    Calls Tryd.prog 8 #[.agg #[.int .i64 R, .int .i64 C, .slice A l.length cap, .int .i64 p, .int .i64 q, .int .i64 bl, .int .i64 rd, .int .i64 nx], .agg #[.int .i64 R, .int .i64 C, .slice A' l.length cap', .int .i64 p, .int .i64 q, .int .i64 bl, .int .i64 rd, .int .i64 nx]] w fun e w' => e = .returned (.bool true) ∧ Below w.heap.size w w' := by
  go_enter Tryd.func8, Tryd.ntmps8
  obtain ⟨v0, hv0, X0, X1, B0, hz0⟩ := two_boxes w [.int .i64 R, .int .i64 C, .slice A l.length cap, .int .i64 p, .int .i64 q, .int .i64 bl, .int .i64 rd, .int .i64 nx] 34 [.int .i64 R, .int .i64 C, .slice A' l.length cap', .int .i64 p, .int .i64 q, .int .i64 bl, .int .i64 rd, .int .i64 nx] 34; have HV := Lib.hid hv0; have hz : w.heap.size + 1 < v0.heap.size := (by omega); have hy : w.heap.size < v0.heap.size := (by omega); have hb0 := B0.size; clear hv0 hz0; go_wp2_with fail; rewrite [show (w.alloc (.cells ([.int .i64 R, .int .i64 C, .slice A l.length cap, .int .i64 p, .int .i64 q, .int .i64 bl, .int .i64 rd, .int .i64 nx] : List Value).toArray 34)).alloc (.cells ([.int .i64 R, .int .i64 C, .slice A' l.length cap', .int .i64 p, .int .i64 q, .int .i64 bl, .int .i64 rd, .int .i64 nx] : List Value).toArray 34) = v0 from HV.out]; clear HV
  have X0k0 : v0.cell? ⟨w.heap.size, 0, none⟩ = some (.int .i64 R) := (X0.cell 0).trans rfl; have X0k1 : v0.cell? ⟨w.heap.size, 1, none⟩ = some (.int .i64 C) := (X0.cell 1).trans rfl; have X0k2 : v0.cell? ⟨w.heap.size, 2, none⟩ = some (.slice A l.length cap) := (X0.cell 2).trans rfl; have X0k3 : v0.cell? ⟨w.heap.size, 3, none⟩ = some (.int .i64 p) := (X0.cell 3).trans rfl; have X0k4 : v0.cell? ⟨w.heap.size, 4, none⟩ = some (.int .i64 q) := (X0.cell 4).trans rfl; have X0k5 : v0.cell? ⟨w.heap.size, 5, none⟩ = some (.int .i64 bl) := (X0.cell 5).trans rfl
  have X0k6 : v0.cell? ⟨w.heap.size, 6, none⟩ = some (.int .i64 rd) := (X0.cell 6).trans rfl; have X0k7 : v0.cell? ⟨w.heap.size, 7, none⟩ = some (.int .i64 nx) := (X0.cell 7).trans rfl
  have X1k0 : v0.cell? ⟨w.heap.size + 1, 0, none⟩ = some (.int .i64 R) := (X1.cell 0).trans rfl; have X1k1 : v0.cell? ⟨w.heap.size + 1, 1, none⟩ = some (.int .i64 C) := (X1.cell 1).trans rfl; have X1k2 : v0.cell? ⟨w.heap.size + 1, 2, none⟩ = some (.slice A' l.length cap') := (X1.cell 2).trans rfl; have X1k3 : v0.cell? ⟨w.heap.size + 1, 3, none⟩ = some (.int .i64 p) := (X1.cell 3).trans rfl; have X1k4 : v0.cell? ⟨w.heap.size + 1, 4, none⟩ = some (.int .i64 q) := (X1.cell 4).trans rfl; have X1k5 : v0.cell? ⟨w.heap.size + 1, 5, none⟩ = some (.int .i64 bl) := (X1.cell 5).trans rfl
  have X1k6 : v0.cell? ⟨w.heap.size + 1, 6, none⟩ = some (.int .i64 rd) := (X1.cell 6).trans rfl; have X1k7 : v0.cell? ⟨w.heap.size + 1, 7, none⟩ = some (.int .i64 nx) := (X1.cell 7).trans rfl
  go_wp2_with fail
  refine (eqBoard_any _ _ _ _ _ _ _ _ l l _ hn hn ((hr.below B0).mono B0.size) ((hr'.below B0).mono B0.size)).mono ?_; rintro e w1 ⟨rfl, b1⟩
  rw [eqB_same]
  clear X0k0 X0k1 X0k2 X0k3 X0k4 X0k5 X0k6 X0k7
  clear X1k0 X1k1 X1k2 X1k3 X1k4 X1k5 X1k6 X1k7
  replace X0 := X0.below b1 X0.lt; replace X1 := X1.below b1 X1.lt; replace B0 := B0.trans (b1.mono B0.size); have hy := X0.lt; have hz := X1.lt; have hb0 := B0.size; clear b1
  have X0k0 : w1.cell? ⟨w.heap.size, 0, none⟩ = some (.int .i64 R) := (X0.cell 0).trans rfl; have X0k1 : w1.cell? ⟨w.heap.size, 1, none⟩ = some (.int .i64 C) := (X0.cell 1).trans rfl; have X0k2 : w1.cell? ⟨w.heap.size, 2, none⟩ = some (.slice A l.length cap) := (X0.cell 2).trans rfl; have X0k3 : w1.cell? ⟨w.heap.size, 3, none⟩ = some (.int .i64 p) := (X0.cell 3).trans rfl; have X0k4 : w1.cell? ⟨w.heap.size, 4, none⟩ = some (.int .i64 q) := (X0.cell 4).trans rfl; have X0k5 : w1.cell? ⟨w.heap.size, 5, none⟩ = some (.int .i64 bl) := (X0.cell 5).trans rfl
  have X0k6 : w1.cell? ⟨w.heap.size, 6, none⟩ = some (.int .i64 rd) := (X0.cell 6).trans rfl; have X0k7 : w1.cell? ⟨w.heap.size, 7, none⟩ = some (.int .i64 nx) := (X0.cell 7).trans rfl
  have X1k0 : w1.cell? ⟨w.heap.size + 1, 0, none⟩ = some (.int .i64 R) := (X1.cell 0).trans rfl; have X1k1 : w1.cell? ⟨w.heap.size + 1, 1, none⟩ = some (.int .i64 C) := (X1.cell 1).trans rfl; have X1k2 : w1.cell? ⟨w.heap.size + 1, 2, none⟩ = some (.slice A' l.length cap') := (X1.cell 2).trans rfl; have X1k3 : w1.cell? ⟨w.heap.size + 1, 3, none⟩ = some (.int .i64 p) := (X1.cell 3).trans rfl; have X1k4 : w1.cell? ⟨w.heap.size + 1, 4, none⟩ = some (.int .i64 q) := (X1.cell 4).trans rfl; have X1k5 : w1.cell? ⟨w.heap.size + 1, 5, none⟩ = some (.int .i64 bl) := (X1.cell 5).trans rfl
  have X1k6 : w1.cell? ⟨w.heap.size + 1, 6, none⟩ = some (.int .i64 rd) := (X1.cell 6).trans rfl; have X1k7 : w1.cell? ⟨w.heap.size + 1, 7, none⟩ = some (.int .i64 nx) := (X1.cell 7).trans rfl
  go_wp2
  go_returns
  exact ⟨rfl, by (repeat' (first | (with_reducible exact Below.refl _ _) | (with_reducible assumption) | (with_reducible refine Below.alloc ?_ ?_ _) | (with_reducible refine Below.setCell ?_ ?_ _) | (with_reducible refine Below.drew ?_) | (with_reducible refine below_drewN ?_ _) | (with_reducible refine Below.trans ?_ (Below.mono (by assumption) ?_)) | (with_reducible exact Nat.le_refl _) | (simp; done) | omega | (simp at *; omega)))⟩
theorem array8 {α : Type} {cs : Array α} (h : cs.size = 8) : ∃ c0 c1 c2 c3 c4 c5 c6 c7, cs = #[c0, c1, c2, c3, c4, c5, c6, c7] := by
  obtain ⟨l⟩ := cs
  match l, h with
  | [c0, c1, c2, c3, c4, c5, c6, c7], _ => exact ⟨c0, c1, c2, c3, c4, c5, c6, c7, rfl⟩
set_option maxRecDepth 100000 in
theorem open_board_f {H : Type} {enc : TypeId × Value → H} {W : World} {cs : List Value} {x : DataW H × List MemPlace} {fuel : Nat}
    (hf : DataW.trod enc Tryd.prog W 0 (fun _ => true) true fuel 24 cs = some x) :
    ∃ (R C : Int) (A : Option Addr) (cap : Nat) (l : List (Int × Int)), cs = [.int .i64 R, .int .i64 C, .slice A l.length cap] ∧ l.length ≤ maxLen ∧ Rd W W.heap.size A (flat l) := by
  obtain ⟨y0, y1, y2, n, -, hl, h0, h1, h2⟩ := Go.Deep.trod_struct3 Tryd.underlying24 hf
  rw [show Tryd.prog.cellsOf 24 = 3 by kernel_rfl] at hl
  rw [show Tryd.prog.cellsOf 3 = 1 by kernel_rfl] at h0 h1
  rw [show Tryd.prog.cellsOf 22 = 1 by kernel_rfl] at h2
  match cs, hl with
  | [c0, c1, c2], _ =>
    obtain ⟨a, e0, _, _⟩ := DataW.trod_int Tryd.underlying3 h0
    obtain ⟨b, e1, _, _⟩ := DataW.trod_int Tryd.underlying3 h1
    obtain ⟨A, cap, l, e2, hm, hr⟩ := open_cells_f (v := c2) h2
    have f0 : c0 = .int .i64 a := List.head_eq_of_cons_eq e0
    have f1 : c1 = .int .i64 b := List.head_eq_of_cons_eq e1
    exact ⟨a, b, A, cap, l, by rw [f0, f1, e2], hm, hr⟩
set_option maxRecDepth 100000 in
theorem open_machine {H : Type} {enc : TypeId × Value → H} {W : World} {r : Reach} {b0 : Nat} {v : Value} {d : DataW H} {ps : List MemPlace}
    (hv : Value.okWide Tryd.prog W r b0 26 v) (h : DataW.Trod enc Tryd.prog W 0 (fun _ => true) true 26 v d ps) :
    ∃ (R C : Int) (A : Option Addr) (cap : Nat) (l : List (Int × Int)) (p q bl rd nx : Int), v = .agg #[.int .i64 R, .int .i64 C, .slice A l.length cap, .int .i64 p, .int .i64 q, .int .i64 bl, .int .i64 rd, .int .i64 nx] ∧ l.length ≤ maxLen ∧ Rd W W.heap.size A (flat l) := by
  obtain ⟨cs, rfl, hsz⟩ := okWide_struct Tryd.underlying26 hv
  obtain ⟨c0, c1, c2, c3, c4, c5, c6, c7, rfl⟩ := array8 (hsz.trans (by kernel_rfl))
  obtain ⟨fuel, hf⟩ := h
  obtain ⟨xs, n, -, -, -, hlen, hF⟩ := DataW.trod_struct Tryd.underlying26 hf
  have k1 : Tryd.prog.cellsOf 3 = 1 := by kernel_rfl
  have k3 : Tryd.prog.cellsOf 24 = 3 := by kernel_rfl
  obtain ⟨x0, x1, x2, x3, x4, x5, rfl⟩ : ∃ x0 x1 x2 x3 x4 x5, xs = [x0, x1, x2, x3, x4, x5] := by
    match xs, hlen with
    | [x0, x1, x2, x3, x4, x5], _ => exact ⟨x0, x1, x2, x3, x4, x5, rfl⟩
  have h0 : DataW.trod enc Tryd.prog W 0 (fun _ => true) true n 24 (List.take (Tryd.prog.cellsOf 24) (List.drop 0 [c0, c1, c2, c3, c4, c5, c6, c7])) = some x0 := hF 0 _ rfl
  have h1 : DataW.trod enc Tryd.prog W 0 (fun _ => true) true n 3 (List.take (Tryd.prog.cellsOf 3) (List.drop 3 [c0, c1, c2, c3, c4, c5, c6, c7])) = some x1 := hF 1 _ rfl
  have h2 : DataW.trod enc Tryd.prog W 0 (fun _ => true) true n 3 (List.take (Tryd.prog.cellsOf 3) (List.drop 4 [c0, c1, c2, c3, c4, c5, c6, c7])) = some x2 := hF 2 _ rfl
  have h3 : DataW.trod enc Tryd.prog W 0 (fun _ => true) true n 3 (List.take (Tryd.prog.cellsOf 3) (List.drop 5 [c0, c1, c2, c3, c4, c5, c6, c7])) = some x3 := hF 3 _ rfl
  have h4 : DataW.trod enc Tryd.prog W 0 (fun _ => true) true n 3 (List.take (Tryd.prog.cellsOf 3) (List.drop 6 [c0, c1, c2, c3, c4, c5, c6, c7])) = some x4 := hF 4 _ rfl
  have h5 : DataW.trod enc Tryd.prog W 0 (fun _ => true) true n 3 (List.take (Tryd.prog.cellsOf 3) (List.drop 7 [c0, c1, c2, c3, c4, c5, c6, c7])) = some x5 := hF 5 _ rfl
  rw [k3] at h0
  rw [k1] at h1 h2 h3 h4 h5
  obtain ⟨R, C, A, cap, l, e0, hm, hr⟩ := open_board_f (cs := [c0, c1, c2]) h0
  obtain ⟨a1, e1, _, _⟩ := DataW.trod_int (cs := [c3]) Tryd.underlying3 h1
  obtain ⟨a2, e2, _, _⟩ := DataW.trod_int (cs := [c4]) Tryd.underlying3 h2
  obtain ⟨a3, e3, _, _⟩ := DataW.trod_int (cs := [c5]) Tryd.underlying3 h3
  obtain ⟨a4, e4, _, _⟩ := DataW.trod_int (cs := [c6]) Tryd.underlying3 h4
  obtain ⟨a5, e5, _, _⟩ := DataW.trod_int (cs := [c7]) Tryd.underlying3 h5
  injection e0 with f0 e0
  injection e0 with f1 e0
  injection e0 with f2 e0
  have g1 : c3 = .int .i64 a1 := List.head_eq_of_cons_eq e1
  have g2 : c4 = .int .i64 a2 := List.head_eq_of_cons_eq e2
  have g3 : c5 = .int .i64 a3 := List.head_eq_of_cons_eq e3
  have g4 : c6 = .int .i64 a4 := List.head_eq_of_cons_eq e4
  have g5 : c7 = .int .i64 a5 := List.head_eq_of_cons_eq e5
  exact ⟨R, C, A, cap, l, a1, a2, a3, a4, a5, by rw [f0, f1, f2, g1, g2, g3, g4, g5], hm, hr⟩
end Go.Proofs.YtpfjbecpfdgnpabDoor
namespace Go.Proofs.YtpfjbecpfdgnpabDoor
open Go.ChangeShapes Go.WideShapes Go.ChangeAt Go.RowKit Go.Joins Go.Deep
set_option linter.unusedSimpArgs false
set_option linter.unusedVariables false
set_option maxRecDepth 100000
set_option maxHeartbeats 400000
def goN (k s d : Int) : Int := if k = 1 then -1 else if k = 2 then 1 else if k = 3 ∨ k = 6 then 2 * s - 1 else if k = 4 then -d else 0
def goB (k s d : Int) : Bool := good k s && decide (-1 ≤ d ∧ d ≤ 1 ∧ k ≠ 5)
theorem ret_intb {a c : Int} {x y : Bool} (h : x = y) (h1 : y = true → a = c) (h3 : y = false → a = 0) :
    Ending.returned (.tuple #[.int .i64 a, .bool x]) = .returned (.tuple #[.int .i64 (selI y c), .bool y]) := by
  subst h
  cases x
  · rw [h3 rfl]; rfl
  · rw [h1 rfl]; rfl
end Go.Proofs.YtpfjbecpfdgnpabDoor
namespace Go.Proofs.YtpfjbecpfdgnpabDoor
open Go.ChangeShapes Go.WideShapes Go.ChangeAt Go.RowKit Go.Joins Go.Deep
set_option linter.unusedSimpArgs false
set_option linter.unusedVariables false
set_option maxRecDepth 100000
set_option maxHeartbeats 400000
/-- A cell that may still be found: it joins, is in no group yet, and not found. -/
def opn (J : Nat → Bool) (v q : List Nat) (i : Nat) : Bool := J i && !v.contains i && !q.contains i
def bst (J : Nat → Bool) (v q : List Nat) (i : Nat) : List Nat := if opn J v q i then q ++ [i] else q
def brn (J : Nat → Bool) (v q : List Nat) (l : List Nat) : List Nat := l.foldl (bst J v) q
def bro (J : Nat → Bool) (near : Nat → List Nat) (v q : List Nat) (k : Nat) : List Nat :=
  match q[k]? with
  | some x => brn J v q (near x)
  | none => q
def brs (J : Nat → Bool) (near : Nat → List Nat) (v q : List Nat) : Nat → List Nat
  | 0 => q
  | k + 1 => bro J near v (brs J near v q k) k
theorem brn_snoc (J : Nat → Bool) (v q l : List Nat) (x : Nat) : brn J v q (l ++ [x]) = bst J v (brn J v q l) x := by
  unfold brn; rw [List.foldl_append]; rfl
theorem brn_take (J : Nat → Bool) (v q l : List Nat) (k : Nat) (h : k < l.length) : brn J v q (l.take (k + 1)) = bst J v (brn J v q (l.take k)) l[k] := by
  rw [List.take_succ_eq_append_getElem h, brn_snoc]
theorem brs_at (J : Nat → Bool) (near : Nat → List Nat) (v q : List Nat) (k : Nat) (h : k < (brs J near v q k).length) : brs J near v q (k + 1) = brn J v (brs J near v q k) (near (brs J near v q k)[k]) := by
  show bro J near v (brs J near v q k) k = _
  unfold bro
  rw [List.getElem?_eq_getElem h]
theorem brs_stop (J : Nat → Bool) (near : Nat → List Nat) (v q : List Nat) (k : Nat) (h : (brs J near v q k).length ≤ k) : ∀ m, k ≤ m → brs J near v q m = brs J near v q k := by
  intro m hm
  induction m with
  | zero => rw [show k = 0 by omega]
  | succ m ih =>
    rcases Nat.eq_or_lt_of_le hm with e | e
    · rw [e]
    · have e1 := ih (by omega)
      show bro J near v (brs J near v q m) m = _
      rw [e1]
      unfold bro
      rw [List.getElem?_eq_none (by omega)]
/-! ### how many -/
def cntp (p : Nat → Bool) : Nat → Nat
  | 0 => 0
  | n + 1 => cntp p n + (if p n then 1 else 0)
theorem cntp_le (p : Nat → Bool) (n : Nat) : cntp p n ≤ n := by
  induction n with
  | zero => exact Nat.le_refl _
  | succ n ih =>
    show cntp p n + (if p n then 1 else 0) ≤ n + 1
    split <;> omega
theorem cntp_congr {p r : Nat → Bool} {n : Nat} (h : ∀ j, j < n → p j = r j) : cntp p n = cntp r n := by
  induction n with
  | zero => rfl
  | succ n ih =>
    show cntp p n + (if p n then 1 else 0) = cntp r n + (if r n then 1 else 0)
    rw [ih (fun j hj => h j (by omega)), h n (by omega)]
theorem cntp_drop {p r : Nat → Bool} {i n : Nat} (hi : i < n) (hp : p i = true) (hr : r i = false) (h : ∀ j, j ≠ i → r j = p j) : cntp p n = cntp r n + 1 := by
  induction n with
  | zero => omega
  | succ n ih =>
    show cntp p n + (if p n then 1 else 0) = cntp r n + (if r n then 1 else 0) + 1
    by_cases e : n = i
    · subst e
      rw [hp, hr, cntp_congr (fun j hj => (h j (by omega)).symm)]
      simp
    · rw [ih (by omega), h n e]
      omega
theorem opn_snoc (J : Nat → Bool) (v q : List Nat) (x j : Nat) : opn J v (q ++ [x]) j = (opn J v q j && !(j == x)) := by
  unfold opn
  rw [List.contains_eq_any_beq, List.contains_eq_any_beq, List.contains_eq_any_beq, List.any_append, Bool.not_or]
  simp [Bool.and_assoc]
/-- What has been found and what may still be found are no more than n together. -/
def Few (J : Nat → Bool) (v : List Nat) (n : Nat) (q : List Nat) : Prop := q.length + cntp (opn J v q) n ≤ n
theorem few_bst {J : Nat → Bool} {v q : List Nat} {n i : Nat} (h : Few J v n q) (hi : i < n) : Few J v n (bst J v q i) := by
  unfold bst
  split
  · rename_i ho
    unfold Few at h ⊢
    have := cntp_drop (p := opn J v q) (r := opn J v (q ++ [i])) hi ho (by rw [opn_snoc]; simp) (fun j hj => by rw [opn_snoc]; simp [hj])
    rw [List.length_append, List.length_singleton]
    omega
  · exact h
theorem few_brn {J : Nat → Bool} {v : List Nat} {n : Nat} : ∀ (l : List Nat) (q : List Nat), (∀ x ∈ l, x < n) → Few J v n q → Few J v n (brn J v q l)
  | [], q, _, h => h
  | x :: l, q, hl, h => few_brn l (bst J v q x) (fun y hy => hl y (List.mem_cons_of_mem _ hy)) (few_bst h (hl x (List.mem_cons_self ..)))
theorem mem_bst {J : Nat → Bool} {v q : List Nat} {i x : Nat} : x ∈ bst J v q i ↔ x ∈ q ∨ (x = i ∧ opn J v q i = true) := by
  unfold bst
  split
  · rename_i h; rw [List.mem_append, List.mem_singleton, h]; simp
  · rename_i h; simp [h]
theorem mem_brn_le {J : Nat → Bool} {v : List Nat} {x : Nat} : ∀ (l q : List Nat), x ∈ q → x ∈ brn J v q l
  | [], q, h => h
  | y :: l, q, h => mem_brn_le l (bst J v q y) (mem_bst.2 (.inl h))
theorem opn_iff {J : Nat → Bool} {v q : List Nat} {i : Nat} : opn J v q i = true ↔ J i = true ∧ i ∉ v ∧ i ∉ q := by
  unfold opn
  simp [and_assoc]
theorem mem_brn_open {J : Nat → Bool} {v : List Nat} {x : Nat} (hJ : J x = true) (hv : x ∉ v) : ∀ (l q : List Nat), x ∈ l → x ∈ brn J v q l
  | [], q, h => absurd h (List.not_mem_nil)
  | y :: l, q, h => by
    show x ∈ brn J v (bst J v q y) l
    by_cases hq : x ∈ bst J v q y
    · exact mem_brn_le l _ hq
    · rcases List.mem_cons.1 h with e | e
      · subst e
        exact absurd (mem_bst.2 (by
          by_cases hx : x ∈ q
          · exact .inl hx
          · exact .inr ⟨rfl, opn_iff.2 ⟨hJ, hv, hx⟩⟩)) hq
      · exact mem_brn_open hJ hv l _ e
theorem brn_prefix {J : Nat → Bool} {v : List Nat} : ∀ (l q : List Nat), q <+: brn J v q l
  | [], q => List.prefix_refl q
  | y :: l, q => by
    refine List.IsPrefix.trans ?_ (brn_prefix l (bst J v q y))
    unfold bst
    split
    · exact List.prefix_append _ _
    · exact List.prefix_refl _
/-- A property of lists that a step keeps is one of the whole search. -/
theorem brn_keeps {J : Nat → Bool} {v : List Nat} {M : List Nat → Prop} {D : Nat → Prop} (hM : ∀ q i, D i → M q → M (bst J v q i)) : ∀ (l q : List Nat), (∀ x ∈ l, D x) → M q → M (brn J v q l)
  | [], q, _, h => h
  | x :: l, q, hl, h => brn_keeps hM l (bst J v q x) (fun y hy => hl y (List.mem_cons_of_mem _ hy)) (hM q x (hl x (List.mem_cons_self ..)) h)
theorem brs_succ_or (J : Nat → Bool) (near : Nat → List Nat) (v q : List Nat) (k : Nat) : ((brs J near v q k).length ≤ k ∧ brs J near v q (k + 1) = brs J near v q k) ∨ ∃ h : k < (brs J near v q k).length, brs J near v q (k + 1) = brn J v (brs J near v q k) (near (brs J near v q k)[k]) := by
  rcases Nat.lt_or_ge k (brs J near v q k).length with h | h
  · exact .inr ⟨h, brs_at J near v q k h⟩
  · exact .inl ⟨h, brs_stop J near v q k h (k + 1) (by omega)⟩
theorem brs_few {J : Nat → Bool} {near : Nat → List Nat} {v q : List Nat} {n : Nat} (hn : ∀ x, x < n → ∀ y ∈ near x, y < n) (hq : ∀ x ∈ q, x < n) (h : Few J v n q) : ∀ k, Few J v n (brs J near v q k) ∧ ∀ x ∈ brs J near v q k, x < n := by
  intro k
  induction k with
  | zero => exact ⟨h, hq⟩
  | succ k ih =>
    rcases brs_succ_or J near v q k with ⟨hz, e⟩ | ⟨hk, e⟩
    · rw [e]; exact ih
    · rw [e]
      have hx := ih.2 _ (List.getElem_mem hk)
      refine ⟨few_brn _ _ (hn _ hx) ih.1, brn_keeps (M := fun q => ∀ x ∈ q, x < n) (D := fun i => i < n) ?_ _ _ (hn _ hx) ih.2⟩
      intro q i hi hM x hx
      rcases mem_bst.1 hx with h1 | ⟨rfl, _⟩
      · exact hM x h1
      · exact hi
theorem few_len {J : Nat → Bool} {v q : List Nat} {n : Nat} (h : Few J v n q) : q.length ≤ n := by unfold Few at h; omega
theorem few_one {J : Nat → Bool} {v : List Nat} {n i : Nat} (hi : i < n) (ho : opn J v [] i = true) : Few J v n [i] := by
  have h := few_bst (J := J) (v := v) (q := []) (n := n) (i := i) (by unfold Few; have := cntp_le (opn J v []) n; simpa using this) hi
  unfold bst at h
  rw [ho] at h
  exact h
/-- The search has come to its end when its next cell is none: no further round turns it. -/
theorem brs_end {J : Nat → Bool} {near : Nat → List Nat} {v q : List Nat} {k n : Nat} (h : (brs J near v q k).length ≤ k) (hk : k ≤ n) : brs J near v q k = brs J near v q n := (brs_stop J near v q k h n hk).symm
theorem brs_le {J : Nat → Bool} {near : Nat → List Nat} {v q : List Nat} {x : Nat} (h : x ∈ q) : ∀ k, x ∈ brs J near v q k := by
  intro k
  induction k with
  | zero => exact h
  | succ k ih =>
    rcases brs_succ_or J near v q k with ⟨hz, e⟩ | ⟨hk, e⟩
    · rw [e]; exact ih
    · rw [e]; exact mem_brn_le _ _ ih
/-- Whatever is found joins and was in no group. -/
theorem brs_joins {J : Nat → Bool} {near : Nat → List Nat} {v q : List Nat} (h : ∀ x ∈ q, J x = true ∧ x ∉ v) : ∀ k, ∀ x ∈ brs J near v q k, J x = true ∧ x ∉ v := by
  intro k
  induction k with
  | zero => exact h
  | succ k ih =>
    rcases brs_succ_or J near v q k with ⟨hz, e⟩ | ⟨hk, e⟩
    · rw [e]; exact ih
    · rw [e]
      refine brn_keeps (M := fun q => ∀ x ∈ q, J x = true ∧ x ∉ v) (D := fun _ => True) ?_ _ _ (fun _ _ => trivial) ih
      intro q i _ hM x hx
      rcases mem_bst.1 hx with h1 | ⟨rfl, h1⟩
      · exact hM x h1
      · exact ⟨(opn_iff.1 h1).1, (opn_iff.1 h1).2.1⟩
theorem brs_nodup {J : Nat → Bool} {near : Nat → List Nat} {v q : List Nat} (h : q.Nodup) : ∀ k, (brs J near v q k).Nodup := by
  intro k
  induction k with
  | zero => exact h
  | succ k ih =>
    rcases brs_succ_or J near v q k with ⟨hz, e⟩ | ⟨hk, e⟩
    · rw [e]; exact ih
    · rw [e]
      refine brn_keeps (M := List.Nodup) (D := fun _ => True) ?_ _ _ (fun _ _ => trivial) ih
      intro q i _ hM
      unfold bst
      split
      · rename_i ho
        rw [List.nodup_append]
        refine ⟨hM, by simp, ?_⟩
        intro a ha b hb e
        rw [List.mem_singleton] at hb
        subst hb; subst e
        exact (opn_iff.1 ho).2.2 ha
      · exact hM
/-- It stays in what is closed. -/
theorem brs_inside {J : Nat → Bool} {near : Nat → List Nat} {v q : List Nat} {S : Nat → Prop} (hS : ∀ x, S x → ∀ y ∈ near x, J y = true → y ∉ v → S y) (h : ∀ x ∈ q, S x) : ∀ k, ∀ x ∈ brs J near v q k, S x := by
  intro k
  induction k with
  | zero => exact h
  | succ k ih =>
    rcases brs_succ_or J near v q k with ⟨hz, e⟩ | ⟨hk, e⟩
    · rw [e]; exact ih
    · rw [e]
      have hx := ih _ (List.getElem_mem hk)
      refine brn_keeps (M := fun q => ∀ x ∈ q, S x) (D := fun y => y ∈ near (brs J near v q k)[k]) ?_ _ _ (fun _ h => h) ih
      intro q i hi hM x hx'
      rcases mem_bst.1 hx' with h1 | ⟨rfl, h1⟩
      · exact hM x h1
      · exact hS _ hx x hi (opn_iff.1 h1).1 (opn_iff.1 h1).2.1
theorem brs_prefix (J : Nat → Bool) (near : Nat → List Nat) (v q : List Nat) (k : Nat) : brs J near v q k <+: brs J near v q (k + 1) := by
  rcases brs_succ_or J near v q k with ⟨hz, e⟩ | ⟨hk, e⟩
  · rw [e]; exact List.prefix_refl _
  · rw [e]; exact brn_prefix _ _
theorem brs_done {J : Nat → Bool} {near : Nat → List Nat} {v q : List Nat} : ∀ k m, m < k → ∀ hm : m < (brs J near v q k).length, ∀ y ∈ near (brs J near v q k)[m], J y = true → y ∉ v → y ∈ brs J near v q k := by
  intro k
  induction k with
  | zero => intro m hm; omega
  | succ k ih =>
    intro m hmk hm y hy hJ hv
    have hp := brs_prefix J near v q k
    rcases brs_succ_or J near v q k with ⟨hz, e⟩ | ⟨hk, e⟩
    · rcases Nat.lt_or_ge m k with h1 | h1
      · have hm' : m < (brs J near v q k).length := by rw [← e]; exact hm
        have e2 : (brs J near v q (k + 1))[m] = (brs J near v q k)[m] := by simp [e]
        rw [e2] at hy
        rw [e]
        exact ih m h1 hm' y hy hJ hv
      · have : m < (brs J near v q k).length := by rw [← e]; exact hm
        omega
    · rcases Nat.lt_or_ge m k with h1 | h1
      · have hm' : m < (brs J near v q k).length := by omega
        have e2 : (brs J near v q (k + 1))[m] = (brs J near v q k)[m] := (List.IsPrefix.getElem hp hm').symm
        rw [e2] at hy
        have := ih m h1 hm' y hy hJ hv
        rw [e]
        exact mem_brn_le _ _ this
      · have e3 : m = k := by omega
        subst e3
        have e2 : (brs J near v q (m + 1))[m] = (brs J near v q m)[m] := (List.IsPrefix.getElem hp hk).symm
        rw [e2] at hy
        rw [e]
        exact mem_brn_open hJ hv _ _ hy
/-- Behind the whole search: a neighbour that joins has been found too, or is in a group. -/
theorem brs_closed {J : Nat → Bool} {near : Nat → List Nat} {v q : List Nat} {n : Nat} (hl : (brs J near v q n).length ≤ n) : ∀ x ∈ brs J near v q n, ∀ y ∈ near x, J y = true → y ∉ v → y ∈ brs J near v q n := by
  intro x hx y hy hJ hv
  obtain ⟨m, hm, rfl⟩ := List.getElem_of_mem hx
  exact brs_done n m (by omega) hm y hy hJ hv
/-! ### the groups -/
def grp (J : Nat → Bool) (near : Nat → List Nat) (n : Nat) (G : List (List Nat)) (i : Nat) : List Nat := brs J near G.flatten [i] n
def gst (J : Nat → Bool) (near : Nat → List Nat) (n : Nat) (G : List (List Nat)) (i : Nat) : List (List Nat) := if opn J G.flatten [] i then G ++ [grp J near n G i] else G
def gat (J : Nat → Bool) (near : Nat → List Nat) (n : Nat) : Nat → List (List Nat)
  | 0 => []
  | k + 1 => gst J near n (gat J near n k) k
/-- The number of the group of a cell, or -1. -/
def num : List (List Nat) → Nat → Nat → Int
  | [], _, _ => -1
  | g :: G, c, j => if g.contains j then (c : Int) else num G (c + 1) j
theorem num_neg {j : Nat} : ∀ (G : List (List Nat)) (c : Nat), num G c j < 0 ↔ j ∉ G.flatten
  | [], c => by simp [num]
  | g :: G, c => by
    unfold num
    have ih := num_neg (j := j) G (c + 1)
    by_cases h : j ∈ g
    · simp [h]
    · simp only [List.contains_iff_mem, h, if_false, List.flatten_cons, List.mem_append, false_or]
      exact ih
theorem num_ge {j : Nat} : ∀ (G : List (List Nat)) (c : Nat), -1 ≤ num G c j ∧ num G c j < c + G.length
  | [], c => by constructor <;> (simp [num]; try omega)
  | g :: G, c => by
    unfold num
    have ih := num_ge (j := j) G (c + 1)
    rw [List.length_cons]
    split
    · constructor <;> omega
    · constructor <;> omega
theorem num_lone {j : Nat} (G : List (List Nat)) (c : Nat) (h : num G c j < 0) : num G c j = -1 := by have := (num_ge (j := j) G c).1; omega
theorem num_snoc {j : Nat} (q : List Nat) : ∀ (G : List (List Nat)) (c : Nat), num (G ++ [q]) c j = if j ∈ G.flatten then num G c j else if j ∈ q then ((c + G.length : Nat) : Int) else -1
  | [], c => by simp [num]
  | g :: G, c => by
    have ih := num_snoc (j := j) q G (c + 1)
    show (if g.contains j then (c : Int) else num (G ++ [q]) (c + 1) j) = _
    rw [ih]
    by_cases h : j ∈ g
    · simp [h, num]
    · simp only [List.contains_iff_mem, h, if_false, List.flatten_cons, List.mem_append, false_or, num, List.length_cons]
      rw [show c + 1 + G.length = c + (G.length + 1) by omega]
theorem num_from {j : Nat} : ∀ (G : List (List Nat)) (c : Nat), num G c j = -1 ∨ (c : Int) ≤ num G c j
  | [], c => .inl rfl
  | g :: G, c => by
    unfold num
    split
    · exact .inr (Int.le_refl _)
    · rcases num_from (j := j) G (c + 1) with h | h
      · exact .inl h
      · exact .inr (by omega)
theorem num_mem {j : Nat} : ∀ (G : List (List Nat)) (c k : Nat), num G c j = ((c + k : Nat) : Int) → ∃ g, G[k]? = some g ∧ j ∈ g
  | [], c, k, h => by simp [num] at h; omega
  | g :: G, c, k, h => by
    unfold num at h
    split at h
    · rename_i hg
      have : k = 0 := by omega
      subst this
      exact ⟨g, rfl, by simpa using hg⟩
    · cases k with
      | zero =>
        have := (num_ge (j := j) G (c + 1))
        rcases Int.lt_or_le (num G (c + 1) j) 0 with h1 | h1
        · omega
        · exfalso
          have h2 := num_from (j := j) G (c + 1)
          omega
      | succ k =>
        obtain ⟨g', h1, h2⟩ := num_mem G (c + 1) k (by rw [h]; omega)
        exact ⟨g', by simpa using h1, h2⟩
end Go.Proofs.YtpfjbecpfdgnpabDoor
namespace Go.Proofs.YtpfjbecpfdgnpabDoor
open Go.ChangeShapes Go.WideShapes Go.ChangeAt Go.RowKit Go.Joins Go.Deep
set_option linter.unusedSimpArgs false
set_option linter.unusedVariables false
set_option maxRecDepth 100000
set_option maxHeartbeats 400000
open Go.Maps
theorem keysLaw : Maps.Keyed Tryd.prog 3 := Maps.int_keyed Tryd.underlying3
theorem zeroBool (w : World) : (zeroValue 4).run Tryd.prog w = .ok (.bool false) w := by kernel_rfl
theorem plain_bool_inv {v : Value} {x : Bool} {ps : List MemPlace} (h : plainElem (H := Unit) Tryd.prog 4 v = some (.lit (.bool x), ps)) : v = .bool x := by
  unfold plainElem at h
  rw [Tryd.underlying4] at h
  cases v <;> simp at h
  rw [h.1]
def kyAt (i : Nat) : Lit := .int .i64 (i : Int)
theorem kyAt_of {i : Nat} (h : i ≤ 1048576) : keyOf Tryd.prog 3 (.int .i64 (i : Int)) = some (kyAt i) := Maps.keyOf_int_mk Tryd.underlying3 (WalkArith.wf_i64 (by omega))
theorem kyAt_key (i : Nat) : WideAt.IsKeyLit (kyAt i) := trivial
theorem kyAt_ne {i j : Nat} (h : j ≠ i) : kyAt j ≠ kyAt i := by
  intro e
  unfold kyAt at e
  injection e with _ e
  omega
/-- Block B is such a map: at most n entries; true just at the numbers of o. -/
def Keys (w : World) (B n : Nat) (o : Nat → Bool) : Prop :=
  ∃ D : DataW Unit, w.ownsMap Tryd.prog 3 (plainElem Tryd.prog 4) B n D ∧ ∀ i, i ≤ 1048576 → D.atKey (kyAt i) (.lit (.bool false)) = .lit (.bool (o i))
theorem Keys.lt {w : World} {B n : Nat} {o : Nat → Bool} (h : Keys w B n o) : B < w.heap.size := by
  obtain ⟨D, h, _⟩ := h
  exact h.lt
theorem Keys.congr {w : World} {B n : Nat} {o o' : Nat → Bool} (h : Keys w B n o) (he : ∀ i, i ≤ 1048576 → o i = o' i) : Keys w B n o' := by
  obtain ⟨D, h, ha⟩ := h
  exact ⟨D, h, fun i hi => by rw [ha i hi, he i hi]⟩
theorem Keys.mono {w : World} {B n m : Nat} {o : Nat → Bool} (h : Keys w B n o) (hm : n ≤ m) : Keys w B m o := by
  obtain ⟨D, h, ha⟩ := h
  exact ⟨D, h.mono hm, ha⟩
theorem Keys.kept {w w' : World} {B n : Nat} {o : Nat → Bool} {row : Option Nat} (h : Keys w B n o) (hg : w.grownBy w' row) (hne : some B ≠ row) : Keys w' B n o := by
  obtain ⟨D, h, ha⟩ := h
  exact ⟨D, h.kept hg hne, ha⟩
theorem Keys.below {w w' : World} {B n : Nat} {o : Nat → Bool} (h : Keys w B n o) (hb : Below w.heap.size w w') : Keys w' B n o :=
  h.kept (row := none) ⟨hb.os, hb.tape, hb.output, hb.size, fun i hi _ => hb.block i hi⟩ (by simp)
theorem Keys.alloc {w : World} {B n : Nat} {o : Nat → Bool} (h : Keys w B n o) (x : Obj) : Keys (w.alloc x) B n o := h.kept (World.grownBy_alloc w x none) (by simp)
theorem Keys.setCell {w : World} {B n : Nat} {o : Nat → Bool} (h : Keys w B n o) {a : Addr} (ha : B ≠ a.block) (u : Value) : Keys (w.setCell a u) B n o := by
  obtain ⟨D, h, hd⟩ := h
  exact ⟨D, h.setCell ha u, hd⟩
theorem Keys.row {w : World} {B n : Nat} {o : Nat → Bool} (h : Keys w B n o) {base : Nat} {e : TypeId} {size m : Nat} {v : Value} {xs : List Value} (hr : w.ownsRow base e size v m xs) : some B ≠ v.ownBlock := by
  obtain ⟨D, ⟨es, clock, hb, _⟩, _⟩ := h
  rcases hr.2 with ⟨rfl, _⟩ | ⟨g, cap, cur, rfl, _, hg, _⟩
  · simp [Value.ownBlock]
  · intro e1
    have : B = g := by simpa [Value.ownBlock] using e1
    subst this
    rw [hb] at hg
    cases hg
theorem Keys.whole {w : World} {B n : Nat} {o : Nat → Bool} (h : Keys w B n o) {g : Nat} {t : TypeId} {xs : List Value} (hw : Whole w g t xs) : B ≠ g := by
  obtain ⟨D, ⟨es, clock, hb, _⟩, _⟩ := h
  intro e
  subst e
  unfold Whole at hw
  rw [hb] at hw
  cases hw
theorem Keys.made (w : World) : Keys (w.alloc (.map #[] 0)) w.heap.size 0 (fun _ => false) :=
  ⟨.map [], World.ownsMap_made _ _ _ _, fun _ _ => rfl⟩
end Go.Proofs.YtpfjbecpfdgnpabDoor
namespace Go.Proofs.YtpfjbecpfdgnpabDoor
open Go.ChangeShapes Go.WideShapes Go.ChangeAt Go.RowKit Go.Joins Go.Deep
set_option linter.unusedSimpArgs false
set_option linter.unusedVariables false
set_option maxRecDepth 100000
set_option maxHeartbeats 400000
theorem cell_two {w : World} {b o : Nat} {l : List (Int × Int)} (hc : ∀ j u, (flat l)[j]? = some u → w.cell? ⟨b, o + j, none⟩ = some u) {k : Nat} (h : k < l.length) :
    w.cell? ⟨b, o + k * 2, none⟩ = some (.int .i64 l[k].1) ∧ w.cell? ⟨b, o + k * 2 + 1, none⟩ = some (.int .i64 l[k].2) :=
  ⟨hc _ _ (flat_at l k h).1, hc _ _ (flat_at l k h).2⟩
def inB (R C i j : Int) : Bool := decide (0 ≤ i ∧ i < R ∧ 0 ≤ j ∧ j < C)
def hasB (R C : Int) (l : List (Int × Int)) (i j : Int) : Bool := goodB R C l && inB R C i j
theorem inB_iff {R C i j : Int} : inB R C i j = true ↔ 0 ≤ i ∧ i < R ∧ 0 ≤ j ∧ j < C := by unfold inB; simp
def atI (C i j : Int) : Nat := (i * C + j).toNat
theorem at_bound {R C : Int} {l : List (Int × Int)} {i j : Int} (hg : goodB R C l = true) (hi : inB R C i j = true) :
    (0 ≤ i * C ∧ i * C ≤ 90) ∧ i * C + j = (atI C i j : Int) ∧ atI C i j < l.length ∧ l.length ≤ 90 := by
  obtain ⟨hs, hl, _⟩ := goodB_iff.1 hg
  obtain ⟨a, b, c, d⟩ := inB_iff.1 hi
  have hm := mul_bound hs
  obtain ⟨s1, s2, s3, s4⟩ := sizeB_iff.1 hs
  have h1 : i * C ≤ (R - 1) * C := Int.mul_le_mul_of_nonneg_right (by omega) (by omega)
  have h2 : (R - 1) * C = R * C - C := by rw [Int.sub_mul, Int.one_mul]
  have h3 : 0 ≤ i * C := Int.mul_nonneg a (by omega)
  unfold atI
  omega
theorem wrap_at {R C : Int} {l : List (Int × Int)} {i j : Int} (hg : goodB R C l = true) (hi : inB R C i j = true) :
    IntKind.i64.wrap (i * C) = i * C ∧ IntKind.i64.wrap (i * C + j) = (atI C i j : Int) := by
  obtain ⟨h1, h2, h3, h4⟩ := at_bound hg hi
  refine ⟨IntWalk.i64_in (i * C) (by omega), ?_⟩
  rw [IntWalk.i64_in (i * C + j) (by omega), h2]
def cellK (R C : Int) (l : List (Int × Int)) (i j : Int) : Int := selI (hasB R C l i j) (l.getD (atI C i j) (0, 0)).1
def cellS (R C : Int) (l : List (Int × Int)) (i j : Int) : Int := selI (hasB R C l i j) (l.getD (atI C i j) (0, 0)).2
theorem hasB_and {R C : Int} {l : List (Int × Int)} {i j : Int} (h : hasB R C l i j = true) : goodB R C l = true ∧ inB R C i j = true := by
  unfold hasB at h; simpa using h
end Go.Proofs.YtpfjbecpfdgnpabDoor
namespace Go.Proofs.YtpfjbecpfdgnpabDoor
open Go.ChangeShapes Go.WideShapes Go.ChangeAt Go.RowKit Go.Joins Go.Deep
set_option linter.unusedSimpArgs false
set_option linter.unusedVariables false
set_option maxRecDepth 100000
set_option maxHeartbeats 1000000
theorem row_empty (w : World) (e : TypeId) (size : Nat) : (w.alloc (.cells #[] e)).ownsRow w.heap.size e size (.slice (some ⟨w.heap.size, 0, none⟩) 0 0) 0 [] :=
  ⟨by simp, .inr ⟨w.heap.size, 0, #[], rfl, Nat.le_refl _, heap_alloc_new w _, Nat.le_refl _, Nat.zero_le _, by simp, by simp⟩⟩
theorem rd_news {w w' : World} {B b o : Nat} {xs : List Value} (hr : Rd w B (some ⟨b, o, none⟩) xs) (hb : Below B w w') : ∀ j u, xs[j]? = some u → w'.cell? ((⟨b, o, none⟩ : Addr).add j) = some u := by
  intro j u hj
  obtain ⟨b', o', e, hlt, hc⟩ := hr (by have := (List.getElem?_eq_some_iff.1 hj).1; omega)
  cases e
  rw [add_plain]
  exact (hb.cell (p := ⟨b, o + j, none⟩) hlt).trans (hc j u hj)
theorem Own.set_far {w : World} {A : Option Addr} {t : TypeId} {xs : List Value} (h : Own w A t xs) (p : Addr) (u : Value) (hne : ∀ a, A = some a → p.block ≠ a.block) : Own (w.setCell p u) A t xs := fun hx => by
  obtain ⟨g, rest, rfl, hw⟩ := h hx
  exact ⟨g, rest, rfl, hw.set_far p u (hne _ rfl)⟩
theorem flat_set (l : List (Int × Int)) (n : Nat) (x y : Int) (h : n < l.length) (rest : List Value) : ((flat l ++ rest).set (n * 2) (.int .i64 x)).set (n * 2 + 1) (.int .i64 y) = flat (l.set n (x, y)) ++ rest := by
  have hl := flat_length l
  rw [List.set_append_left _ _ (by omega), List.set_append_left _ _ (by rw [List.length_set]; omega)]
  congr 1
  clear hl
  induction l generalizing n with
  | nil => simp at h
  | cons c l ih =>
    cases n with
    | zero => rfl
    | succ n =>
      have := ih n (by simpa using h)
      rw [show (n + 1) * 2 = n * 2 + 1 + 1 by omega]
      show ((Value.int .i64 c.1 :: Value.int .i64 c.2 :: flat l).set (n * 2 + 1 + 1) (Value.int .i64 x)).set (n * 2 + 1 + 1 + 1) (Value.int .i64 y) = Value.int .i64 c.1 :: Value.int .i64 c.2 :: flat (l.set n (x, y))
      rw [← this]
      rfl
def okPut (R C : Int) (l : List (Int × Int)) (i j x y : Int) : Bool := hasB R C l i j && good x y
def putL (R C : Int) (l : List (Int × Int)) (i j x y : Int) : List (Int × Int) := if okPut R C l i j x y then l.set (atI C i j) (x, y) else []
theorem putL_len (R C : Int) (l : List (Int × Int)) (i j x y : Int) (h : l.length ≤ 1048576) : (putL R C l i j x y).length ≤ 1048576 := by
  unfold putL
  split
  · rw [List.length_set]; exact h
  · simp
theorem putB_post {w w' : World} {R C : Int} {l : List (Int × Int)} {i j x y : Int} {e : Ending} {ok : Bool} (h : okPut R C l i j x y = ok) (hp : if ok then PostB w R C (l.set (atI C i j) (x, y)) true e w' else PostB w 0 0 [] false e w') :
    PostB w (selI (okPut R C l i j x y) R) (selI (okPut R C l i j x y) C) (putL R C l i j x y) (okPut R C l i j x y) e w' := by
  unfold putL
  rw [h]
  cases ok
  · exact hp
  · exact hp
end Go.Proofs.YtpfjbecpfdgnpabDoor
namespace Go.Proofs.YtpfjbecpfdgnpabDoor
open Go.ChangeShapes Go.WideShapes Go.ChangeAt Go.RowKit Go.Joins Go.Deep
set_option linter.unusedSimpArgs false
set_option linter.unusedVariables false
set_option maxRecDepth 100000
set_option maxHeartbeats 1000000
/-- The value v is a list of numbers whose memory lies from block base on and is the call's own. -/
def IRow (w : World) (base : Nat) (v : Value) (l : List Int) : Prop := w.ownsRow base 3 1 v l.length (ints l)
theorem IRow.nil {w : World} {base : Nat} : IRow w base (.slice none 0 0) [] := World.ownsRow_nil _ _ _ _
theorem IRow.keep {w w' : World} {base : Nat} {v : Value} {l : List Int} (h : IRow w base v l) (hb : Below w.heap.size w w') : IRow w' base v l := row_keep h hb
theorem IRow.alloc {w : World} {base : Nat} {v : Value} {l : List Int} (h : IRow w base v l) (o : Obj) : IRow (w.alloc o) base v l := World.ownsRow.alloc h o
theorem IRow.grown {w w' : World} {base : Nat} {v : Value} {l : List Int} {row : Option Nat} (h : IRow w base v l) (hg : w.grownBy w' row) (hne : v.ownBlock = none ∨ v.ownBlock ≠ row) : IRow w' base v l := World.ownsRow.kept h hg hne
theorem IRow.shape {w : World} {base : Nat} {v : Value} {l : List Int} (h : IRow w base v l) : ∃ A cap, v = .slice A l.length cap ∧ Own w A 3 (ints l) ∧ ∀ a, A = some a → base ≤ a.block := by
  have h' : w.ownsRow base 3 1 v l.length (ints l) := h
  obtain ⟨A, cap, rfl⟩ := slice_of_row h'
  exact ⟨A, cap, rfl, (own_of_row h').1, (own_of_row h').2⟩
theorem PostI.of_irow {w w' : World} {l : List Int} {v : Value} {base : Nat} (h : IRow w' base v l) (hbase : w.heap.size ≤ base) (hb : Below w.heap.size w w') : PostI w l (.returned v) w' := by
  obtain ⟨A', cap', rfl, ho, hn⟩ := h.shape
  exact PostI.mk ho (fun a ha => Nat.le_trans hbase (hn a ha)) hb
/-- 'l = append(l, x)': the literal slice of x is the heap's last block. -/
theorem wpList_push {w : World} {ops : Array Oper} {rest : List Oper} {o : Oper} {a : Act} {Q : Exit → Act → World → Prop} {base : Nat} {v : Value} {l : List Int} {x0 : Int} (hrow : IRow w base v l) (hn : l.length ≤ 1048576) (hbase : base ≤ w.heap.size)
    (hgd : o.guard = none) (s x : Operand) (ho : o.op = .call { callee := .builtin .append, args := #[s, x], argTypes := #[40, 40] })
    (hs : a.eval s = v) (hx : a.eval x = .slice (some ⟨w.heap.size, 0, none⟩) 1 1)
    (h : ∀ v' w', IRow w' base v' (l ++ [x0]) → (w.alloc (.cells #[.int .i64 x0] 3)).grownBy w' v.ownBlock → Below base w w' → (v'.ownBlock = v.ownBlock ∨ v'.ownBlock = some (w.heap.size + 1)) → wpList Tryd.prog ops Q rest (a.put o.dst v') w') :
    wpList Tryd.prog ops Q (o :: rest) a (w.alloc (.cells #[.int .i64 x0] 3)) := by
  obtain ⟨i0, hi, hz0, hz1, hz2⟩ := info_parts intInfo
  refine wpList_append_own_at _ hgd s x 40 ho base 3 i0 _ 1 8 Tryd.underlying40 hi hz0 hz1 hz2 rfl (by omega) v l.length (ints l) hs (World.ownsRow.alloc hrow _) ⟨w.heap.size, 0, none⟩ 1 1 [.int .i64 x0] hx rfl one_cellI one_oneI (by unfold maxLen; omega) (by omega) (by simp; omega) ?_
  intro v' w' h1 h2 _ h4
  refine h v' w' ?_ h2 ?_ (by simpa using h4)
  · unfold IRow
    rw [List.length_append, List.length_singleton]
    simpa [ints] using h1
  · exact row_below (World.ownsRow.alloc hrow _) ((Below.refl base w).alloc hbase _) (by simp; omega) h2
end Go.Proofs.YtpfjbecpfdgnpabDoor
namespace Go.Proofs.YtpfjbecpfdgnpabDoor
open Go.ChangeShapes Go.WideShapes Go.ChangeAt Go.RowKit Go.Joins Go.Deep
set_option linter.unusedSimpArgs false
set_option linter.unusedVariables false
set_option maxRecDepth 100000
set_option maxHeartbeats 400000
def nearL (c n i : Nat) : List Nat :=
  (if c ≤ i then [i - c] else []) ++ (if 0 < i % c then [i - 1] else []) ++ (if i % c + 1 < c then [i + 1] else []) ++ (if i + c < n then [i + c] else [])
theorem mem_one {P : Prop} [Decidable P] {a y : Nat} : (y ∈ if P then [a] else []) ↔ P ∧ y = a := by
  by_cases h : P <;> simp [h]
theorem mem_near {c n i y : Nat} : y ∈ nearL c n i ↔ (c ≤ i ∧ y = i - c) ∨ (0 < i % c ∧ y = i - 1) ∨ (i % c + 1 < c ∧ y = i + 1) ∨ (i + c < n ∧ y = i + c) := by
  unfold nearL
  rw [List.mem_append, List.mem_append, List.mem_append, mem_one, mem_one, mem_one, mem_one, or_assoc, or_assoc]
theorem mod_down {c i : Nat} (h : 0 < i % c) : (i - 1) % c = i % c - 1 := by
  have e := Nat.div_add_mod i c
  rcases Nat.eq_zero_or_pos c with h0 | hc
  · subst h0
    rw [Nat.mod_zero, Nat.mod_zero]
  have hl := Nat.mod_lt i hc
  have e2 : i - 1 = c * (i / c) + (i % c - 1) := by omega
  rw [e2, Nat.mul_add_mod, Nat.mod_eq_of_lt (by omega)]
theorem mod_up {c i : Nat} (h : i % c + 1 < c) : (i + 1) % c = i % c + 1 := by
  have e := Nat.div_add_mod i c
  have e2 : i + 1 = c * (i / c) + (i % c + 1) := by omega
  rw [e2, Nat.mul_add_mod, Nat.mod_eq_of_lt h]
theorem row_end {c r i : Nat} (h : i % c + 1 < c) (hi : i < r * c) : i + 1 < r * c := by
  have e := Nat.div_add_mod i c
  have hc : 0 < c := by omega
  have h1 : i / c < r := (Nat.div_lt_iff_lt_mul hc).2 hi
  have h2 : c * (i / c + 1) ≤ c * r := Nat.mul_le_mul_left c h1
  rw [Nat.mul_succ, Nat.mul_comm c r] at h2
  omega
theorem near_lt {c r i y : Nat} (hi : i < r * c) (h : y ∈ nearL c (r * c) i) : y < r * c := by
  rcases mem_near.1 h with ⟨_, rfl⟩ | ⟨_, rfl⟩ | ⟨h1, rfl⟩ | ⟨h1, rfl⟩
  · omega
  · omega
  · exact row_end h1 hi
  · exact h1
theorem near_sym {c r i y : Nat} (hi : i < r * c) (h : y ∈ nearL c (r * c) i) : i ∈ nearL c (r * c) y := by
  refine mem_near.2 ?_
  rcases mem_near.1 h with ⟨h1, rfl⟩ | ⟨h1, rfl⟩ | ⟨h1, rfl⟩ | ⟨h1, rfl⟩
  · exact .inr (.inr (.inr ⟨by omega, by omega⟩))
  · refine .inr (.inr (.inl ⟨?_, ?_⟩))
    · rw [mod_down h1]
      have hc : 0 < c := by
        rcases Nat.eq_zero_or_pos c with h0 | h0
        · subst h0; simp at hi
        · exact h0
      have := Nat.mod_lt i hc
      omega
    · have := Nat.mod_le i c
      omega
  · refine .inr (.inl ⟨?_, by omega⟩)
    rw [mod_up h1]
    omega
  · exact .inl ⟨by omega, by omega⟩
theorem near_len (c n i : Nat) : (nearL c n i).length ≤ 4 := by
  unfold nearL
  repeat' split
  all_goals simp
/-! ### groups are closed, apart, and those of each of their cells -/
section
variable {J : Nat → Bool} {near : Nat → List Nat} {n : Nat}
structure Groups (J : Nat → Bool) (near : Nat → List Nat) (n k : Nat) (G : List (List Nat)) : Prop where
  cells : ∀ g ∈ G, ∀ x ∈ g, x < n ∧ J x = true
  closed : ∀ g ∈ G, ∀ x ∈ g, ∀ y ∈ near x, J y = true → y ∈ g
  nodup : ∀ g ∈ G, g.Nodup
  each : ∀ g ∈ G, ∀ x ∈ g, ∀ y, y ∈ brs J near [] [x] n ↔ y ∈ g
  some_ : ∀ g ∈ G, g ≠ []
  few : ∀ g ∈ G, g.length ≤ n
  apart : G.flatten.Nodup
  all : ∀ i, i < k → J i = true → i ∈ G.flatten
theorem flatten_snoc (G : List (List Nat)) (q : List Nat) : (G ++ [q]).flatten = G.flatten ++ q := by simp
theorem groups_step (hn : ∀ x, x < n → ∀ y ∈ near x, y < n) (hs : ∀ x, x < n → ∀ y ∈ near x, x ∈ near y) {k : Nat} {G : List (List Nat)} (h : Groups J near n k G) (hk : k < n) : Groups J near n (k + 1) (gst J near n G k) := by
  unfold gst
  by_cases ho : opn J G.flatten [] k = true
  · rw [if_pos ho]
    obtain ⟨hJ, hv, _⟩ := opn_iff.1 ho
    have hf := brs_few (J := J) (near := near) (v := G.flatten) (q := [k]) (n := n) hn (by simpa using hk) (few_one hk ho) n
    have hj := brs_joins (J := J) (near := near) (v := G.flatten) (q := [k]) (fun x hx => by rw [List.mem_singleton] at hx; subst hx; exact ⟨hJ, hv⟩) n
    have hd := brs_nodup (J := J) (near := near) (v := G.flatten) (q := [k]) (by simp) n
    have hc : ∀ x ∈ grp J near n G k, ∀ y ∈ near x, J y = true → y ∈ grp J near n G k := by
      intro x hx y hy hJy
      refine brs_closed (few_len hf.1) x hx y hy hJy ?_
      intro hyv
      obtain ⟨g, hg, hyg⟩ := List.mem_flatten.1 hyv
      have := h.closed g hg y hyg x (hs x (hf.2 x hx) y hy) (hj x hx).1
      exact (hj x hx).2 (List.mem_flatten.2 ⟨g, hg, this⟩)
    have hk0 : k ∈ grp J near n G k := brs_le (by simp) n
    have hsub : ∀ x ∈ grp J near n G k, ∀ y, y ∈ brs J near [] [x] n → y ∈ grp J near n G k := by
      intro x hx
      exact brs_inside (S := fun y => y ∈ grp J near n G k) (fun a ha y hy hJy _ => hc a ha y hy hJy) (by simpa using hx) n
    have heach : ∀ x ∈ grp J near n G k, ∀ y, y ∈ brs J near [] [x] n ↔ y ∈ grp J near n G k := by
      intro x hx y
      refine ⟨hsub x hx y, ?_⟩
      have hxo : opn J [] [] x = true := opn_iff.2 ⟨(hj x hx).1, by simp, by simp⟩
      have hf1 := brs_few (J := J) (near := near) (v := []) (q := [x]) (n := n) hn (by simpa using hf.2 x hx) (few_one (hf.2 x hx) hxo) n
      have hj1 := brs_joins (J := J) (near := near) (v := []) (q := [x]) (fun y hy => by rw [List.mem_singleton] at hy; rw [hy]; exact ⟨(hj x hx).1, List.not_mem_nil⟩) n
      have hc1 : ∀ a ∈ brs J near [] [x] n, ∀ y ∈ near a, J y = true → y ∈ brs J near [] [x] n := fun a ha y hy hJy => brs_closed (few_len hf1.1) a ha y hy hJy (by simp)
      have hx1 : x ∈ brs J near [] [x] n := brs_le (by simp) n
      have hk1 : k ∈ brs J near [] [x] n := by
        refine Classical.byContradiction fun hno => ?_
        have hin := brs_inside (J := J) (near := near) (v := G.flatten) (q := [k]) (S := fun z => z ∉ brs J near [] [x] n ∧ J z = true ∧ z < n)
          (fun z hz y hy hJy _ => ⟨fun hy1 => hz.1 (hc1 y hy1 z (hs z hz.2.2 y hy) hz.2.1), hJy, hn z hz.2.2 y hy⟩) (by simpa using ⟨hno, hJ, hk⟩) n
        exact (hin x hx).1 hx1
      exact brs_inside (J := J) (near := near) (v := G.flatten) (q := [k]) (S := fun z => z ∈ brs J near [] [x] n) (fun z hz y hy hJy _ => hc1 z hz y hy hJy) (by simpa using hk1) n y
    refine ⟨?_, ?_, ?_, ?_, ?_, ?_, ?_, ?_⟩
    · intro g hg x hx
      rcases List.mem_append.1 hg with hg | hg
      · exact h.cells g hg x hx
      · rw [List.mem_singleton] at hg; subst hg; exact ⟨hf.2 x hx, (hj x hx).1⟩
    · intro g hg
      rcases List.mem_append.1 hg with hg | hg
      · exact h.closed g hg
      · rw [List.mem_singleton] at hg; subst hg; exact hc
    · intro g hg
      rcases List.mem_append.1 hg with hg | hg
      · exact h.nodup g hg
      · rw [List.mem_singleton] at hg; subst hg; exact hd
    · intro g hg
      rcases List.mem_append.1 hg with hg | hg
      · exact h.each g hg
      · rw [List.mem_singleton] at hg; subst hg; exact heach
    · intro g hg
      rcases List.mem_append.1 hg with hg | hg
      · exact h.some_ g hg
      · rw [List.mem_singleton] at hg; subst hg; exact fun e => by rw [e] at hk0; exact absurd hk0 (List.not_mem_nil)
    · intro g hg
      rcases List.mem_append.1 hg with hg | hg
      · exact h.few g hg
      · rw [List.mem_singleton] at hg; subst hg; exact few_len hf.1
    · rw [flatten_snoc, List.nodup_append]
      refine ⟨h.apart, hd, ?_⟩
      intro a ha b hb e
      subst e
      exact (hj a hb).2 ha
    · intro i hi hJi
      rw [flatten_snoc, List.mem_append]
      rcases Nat.lt_or_ge i k with h1 | h1
      · exact .inl (h.all i h1 hJi)
      · obtain rfl : i = k := by omega
        exact .inr hk0
  · rw [if_neg ho]
    refine ⟨h.cells, h.closed, h.nodup, h.each, h.some_, h.few, h.apart, ?_⟩
    intro i hi hJi
    rcases Nat.lt_or_ge i k with h1 | h1
    · exact h.all i h1 hJi
    · obtain rfl : i = k := by omega
      refine Classical.byContradiction fun hno => ho (opn_iff.2 ⟨hJi, hno, by simp⟩)
theorem groups_at (hn : ∀ x, x < n → ∀ y ∈ near x, y < n) (hs : ∀ x, x < n → ∀ y ∈ near x, x ∈ near y) : ∀ k, k ≤ n → Groups J near n k (gat J near n k)
  | 0, _ => ⟨fun g hg => absurd hg List.not_mem_nil, fun g hg => absurd hg List.not_mem_nil, fun g hg => absurd hg List.not_mem_nil, fun g hg => absurd hg List.not_mem_nil, fun g hg => absurd hg List.not_mem_nil, fun g hg => absurd hg List.not_mem_nil, List.nodup_nil, fun i hi => absurd hi (Nat.not_lt_zero i)⟩
  | k + 1, hk => groups_step hn hs (groups_at hn hs k (by omega)) (by omega)
end
theorem num_is {j : Nat} {g : List Nat} : ∀ (G : List (List Nat)) (c k : Nat), G.flatten.Nodup → G[k]? = some g → (num G c j = ((c + k : Nat) : Int) ↔ j ∈ g)
  | [], c, k, _, h => by simp at h
  | a :: G, c, 0, hd, h => by
    rw [List.getElem?_cons_zero] at h
    cases h
    unfold num
    by_cases hj : j ∈ g
    · simp [hj]
    · simp only [List.contains_iff_mem, hj, if_false, iff_false]
      intro e
      rcases num_from (j := j) G (c + 1) with h1 | h1 <;> omega
  | a :: G, c, k + 1, hd, h => by
    rw [List.getElem?_cons_succ] at h
    rw [List.flatten_cons, List.nodup_append] at hd
    unfold num
    have ih := num_is (j := j) G (c + 1) k hd.2.1 h
    by_cases hj : j ∈ a
    · simp only [List.contains_iff_mem, hj, if_true]
      constructor
      · intro e; omega
      · intro hg
        exact absurd rfl (hd.2.2 j hj j (List.mem_flatten.2 ⟨g, List.mem_of_getElem? h, hg⟩))
    · simp only [List.contains_iff_mem, hj, if_false]
      rw [← ih]
      constructor <;> intro e <;> omega
/-- The numbers below n in a list, in order. -/
def sortN (n : Nat) (q : List Nat) : List Nat := (List.range n).filter fun j => q.contains j
theorem sortN_congr {n : Nat} {p q : List Nat} (h : ∀ y, y ∈ p ↔ y ∈ q) : sortN n p = sortN n q := by
  unfold sortN
  refine List.filter_congr fun x _ => ?_
  rw [Bool.eq_iff_iff, List.contains_iff_mem, List.contains_iff_mem]
  exact h x
theorem mem_sortN {n x : Nat} {q : List Nat} : x ∈ sortN n q ↔ x < n ∧ x ∈ q := by
  unfold sortN
  rw [List.mem_filter, List.mem_range, List.contains_iff_mem]
theorem sortN_sorted (n : Nat) (q : List Nat) : (sortN n q).Pairwise (· < ·) := List.pairwise_lt_range.filter _
/-- Two rising lists of the same numbers are one. -/
theorem rising_eq : ∀ {a b : List Nat}, a.Pairwise (· < ·) → b.Pairwise (· < ·) → (∀ x, x ∈ a ↔ x ∈ b) → a = b
  | [], [], _, _, _ => rfl
  | [], y :: b, _, _, h => absurd ((h y).2 (List.mem_cons_self ..)) (List.not_mem_nil)
  | x :: a, [], _, _, h => absurd ((h x).1 (List.mem_cons_self ..)) (List.not_mem_nil)
  | x :: a, y :: b, ha, hb, h => by
    rw [List.pairwise_cons] at ha hb
    have e : x = y := by
      rcases List.mem_cons.1 ((h x).1 (List.mem_cons_self ..)) with e | e
      · exact e
      · rcases List.mem_cons.1 ((h y).2 (List.mem_cons_self ..)) with e' | e'
        · exact e'.symm
        · have := hb.1 x e
          have := ha.1 y e'
          omega
    subst e
    rw [rising_eq ha.2 hb.2 (fun z => ?_)]
    constructor
    · intro hz
      rcases List.mem_cons.1 ((h z).1 (List.mem_cons_of_mem _ hz)) with e | e
      · have := ha.1 z hz; omega
      · exact e
    · intro hz
      rcases List.mem_cons.1 ((h z).2 (List.mem_cons_of_mem _ hz)) with e | e
      · have := hb.1 z hz; omega
      · exact e
theorem sortN_of_perm {n : Nat} {q r : List Nat} (hp : r.Perm q) (hr : r.Pairwise (· ≤ ·)) (hd : q.Nodup) (hl : ∀ x ∈ q, x < n) : r = sortN n q := by
  have hd' : r.Nodup := hp.nodup_iff.2 hd
  refine rising_eq ?_ (sortN_sorted n q) (fun x => ?_)
  · refine (hr.and hd').imp ?_
    intro a b h
    omega
  · rw [mem_sortN, hp.mem_iff]
    exact ⟨fun h => ⟨hl x h, h⟩, fun h => h.2⟩
theorem sortN_length {n : Nat} (q : List Nat) : (sortN n q).length ≤ n := by
  have := List.length_filter_le (fun j => q.contains j) (List.range n)
  rw [List.length_range] at this
  exact this
end Go.Proofs.YtpfjbecpfdgnpabDoor
namespace Go.Proofs.YtpfjbecpfdgnpabDoor
open Go.ChangeShapes Go.WideShapes Go.ChangeAt Go.RowKit Go.Joins Go.Deep
set_option linter.unusedSimpArgs false
set_option linter.unusedVariables false
set_option maxRecDepth 100000
set_option maxHeartbeats 1000000
def joins (k : Int) : Bool := decide (k = 6) || decide (k = 7)
def nI (l : List Nat) : List Int := l.map fun k : Nat => (k : Int)
theorem nI_length (l : List Nat) : (nI l).length = l.length := by simp [nI]
theorem nI_append (l m : List Nat) : nI (l ++ m) = nI l ++ nI m := by simp [nI]
theorem nI_at (l : List Nat) (k : Nat) (h : k < l.length) : (ints (nI l))[k]? = some (.int .i64 (l[k] : Int)) := by simp [ints, nI, h]
theorem wrap_nat {x : Int} (h0 : 0 ≤ x) (h1 : x ≤ 1048576) : IntKind.i64.wrap x = x := IntWalk.i64_in x (by omega)
theorem div_facts {c r n i : Nat} (hc : 1 ≤ c) (hn : n = r * c) (hi : i < n) : (0 < i / c ↔ c ≤ i) ∧ (i / c + 1 < r ↔ i + c < n) ∧ i / c ≤ i ∧ i % c < c := by
  subst hn
  refine ⟨Nat.div_pos_iff.trans ⟨fun h => h.2, fun h => ⟨by omega, h⟩⟩, ?_, Nat.div_le_self .., Nat.mod_lt _ (by omega)⟩
  rw [← Nat.add_div_right i (show 0 < c by omega)]
  exact Nat.div_lt_iff_lt_mul (by omega)
theorem near_eq {c r n i : Nat} (hc : 1 ≤ c) (hn : n = r * c) (hi : i < n) : nearL c n i = (if 0 < i / c then [i - c] else []) ++ (if 0 < i % c then [i - 1] else []) ++ (if i % c + 1 < c then [i + 1] else []) ++ (if i / c + 1 < r then [i + c] else []) := by
  obtain ⟨h1, h2, _⟩ := div_facts hc hn hi
  unfold nearL
  simp only [h1, h2]
end Go.Proofs.YtpfjbecpfdgnpabDoor
namespace Go.Proofs.YtpfjbecpfdgnpabDoor
open Go.ChangeShapes Go.WideShapes Go.ChangeAt Go.RowKit Go.Joins Go.Deep
set_option linter.unusedSimpArgs false
set_option linter.unusedVariables false
set_option maxRecDepth 100000
set_option maxHeartbeats 2000000
open Go.Maps
def J (l : List (Int × Int)) (i : Nat) : Bool := joins (l.getD i (0, 0)).1
theorem J_at {l : List (Int × Int)} {k : Nat} (h : k < l.length) : J l k = joins l[k].1 := by unfold J; rw [List.getD_eq_getElem?_getD, List.getElem?_eq_getElem h]; rfl
theorem J_lt {l : List (Int × Int)} {k : Nat} (h : J l k = true) : k < l.length := by
  refine Classical.byContradiction fun hno => ?_
  unfold J at h
  rw [List.getD_eq_getElem?_getD, List.getElem?_eq_none (by omega)] at h
  simp [joins] at h
/-- A board's measures. -/
structure Geo (r c n : Nat) : Prop where
  r1 : 1 ≤ r
  r2 : r ≤ 10
  c1 : 1 ≤ c
  c2 : c ≤ 9
  cells : n = r * c
theorem Geo.n90 {r c n : Nat} (h : Geo r c n) : n ≤ 90 := by
  obtain ⟨_, h2, _, h4, h5⟩ := h
  have := Nat.mul_le_mul h2 h4
  omega
theorem Geo.near {r c n : Nat} (h : Geo r c n) : ∀ x, x < n → ∀ y ∈ nearL c n x, y < n := by
  intro x hx y hy
  have e := h.cells
  subst e
  exact near_lt hx hy
theorem Geo.sym {r c n : Nat} (h : Geo r c n) : ∀ x, x < n → ∀ y ∈ nearL c n x, x ∈ nearL c n y := by
  intro x hx y hy
  have e := h.cells
  subst e
  exact near_sym hx hy
/-- Cells that a map's turn leaves as they were. -/
theorem Keys.cells {w w' : World} {B nB : Nat} {o : Nat → Bool} (hk : Keys w B nB o) (hg : w.grownBy w' (some B)) {b j : Nat} {u : Value} (hc : w.cell? ⟨b, j, none⟩ = some u) : w'.cell? ⟨b, j, none⟩ = some u := by
  have hlt : b < w.heap.size := lt_of_cell (a := ⟨b, j, none⟩) hc
  have hne : some b ≠ some B := by
    obtain ⟨D, ⟨es, clock, hb, _⟩, _⟩ := hk
    intro e
    cases e
    simp [World.cell?, hb] at hc
  have := hg.block b hlt hne
  simpa [World.cell?, this] using hc
end Go.Proofs.YtpfjbecpfdgnpabDoor
namespace Go.Proofs.YtpfjbecpfdgnpabDoor
open Go.ChangeShapes Go.WideShapes Go.ChangeAt Go.RowKit Go.Joins Go.Deep
set_option linter.unusedSimpArgs false
set_option linter.unusedVariables false
set_option maxRecDepth 100000
set_option maxHeartbeats 1000000
def SpS (w : World) (bx : List Value) (B nB : Nat) (o : Nat → Bool) (v : Value) (q : List Nat) (wr : World) : Prop :=
  Whole wr w.heap.size 32 bx ∧ IRow wr (w.heap.size + 1) v (nI q) ∧ Keys wr B nB o ∧ w.grownBy wr (some B)
/-- A list of numbers that lies apart from a row. -/
def NrS (base : Nat) (v : Value) (A : Option Addr) (nl : List Nat) (wr : World) : Prop :=
  Own wr A 3 (ints (nI nl)) ∧ (0 < nl.length → ∀ a, A = some a → base ≤ a.block ∧ v.ownBlock ≠ some a.block)
theorem grown_below {w wr w2 : World} {row : Option Nat} {B : Nat} (h : w.grownBy wr row) (hb : Below B wr w2) (hB : w.heap.size ≤ B) : w.grownBy w2 row :=
  ⟨h.os ▸ hb.os, hb.tape.trans h.tape, hb.output.trans h.output, Nat.le_trans h.size hb.size, fun i hi hne => (hb.block i (Nat.lt_of_lt_of_le hi hB)).trans (h.block i hi hne)⟩
variable {w wr w2 : World} {bx : List Value} {B nB : Nat} {o o' : Nat → Bool} {v v2 : Value} {q nl : List Nat} {A : Option Addr}
theorem SpS.below (h : SpS w bx B nB o v q wr) (hb : Below wr.heap.size wr w2) : SpS w bx B nB o v q w2 :=
  ⟨h.1.below hb h.1.lt, h.2.1.keep hb, h.2.2.1.below hb, grown_below h.2.2.2 hb h.2.2.2.size⟩
theorem SpS.del (h : SpS w bx B nB o v q wr) (hk : Keys w2 B nB o') (hg : wr.grownBy w2 (some B)) : SpS w bx B nB o' v q w2 := by
  refine ⟨h.1.grown hg (fun e => h.2.2.1.whole h.1 (by cases e; rfl)), ?_, hk, h.2.2.2.trans hg⟩
  refine h.2.1.grown hg (.inr fun e => h.2.2.1.row h.2.1 e.symm)
theorem SpS.congr (h : SpS w bx B nB o v q wr) (he : ∀ i, i ≤ 1048576 → o i = o' i) : SpS w bx B nB o' v q wr := ⟨h.1, h.2.1, h.2.2.1.congr he, h.2.2.2⟩
theorem SpS.push {x : Int} {y : Nat} (h : SpS w bx B nB o v q wr) (hrow : IRow w2 (w.heap.size + 1) v2 (nI q ++ [x])) (hx : x = (y : Int)) (hg : (wr.alloc (.cells #[.int .i64 x] 3)).grownBy w2 v.ownBlock) (hb : Below (w.heap.size + 1) wr w2) : SpS w bx B nB o v2 (q ++ [y]) w2 := by
  refine ⟨h.1.below hb (Nat.lt_succ_self _), ?_, ?_, grown_below h.2.2.2 hb (Nat.le_succ _)⟩
  · rw [nI_append]; subst hx; exact hrow
  · exact (h.2.2.1.alloc _).kept hg (h.2.2.1.row h.2.1)
theorem NrS.below {base : Nat} (h : NrS base v A nl wr) (hb : Below wr.heap.size wr w2) : NrS base v A nl w2 := ⟨h.1.keep hb, h.2⟩
theorem NrS.del {base : Nat} (h : NrS base v A nl wr) (hk : Keys wr B nB o) (hg : wr.grownBy w2 (some B)) : NrS base v A nl w2 := by
  refine ⟨fun hx => ?_, h.2⟩
  obtain ⟨g, rest, e, hw⟩ := h.1 hx
  exact ⟨g, rest, e, hw.grown hg (fun e' => hk.whole hw (by cases e'; rfl))⟩
theorem NrS.push {base : Nat} {x : Int} (h : NrS base v A nl wr) (hg : (wr.alloc (.cells #[.int .i64 x] 3)).grownBy w2 v.ownBlock) (hl : v2.ownBlock = v.ownBlock ∨ v2.ownBlock = some (wr.heap.size + 1)) : NrS base v2 A nl w2 := by
  refine ⟨fun hx => ?_, fun hx a ha => ?_⟩
  · obtain ⟨g, rest, e, hw⟩ := h.1 hx
    have hx' : 0 < nl.length := by simpa [ints, nI] using hx
    exact ⟨g, rest, e, (hw.alloc _).grown hg (fun e' => (h.2 hx' _ e).2 e'.symm)⟩
  · obtain ⟨h1, h2⟩ := h.2 hx a ha
    refine ⟨h1, ?_⟩
    obtain ⟨g, rest, e, hw⟩ := h.1 (by simpa [ints, nI] using hx)
    have hlt := hw.lt
    rw [e] at ha
    cases ha
    rcases hl with e1 | e1
    · rw [e1]; exact h2
    · rw [e1]
      intro e2
      cases e2
      simp at hlt
      omega
theorem SpS.shape (h : SpS w bx B nB o v q wr) (hp : 0 < q.length) : ∃ g cap rest, v = .slice (some ⟨g, 0, none⟩) q.length cap ∧ Whole wr g 3 (ints (nI q) ++ rest) := by
  obtain ⟨A, cap, rfl, ho, _⟩ := h.2.1.shape
  obtain ⟨g, rest, rfl, hw⟩ := ho (by rw [ints_length, nI_length]; exact hp)
  exact ⟨g, cap, rest, by rw [nI_length], hw⟩
theorem NrS.shape {base : Nat} (h : NrS base v A nl wr) (hp : 0 < nl.length) : ∃ g rest, A = some ⟨g, 0, none⟩ ∧ Whole wr g 3 (ints (nI nl) ++ rest) := by
  obtain ⟨g, rest, e, hw⟩ := h.1 (by rw [ints_length, nI_length]; exact hp)
  exact ⟨g, rest, e, hw⟩
theorem row_num {g : Nat} {q : List Nat} {rest : List Value} (h : Whole wr g 3 (ints (nI q) ++ rest)) {k : Nat} (hk : k < q.length) : wr.cell? ⟨g, k, none⟩ = some (.int .i64 (q[k] : Int)) := by
  rw [h.cell k, List.getElem?_append_left (by rw [ints_length, nI_length]; exact hk), nI_at q k hk]
end Go.Proofs.YtpfjbecpfdgnpabDoor
namespace Go.Proofs.YtpfjbecpfdgnpabDoor
open Go.ChangeShapes Go.WideShapes Go.ChangeAt Go.RowKit Go.Joins Go.Deep
set_option linter.unusedSimpArgs false
set_option linter.unusedVariables false
set_option maxRecDepth 100000
set_option maxHeartbeats 4000000
end Go.Proofs.YtpfjbecpfdgnpabDoor
namespace Go.Proofs.YtpfjbecpfdgnpabDoor
open Go.ChangeShapes Go.WideShapes Go.ChangeAt Go.RowKit Go.Joins Go.Deep
set_option linter.unusedSimpArgs false
set_option linter.unusedVariables false
set_option maxRecDepth 100000
set_option maxHeartbeats 1000000
theorem IRow.form {w : World} {base : Nat} {v : Value} {l : List Int} (h : IRow w base v l) (hp : 0 < l.length) : ∃ g cap, v = .slice (some ⟨g, 0, none⟩) l.length cap ∧ base ≤ g := by
  rcases h.2 with ⟨_, h0⟩ | ⟨g, cap, cur, e, h1, _⟩
  · omega
  · exact ⟨g, cap, e, h1⟩
theorem IRow.mono {w : World} {base base' : Nat} {v : Value} {l : List Int} (h : IRow w base v l) (hb : base' ≤ base) : IRow w base' v l := by
  refine ⟨h.1, ?_⟩
  rcases h.2 with h2 | ⟨g, cap, cur, e, h1, h3⟩
  · exact .inl h2
  · exact .inr ⟨g, cap, cur, e, Nat.le_trans hb h1, h3⟩
theorem nI_toNat (q : List Nat) : (nI q).map Int.toNat = q := by
  unfold nI
  rw [List.map_map]
  exact (List.map_congr_left (fun x _ => by simp)).trans (List.map_id q)
theorem sorted_nI {n : Nat} {q : List Nat} (hd : q.Nodup) (hl : ∀ x ∈ q, x < n) : ((nI q).mergeSort fun x y => decide (x ≤ y)) = nI (sortN n q) := by
  have hp := List.mergeSort_perm (nI q) (fun x y => decide (x ≤ y))
  have hs := List.pairwise_mergeSort (le := fun x y : Int => decide (x ≤ y)) (fun a b c h1 h2 => by simp at *; omega) (fun a b => by simp; omega) (nI q)
  generalize hr : ((nI q).mergeSort fun x y => decide (x ≤ y)) = r at *
  have h0 : ∀ x ∈ r, 0 ≤ x := by
    intro x hx
    have := hp.mem_iff.1 hx
    unfold nI at this
    obtain ⟨k, _, rfl⟩ := List.mem_map.1 this
    omega
  have e : r.map Int.toNat = sortN n q := by
    refine sortN_of_perm ((hp.map _).trans (by rw [nI_toNat])) ?_ hd hl
    rw [List.pairwise_map]
    exact hs.imp (fun h => by simp at h; omega)
  rw [← e]
  unfold nI
  rw [List.map_map]
  exact ((List.map_congr_left (fun x hx => by have := h0 x hx; simp; omega)).trans (List.map_id r)).symm
end Go.Proofs.YtpfjbecpfdgnpabDoor
namespace Go.Proofs.YtpfjbecpfdgnpabDoor
open Go.ChangeShapes Go.WideShapes Go.ChangeAt Go.RowKit Go.Joins Go.Deep
set_option linter.unusedSimpArgs false
set_option linter.unusedVariables false
set_option maxRecDepth 100000
set_option maxHeartbeats 2000000
theorem grown_new {w w' : World} {B0 B : Nat} (hg : w.grownBy w' (some B)) (h0 : B0 ≤ w.heap.size) (hB : B0 ≤ B) : Below B0 w w' := (Below.refl B0 w).grown hg h0 (fun k hk => by cases hk; exact hB)
theorem J_opn (l : List (Int × Int)) (i : Nat) : J l i = opn (J l) [] [] i := by simp [opn]
end Go.Proofs.YtpfjbecpfdgnpabDoor
namespace Go.Proofs.YtpfjbecpfdgnpabDoor
open Go.ChangeShapes Go.WideShapes Go.ChangeAt Go.RowKit Go.Joins Go.Deep
set_option linter.unusedSimpArgs false
set_option linter.unusedVariables false
set_option maxRecDepth 100000
set_option maxHeartbeats 1000000
def numV (n : Nat) (G : List (List Nat)) : List Int := (List.range n).map fun j => num G 0 j
theorem numV_len (n : Nat) (G : List (List Nat)) : (numV n G).length = n := by simp [numV]
theorem numV_at {n : Nat} {G : List (List Nat)} {j : Nat} (h : j < n) : (ints (numV n G))[j]? = some (.int .i64 (num G 0 j)) := by
  unfold numV ints
  rw [List.map_map, List.getElem?_map, List.getElem?_range h]
  rfl
theorem numV_nil (n : Nat) : ints (numV n []) = List.replicate n (.int .i64 (-1)) := by
  unfold numV ints
  rw [List.map_map, List.eq_replicate_iff]
  exact ⟨by simp, fun b hb => by obtain ⟨j, _, rfl⟩ := List.mem_map.1 hb; rfl⟩
theorem numV_set {n : Nat} {G : List (List Nat)} {q : List Nat} {y : Nat} (hv : y ∉ G.flatten) (hq : y ∉ q) : (ints (numV n (G ++ [q]))).set y (.int .i64 (G.length : Int)) = ints (numV n (G ++ [q ++ [y]])) := by
  apply List.ext_getElem?
  intro j
  rw [List.getElem?_set]
  by_cases hj : j < n
  · rw [numV_at hj, numV_at hj]
    have hl : (ints (numV n (G ++ [q]))).length = n := by rw [ints_length, numV_len]
    rw [num_snoc, num_snoc]
    by_cases e : y = j
    · subst e
      simp [hl, hj, hv]
    · have e' : ¬ j = y := fun h => e h.symm
      simp only [e, if_false, List.mem_append, List.mem_singleton, e', or_false]
  · have n1 : (ints (numV n (G ++ [q ++ [y]])))[j]? = none := by rw [List.getElem?_eq_none]; rw [ints_length, numV_len]; omega
    have n2 : (ints (numV n (G ++ [q])))[j]? = none := by rw [List.getElem?_eq_none]; rw [ints_length, numV_len]; omega
    rw [n1, n2]
    split
    · rw [if_neg (by rw [ints_length, numV_len]; omega)]
    · rfl
theorem numV_empty {n : Nat} {G : List (List Nat)} : numV n (G ++ [[]]) = numV n G := by
  unfold numV
  refine List.map_congr_left fun j _ => ?_
  rw [num_snoc]
  by_cases h : j ∈ G.flatten
  · rw [if_pos h]
  · rw [if_neg h, if_neg (by simp), num_lone G 0 ((num_neg G 0).2 h)]
/-- 'gear and not yet numbered' is 'still open'. -/
theorem opn_num {J : Nat → Bool} {G : List (List Nat)} {q : List Nat} {y : Nat} : opn J G.flatten q y = (J y && decide (num (G ++ [q]) 0 y < 0)) := by
  rw [Bool.eq_iff_iff, opn_iff, Bool.and_eq_true, decide_eq_true_eq, num_neg, flatten_snoc, List.mem_append]
  constructor
  · rintro ⟨a, b, c⟩; exact ⟨a, fun h => h.elim b c⟩
  · rintro ⟨a, b⟩; exact ⟨a, fun h => b (.inl h), fun h => b (.inr h)⟩
theorem gat_len (J : Nat → Bool) (near : Nat → List Nat) (n : Nat) : ∀ k, (gat J near n k).length ≤ k
  | 0 => Nat.le_refl _
  | k + 1 => by
    have := gat_len J near n k
    show (gst J near n (gat J near n k) k).length ≤ k + 1
    unfold gst
    split
    · rw [List.length_append, List.length_singleton]; omega
    · omega
def GsS (w : World) (bx : List Value) (n base : Nat) (G : List (List Nat)) (v : Value) (q : List Nat) (wr : World) : Prop :=
  Whole wr w.heap.size 32 bx ∧ Whole wr (w.heap.size + 1) 3 (ints (numV n (G ++ [q]))) ∧ IRow wr base v (nI q) ∧ Below w.heap.size w wr ∧ w.heap.size + 1 < base
variable {w wr w2 : World} {bx : List Value} {n base : Nat} {G : List (List Nat)} {v v2 : Value} {q nl : List Nat} {A : Option Addr}
theorem GsS.below (h : GsS w bx n base G v q wr) (hb : Below wr.heap.size wr w2) : GsS w bx n base G v q w2 :=
  ⟨h.1.below hb h.1.lt, h.2.1.below hb h.2.1.lt, h.2.2.1.keep hb, h.2.2.2.1.trans (hb.mono h.2.2.2.1.size), h.2.2.2.2⟩
theorem irow_ne {l : List Int} (h : IRow wr base v l) {g : Nat} (hg : g < base) : v.ownBlock ≠ some g := by
  rcases h.2 with ⟨rfl, _⟩ | ⟨k, cap, cur, rfl, hk, _⟩
  · simp [Value.ownBlock]
  · simp [Value.ownBlock]; omega
theorem irow_setCell {l : List Int} (h : IRow wr base v l) {g j : Nat} (hg : g < base) (u : Value) : IRow (wr.setCell ⟨g, j, none⟩ u) base v l := by
  refine ⟨h.1, ?_⟩
  rcases h.2 with h2 | ⟨k, cap, cur, e, hk, hh, h3⟩
  · exact .inl h2
  · exact .inr ⟨k, cap, cur, e, hk, (Below.heap_setCell wr ⟨g, j, none⟩ u k (by show k ≠ g; omega)).trans hh, h3⟩
theorem GsS.push {y : Nat} (h : GsS w bx n base G v q wr) (hv : y ∉ G.flatten) (hq : y ∉ q) (hrow : IRow w2 base v2 (nI q ++ [(y : Int)])) (hb : Below base (wr.setCell ⟨w.heap.size + 1, y, none⟩ (.int .i64 (G.length : Int))) w2) : GsS w bx n base G v2 (q ++ [y]) w2 := by
  obtain ⟨h1, h2, h3, h4, h5⟩ := h
  have e := h2.set y (.int .i64 (G.length : Int))
  rw [numV_set hv hq] at e
  have x1 : Whole (wr.setCell ⟨w.heap.size + 1, y, none⟩ (.int .i64 (G.length : Int))) w.heap.size 32 bx := (Below.heap_setCell wr ⟨w.heap.size + 1, y, none⟩ _ w.heap.size (by show w.heap.size ≠ w.heap.size + 1; omega)).trans h1
  refine ⟨x1.below hb (by omega), e.below hb h5, by rw [nI_append]; exact hrow, ?_, h5⟩
  exact (h4.setCell (p := ⟨w.heap.size + 1, y, none⟩) (by show w.heap.size ≤ w.heap.size + 1; omega) _).trans (hb.mono (by omega))
theorem NrS.setCell {g j : Nat} {u : Value} (h : NrS base v A nl wr) (hg : g < base) : NrS base v A nl (wr.setCell ⟨g, j, none⟩ u) := by
  refine ⟨fun hx => ?_, h.2⟩
  obtain ⟨k, rest, e, hw⟩ := h.1 hx
  refine ⟨k, rest, e, (Below.heap_setCell wr ⟨g, j, none⟩ u k ?_).trans hw⟩
  have := (h.2 (by simpa [ints, nI] using hx) _ e).1
  show k ≠ g
  simp at this
  omega
theorem GsS.shape (h : GsS w bx n base G v q wr) (hp : 0 < q.length) : ∃ g cap rest, v = .slice (some ⟨g, 0, none⟩) q.length cap ∧ Whole wr g 3 (ints (nI q) ++ rest) := by
  obtain ⟨A, cap, rfl, ho, _⟩ := h.2.2.1.shape
  obtain ⟨g, rest, rfl, hw⟩ := ho (by rw [ints_length, nI_length]; exact hp)
  exact ⟨g, cap, rest, by rw [nI_length], hw⟩
theorem irow_lit {x : Int} {h : Nat} (hh : wr.heap[h]? = some (.cells #[.int .i64 x] 3 (0, 0))) : IRow wr h (.slice (some ⟨h, 0, none⟩) 1 1) [x] :=
  ⟨rfl, .inr ⟨h, 1, #[.int .i64 x], rfl, Nat.le_refl _, hh, Nat.le_refl _, by unfold maxLen; omega, rfl, rfl⟩⟩
/-- .. where the literal's block is spelled otherwise. -/
theorem wpList_push_at {w : World} {ops : Array Oper} {rest : List Oper} {o : Oper} {a : Act} {Q : Exit → Act → World → Prop} {base g : Nat} {v : Value} {l : List Int} {x0 : Int} (hrow : IRow w base v l) (hn : l.length ≤ 1048576) (hbase : base ≤ w.heap.size) (hg : g = w.heap.size)
    (hgd : o.guard = none) (s x : Operand) (ho : o.op = .call { callee := .builtin .append, args := #[s, x], argTypes := #[40, 40] })
    (hs : a.eval s = v) (hx : a.eval x = .slice (some ⟨g, 0, none⟩) 1 1)
    (h : ∀ v' w', IRow w' base v' (l ++ [x0]) → (w.alloc (.cells #[.int .i64 x0] 3)).grownBy w' v.ownBlock → Below base w w' → (v'.ownBlock = v.ownBlock ∨ v'.ownBlock = some (w.heap.size + 1)) → wpList Tryd.prog ops Q rest (a.put o.dst v') w') :
    wpList Tryd.prog ops Q (o :: rest) a (w.alloc (.cells #[.int .i64 x0] 3)) := by
  subst hg
  exact wpList_push hrow hn hbase hgd s x ho hs hx h
end Go.Proofs.YtpfjbecpfdgnpabDoor
namespace Go.Proofs.YtpfjbecpfdgnpabDoor
open Go.ChangeShapes Go.WideShapes Go.ChangeAt Go.RowKit Go.Joins Go.Deep
set_option linter.unusedSimpArgs false
set_option linter.unusedVariables false
set_option maxRecDepth 100000
set_option maxHeartbeats 4000000
def numL (c : Nat) (l : List (Int × Int)) : List Int := numV l.length (gat (J l) (nearL c l.length) l.length l.length)
def fillM (n k : Nat) : List Value := List.replicate k (.int .i64 (-1)) ++ List.replicate (n - k) (.int .i64 0)
theorem fill_at {n k : Nat} (h : k < n) : (fillM n k)[k]? = some (.int .i64 0) := by
  unfold fillM
  rw [List.getElem?_append_right (by simp), List.length_replicate, Nat.sub_self, List.getElem?_replicate, if_pos (by omega)]
theorem fill_set {n k : Nat} (h : k < n) : (fillM n k).set k (.int .i64 (-1)) = fillM n (k + 1) := by
  apply List.ext_getElem?
  intro j
  unfold fillM
  rw [List.getElem?_set]
  simp only [List.getElem?_append, List.getElem?_replicate, List.length_append, List.length_replicate]
  by_cases e : k = j
  · subst e
    simp
    omega
  · rw [if_neg e]
    by_cases h1 : j < k
    · simp [h1, show j < k + 1 by omega]
    · have h2 : ¬ j < k + 1 := by omega
      simp only [h1, h2, if_false]
      by_cases h3 : j < n
      · rw [if_pos (by omega), if_pos (by omega)]
      · rw [if_neg (by omega), if_neg (by omega)]
end Go.Proofs.YtpfjbecpfdgnpabDoor
namespace Go.Proofs.YtpfjbecpfdgnpabDoor
open Go.ChangeShapes Go.WideShapes Go.ChangeAt Go.RowKit Go.Joins Go.Deep
set_option linter.unusedSimpArgs false
set_option linter.unusedVariables false
set_option maxRecDepth 100000
set_option maxHeartbeats 2000000
def okJ (R C : Int) (l : List (Int × Int)) (i j : Int) : Bool := hasB R C l i j && joins (l.getD (atI C i j) (0, 0)).1
theorem okJ_parts {R C : Int} {l : List (Int × Int)} {i j : Int} (h : okJ R C l i j = true) : goodB R C l = true ∧ inB R C i j = true ∧ J l (atI C i j) = true := by
  unfold okJ at h
  rw [Bool.and_eq_true] at h
  obtain ⟨a, b⟩ := hasB_and h.1
  exact ⟨a, b, h.2⟩
theorem geo_of {R C : Int} {l : List (Int × Int)} (h : goodB R C l = true) : ∃ r c : Nat, R = (r : Int) ∧ C = (c : Int) ∧ Geo r c l.length := by
  obtain ⟨hs, hl, _⟩ := goodB_iff.1 h
  obtain ⟨s1, s2, s3, s4⟩ := sizeB_iff.1 hs
  refine ⟨R.toNat, C.toNat, by omega, by omega, by omega, by omega, by omega, by omega, ?_⟩
  have e : ((R.toNat * C.toNat : Nat) : Int) = R * C := by
    rw [Int.natCast_mul]
    rw [show (R.toNat : Int) = R by omega, show (C.toNat : Int) = C by omega]
  omega
def GG (C : Int) (l : List (Int × Int)) : List (List Nat) := gat (J l) (nearL C.toNat l.length) l.length l.length
def nmb (C : Int) (l : List (Int × Int)) (x : Nat) : Int := num (GG C l) 0 x
theorem groups_all {r c : Nat} {l : List (Int × Int)} (hG : Geo r c l.length) : Groups (J l) (nearL c l.length) l.length l.length (GG (c : Int) l) := by
  unfold GG
  rw [Int.toNat_natCast]
  exact groups_at hG.near hG.sym l.length (Nat.le_refl _)
def grpL (C : Int) (l : List (Int × Int)) (k : Nat) : List Nat := (List.range l.length).filter fun x => decide (nmb C l x = nmb C l k)
/-- The group that the program takes from a cell is that of the cell's number. -/
theorem grp_of_cell {r c k : Nat} {l : List (Int × Int)} (hG : Geo r c l.length) (hk : k < l.length) (hJ : J l k = true) : sortN l.length (brs (J l) (nearL c l.length) [] [k] l.length) = grpL (c : Int) l k := by
  have hA := groups_all hG
  obtain ⟨g, hg, hkg⟩ := List.mem_flatten.1 (hA.all k hk hJ)
  obtain ⟨m, hm, rfl⟩ := List.getElem_of_mem hg
  have e1 : nmb (c : Int) l k = ((0 + m : Nat) : Int) := (num_is _ 0 m hA.apart (List.getElem?_eq_getElem hm)).2 hkg
  unfold sortN grpL
  refine List.filter_congr fun x _ => ?_
  rw [e1, Bool.eq_iff_iff, List.contains_iff_mem, decide_eq_true_eq, hA.each _ hg k hkg x]
  exact (num_is _ 0 m hA.apart (List.getElem?_eq_getElem hm)).symm
end Go.Proofs.YtpfjbecpfdgnpabDoor
namespace Go.Proofs.YtpfjbecpfdgnpabDoor
open Go.ChangeShapes Go.WideShapes Go.ChangeAt Go.RowKit Go.Joins Go.Deep
set_option linter.unusedSimpArgs false
set_option linter.unusedVariables false
set_option maxRecDepth 100000
set_option maxHeartbeats 2000000
def groupB (R C : Int) (l : List (Int × Int)) (i j : Int) : List Int := if okJ R C l i j then nI (grpL C l (atI C i j)) else []
theorem grpL_len (C : Int) (l : List (Int × Int)) (k : Nat) : (grpL C l k).length ≤ l.length := by
  unfold grpL
  have := List.length_filter_le (fun x => decide (nmb C l x = nmb C l k)) (List.range l.length)
  rwa [List.length_range] at this
theorem groupB_len (R C : Int) (l : List (Int × Int)) (i j : Int) (h : l.length ≤ 1048576) : (groupB R C l i j).length ≤ 1048576 := by
  unfold groupB
  split
  · rw [nI_length]
    have := grpL_len C l (atI C i j)
    omega
  · simp
theorem PostL.of_irow {w w' : World} {l : List Int} {v : Value} {base : Nat} (h : IRow w' base v l) (hbase : w.heap.size ≤ base) (hb : Below w.heap.size w w') (ok : Bool) : PostL w l ok (.returned (.tuple #[v, .bool ok])) w' := by
  obtain ⟨A', cap', rfl, ho, hn⟩ := h.shape
  exact PostL.mk ho (fun a ha => Nat.le_trans hbase (hn a ha)) hb
theorem PostL.of_post {w w1 w' : World} {l : List Int} {v : Value} (h : PostI w1 l (.returned v) w') (hb : Below w.heap.size w w1) (ok : Bool) : PostL w l ok (.returned (.tuple #[v, .bool ok])) w' := by
  obtain ⟨A', cap', e, ho, hn, hb'⟩ := h
  cases e
  exact PostL.mk ho (hn.mono hb.size) (hb.trans (hb'.mono hb.size))
theorem PostI.value {w w' : World} {l : List Int} {e : Ending} (h : PostI w l e w') : ∃ A cap, e = .returned (.slice A l.length cap) ∧ Own w' A 3 (ints l) ∧ New w A ∧ Below w.heap.size w w' := h
def numsTo (C : Int) (l : List (Int × Int)) (k m : Nat) : List Nat := (List.range m).filter fun x => decide (nmb C l x = nmb C l k)
theorem numsTo_yes {C : Int} {l : List (Int × Int)} {k m : Nat} (h : nmb C l m = nmb C l k) : numsTo C l k (m + 1) = numsTo C l k m ++ [m] := by
  unfold numsTo
  rw [List.range_succ, List.filter_append]
  simp [h]
theorem numsTo_no {C : Int} {l : List (Int × Int)} {k m : Nat} (h : ¬ nmb C l m = nmb C l k) : numsTo C l k (m + 1) = numsTo C l k m := by
  unfold numsTo
  rw [List.range_succ, List.filter_append]
  simp [h]
theorem numsTo_len (C : Int) (l : List (Int × Int)) (k m : Nat) : (numsTo C l k m).length ≤ m := by
  unfold numsTo
  have := List.length_filter_le (fun x => decide (nmb C l x = nmb C l k)) (List.range m)
  rwa [List.length_range] at this
theorem numL_at {c : Nat} {l : List (Int × Int)} {x : Nat} (h : x < l.length) : (ints (numL c l))[x]? = some (.int .i64 (nmb (c : Int) l x)) := by
  unfold numL nmb GG
  rw [Int.toNat_natCast]
  exact numV_at h
theorem numL_len (c : Nat) (l : List (Int × Int)) : (numL c l).length = l.length := numV_len _ _
end Go.Proofs.YtpfjbecpfdgnpabDoor
namespace Go.Proofs.YtpfjbecpfdgnpabDoor
open Go.ChangeShapes Go.WideShapes Go.ChangeAt Go.RowKit Go.Joins Go.Deep
set_option linter.unusedSimpArgs false
set_option linter.unusedVariables false
set_option maxRecDepth 100000
set_option maxHeartbeats 2000000
def okJJ (R C : Int) (l : List (Int × Int)) (i j i2 j2 : Int) : Bool := okJ R C l i j && okJ R C l i2 j2
def joinedB (R C : Int) (l : List (Int × Int)) (i j i2 j2 : Int) : Bool := okJJ R C l i j i2 j2 && decide (nmb C l (atI C i j) = nmb C l (atI C i2 j2))
theorem ret_two {a b c d : Bool} (h1 : a = c) (h2 : b = d) : Ending.returned (.tuple #[.bool a, .bool b]) = .returned (.tuple #[.bool c, .bool d]) := by rw [h1, h2]
theorem grpL_has {c k m : Nat} {l : List (Int × Int)} (hm : m < l.length) : ((nI (grpL (c : Int) l k)).take (nI (grpL (c : Int) l k)).length).contains (m : Int) = decide (nmb (c : Int) l k = nmb (c : Int) l m) := by
  rw [List.take_length, Bool.eq_iff_iff, List.contains_iff_mem, decide_eq_true_eq]
  unfold nI grpL
  rw [List.mem_map]
  constructor
  · rintro ⟨x, hx, e⟩
    rw [List.mem_filter, decide_eq_true_eq] at hx
    have : x = m := by omega
    subst this
    exact hx.2.symm
  · intro h
    exact ⟨m, List.mem_filter.2 ⟨List.mem_range.2 hm, by rw [decide_eq_true_eq]; exact h.symm⟩, rfl⟩
theorem grpL_pos {c k : Nat} {l : List (Int × Int)} (hk : k < l.length) : 0 < (grpL (c : Int) l k).length :=
  List.length_pos_of_mem (List.mem_filter.2 ⟨List.mem_range.2 hk, by rw [decide_eq_true_eq]⟩)
end Go.Proofs.YtpfjbecpfdgnpabDoor
namespace Go.Proofs.YtpfjbecpfdgnpabDoor
open Go.ChangeShapes Go.WideShapes Go.ChangeAt Go.RowKit Go.Joins Go.Deep
set_option linter.unusedSimpArgs false
set_option linter.unusedVariables false
set_option maxRecDepth 100000
set_option maxHeartbeats 1000000
theorem listInfo : (Tryd.prog.info? 40).map (fun i => (i.zero, i.size, i.bytes)) = some (some (.slice none 0 0), 1, 24) := by kernel_rfl
/-- The value v is a list of lists of numbers, all of the call's own, whose memory lies from block base on. -/
def LRow (w : World) (base : Nat) (v : Value) (L : List (List Nat)) : Prop :=
  ∃ hs : List Value, hs.length = L.length ∧ w.ownsRow base 40 1 v L.length hs ∧
    ∀ k (h : k < L.length), ∃ A cap, hs[k]? = some (.slice A L[k].length cap) ∧ Own w A 3 (ints (nI L[k])) ∧ ∀ a, A = some a → base ≤ a.block
theorem LRow.nil {w : World} {base : Nat} : LRow w base (.slice none 0 0) [] := ⟨[], rfl, World.ownsRow_nil _ _ _ _, fun k h => absurd h (Nat.not_lt_zero k)⟩
theorem LRow.keep {w w' : World} {base : Nat} {v : Value} {L : List (List Nat)} (h : LRow w base v L) (hb : Below w.heap.size w w') : LRow w' base v L := by
  obtain ⟨hs, h1, h2, h3⟩ := h
  refine ⟨hs, h1, row_keep h2 hb, fun k hk => ?_⟩
  obtain ⟨A, cap, e, ho, hg⟩ := h3 k hk
  exact ⟨A, cap, e, ho.keep hb, hg⟩
theorem Own.keys {w w' : World} {A : Option Addr} {t : TypeId} {xs : List Value} {B nB : Nat} {o : Nat → Bool} (h : Own w A t xs) (hk : Keys w B nB o) (hg : w.grownBy w' (some B)) : Own w' A t xs := fun hx => by
  obtain ⟨g, rest, e, hw⟩ := h hx
  exact ⟨g, rest, e, hw.grown hg (fun e' => hk.whole hw (by cases e'; rfl))⟩
theorem LRow.del {w w' : World} {base : Nat} {v : Value} {L : List (List Nat)} {B nB : Nat} {o : Nat → Bool} (h : LRow w base v L) (hk : Keys w B nB o) (hg : w.grownBy w' (some B)) : LRow w' base v L := by
  obtain ⟨hs, h1, h2, h3⟩ := h
  refine ⟨hs, h1, World.ownsRow.kept h2 hg (.inr fun e => hk.row h2 e.symm), fun k hk' => ?_⟩
  obtain ⟨A, cap, e, ho, hb⟩ := h3 k hk'
  exact ⟨A, cap, e, ho.keys hk hg, hb⟩
theorem one_oneL {A : Option Addr} {n cap : Nat} : ∀ u ∈ [Value.slice A n cap], u.oneCell' = true := by
  intro u hu
  simp only [List.mem_cons, List.not_mem_nil, or_false] at hu
  rw [hu]; rfl
theorem LRow.mono {w : World} {base base' : Nat} {v : Value} {L : List (List Nat)} (h : LRow w base v L) (hb : base' ≤ base) : LRow w base' v L := by
  obtain ⟨hs, h1, h2, h3⟩ := h
  refine ⟨hs, h1, ⟨h2.1, ?_⟩, fun k hk => ?_⟩
  · rcases h2.2 with h4 | ⟨g, cap, cur, e, h5, h6⟩
    · exact .inl h4
    · exact .inr ⟨g, cap, cur, e, Nat.le_trans hb h5, h6⟩
  · obtain ⟨A, cap, e, ho, hg⟩ := h3 k hk
    exact ⟨A, cap, e, ho, fun a ha => Nat.le_trans hb (hg a ha)⟩
end Go.Proofs.YtpfjbecpfdgnpabDoor
namespace Go.Proofs.YtpfjbecpfdgnpabDoor
open Go.ChangeShapes Go.WideShapes Go.ChangeAt Go.RowKit Go.Joins Go.Deep
set_option linter.unusedSimpArgs false
set_option linter.unusedVariables false
set_option maxRecDepth 100000
set_option maxHeartbeats 2000000
theorem opn_flat (J : Nat → Bool) (G : List (List Nat)) (q : List Nat) (i : Nat) : opn J (G ++ [q]).flatten [] i = opn J G.flatten q i := by
  rw [Bool.eq_iff_iff, opn_iff, opn_iff, flatten_snoc, List.mem_append]
  constructor
  · rintro ⟨a, b, _⟩; exact ⟨a, fun h => b (.inl h), fun h => b (.inr h)⟩
  · rintro ⟨a, b, c⟩; exact ⟨a, fun h => h.elim b c, List.not_mem_nil⟩
end Go.Proofs.YtpfjbecpfdgnpabDoor
namespace Go.Proofs.YtpfjbecpfdgnpabDoor
open Go.ChangeShapes Go.WideShapes Go.ChangeAt Go.RowKit Go.Joins Go.Deep
set_option linter.unusedSimpArgs false
set_option linter.unusedVariables false
set_option maxRecDepth 100000
set_option maxHeartbeats 2000000
def mostF (n k : Int) : Int := if k + 1 < n then n else k + 1
def most (xs : List Int) : Int := xs.foldl mostF 0
theorem mostF_le (a k : Int) : a ≤ mostF a k ∧ k + 1 ≤ mostF a k ∧ (mostF a k = a ∨ mostF a k = k + 1) := by
  unfold mostF
  split
  · exact ⟨by omega, by omega, .inl rfl⟩
  · exact ⟨by omega, by omega, .inr rfl⟩
theorem fold_most : ∀ (xs : List Int) (a : Int), a ≤ xs.foldl mostF a ∧ (∀ k ∈ xs, k + 1 ≤ xs.foldl mostF a) ∧ (xs.foldl mostF a = a ∨ ∃ k ∈ xs, xs.foldl mostF a = k + 1)
  | [], a => ⟨Int.le_refl _, fun k hk => absurd hk List.not_mem_nil, .inl rfl⟩
  | x :: xs, a => by
    obtain ⟨h1, h2, h3⟩ := fold_most xs (mostF a x)
    obtain ⟨m1, m2, m3⟩ := mostF_le a x
    show a ≤ xs.foldl mostF (mostF a x) ∧ (∀ k ∈ x :: xs, k + 1 ≤ xs.foldl mostF (mostF a x)) ∧ (xs.foldl mostF (mostF a x) = a ∨ ∃ k ∈ x :: xs, xs.foldl mostF (mostF a x) = k + 1)
    refine ⟨by omega, fun k hk => ?_, ?_⟩
    · rcases List.mem_cons.1 hk with e | e
      · subst e; omega
      · exact h2 k e
    · rcases h3 with e | ⟨k, hk, e⟩
      · rcases m3 with e' | e'
        · exact .inl (by omega)
        · exact .inr ⟨x, List.mem_cons_self .., by omega⟩
      · exact .inr ⟨k, List.mem_cons_of_mem _ hk, e⟩
theorem most_take {xs : List Int} {k : Nat} (h : k < xs.length) : most (xs.take (k + 1)) = mostF (most (xs.take k)) xs[k] := by
  unfold most
  rw [List.take_succ_eq_append_getElem h, List.foldl_append]
  rfl
theorem most_num {r c : Nat} {l : List (Int × Int)} (hG : Geo r c l.length) : most (numL c l) = ((GG (c : Int) l).length : Int) := by
  have hA := groups_all hG
  obtain ⟨h1, h2, h3⟩ := fold_most (numL c l) 0
  have hval : ∀ k ∈ numL c l, ∃ x, x < l.length ∧ k = num (GG (c : Int) l) 0 x := by
    intro k hk
    unfold numL numV at hk
    obtain ⟨x, hx, rfl⟩ := List.mem_map.1 hk
    exact ⟨x, List.mem_range.1 hx, by unfold GG; rw [Int.toNat_natCast]⟩
  have hmem : ∀ x, x < l.length → num (GG (c : Int) l) 0 x ∈ numL c l := by
    intro x hx
    unfold numL numV GG
    rw [Int.toNat_natCast]
    exact List.mem_map.2 ⟨x, List.mem_range.2 hx, rfl⟩
  show (numL c l).foldl mostF 0 = _
  generalize hm : (numL c l).foldl mostF 0 = m at *
  rcases Nat.eq_zero_or_pos (GG (c : Int) l).length with hz | hp
  · rcases h3 with e | ⟨k, hk, e⟩
    · omega
    · obtain ⟨x, _, rfl⟩ := hval k hk
      have := (num_ge (j := x) (GG (c : Int) l) 0).2
      omega
  · have hle : m ≤ ((GG (c : Int) l).length : Int) := by
      rcases h3 with e | ⟨k, hk, e⟩
      · omega
      · obtain ⟨x, _, rfl⟩ := hval k hk
        have := (num_ge (j := x) (GG (c : Int) l) 0).2
        omega
    have hlast : (GG (c : Int) l).length - 1 < (GG (c : Int) l).length := by omega
    have hg := List.getElem_mem hlast
    have hne := hA.some_ _ hg
    obtain ⟨x, hx⟩ := List.exists_mem_of_ne_nil _ hne
    have hxn := (hA.cells _ hg x hx).1
    have e1 := (num_is (j := x) _ 0 _ hA.apart (List.getElem?_eq_getElem hlast)).2 hx
    have := h2 _ (hmem x hxn)
    omega
theorem numL_range {c : Nat} {l : List (Int × Int)} (hn : l.length ≤ 90) : ∀ x ∈ numL c l, -1 ≤ x ∧ x ≤ 1048576 := by
  intro k hk
  unfold numL numV at hk
  obtain ⟨x, hx, rfl⟩ := List.mem_map.1 hk
  have h1 := num_ge (j := x) (gat (J l) (nearL c l.length) l.length l.length) 0
  have h2 := gat_len (J l) (nearL c l.length) l.length l.length
  omega
def cntB (R C : Int) (l : List (Int × Int)) : Int := selI (goodB R C l) ((GG C l).length : Int)
theorem LRow.shape {w : World} {base : Nat} {v : Value} {L : List (List Nat)} (h : LRow w base v L) : ∃ A cap, v = .slice A L.length cap := by
  obtain ⟨hs, _, h2, _⟩ := h
  exact slice_of_row h2
end Go.Proofs.YtpfjbecpfdgnpabDoor
namespace Go.Proofs.YtpfjbecpfdgnpabDoor
open Go.ChangeShapes Go.WideShapes Go.ChangeAt Go.RowKit Go.Joins Go.Deep
set_option linter.unusedSimpArgs false
set_option linter.unusedVariables false
set_option maxRecDepth 100000
set_option maxHeartbeats 2000000
def repR (v : Int) (n m : Nat) : List Value := List.replicate m (.int .i64 v) ++ List.replicate (n - m) (.int .i64 0)
theorem repR_len {v : Int} {n m : Nat} (h : m ≤ n) : (repR v n m).length = n := by simp [repR]; omega
theorem repR_splice {v : Int} {n m c : Nat} (h : m + c ≤ n) : splice (repR v n m) m (List.replicate c (.int .i64 v)) = repR v n (m + c) := by
  unfold splice repR
  rw [List.take_append_of_le_length (by simp), List.take_of_length_le (by simp), List.length_replicate, List.drop_append, List.drop_eq_nil_of_le (by simp), List.nil_append, List.length_replicate, List.drop_replicate, ← List.append_assoc, List.replicate_append_replicate]
  congr 2
  omega
theorem repR_at {v : Int} {n m j : Nat} (h : j < m) : (repR v n m)[j]? = some (.int .i64 v) := by
  unfold repR
  rw [List.getElem?_append_left (by simpa using h), List.getElem?_replicate, if_pos h]
theorem intSize : ((Tryd.prog.info? 3).map (·.size)) = some 1 := by
  obtain ⟨i0, hi, hz0, hz1, hz2⟩ := info_parts intInfo
  rw [hi]
  simp [hz1]
theorem wpList_copy_rep {w : World} {ops : Array Oper} {rest : List Oper} {o : Oper} {a : Act} {Q : Exit → Act → World → Prop} (hgd : o.guard = none) (d s : Operand)
    (ho : o.op = .call { callee := .builtin .copy, args := #[d, s], argTypes := #[40, 40] }) (g off dLen dCap sb so sLen sCap : Nat) (hd : a.eval d = .slice (some ⟨g, off, none⟩) dLen dCap) (hs : a.eval s = .slice (some ⟨sb, so, none⟩) sLen sCap)
    (cur : List Value) (hg : Whole w g 3 cur) (c : Nat) (v : Int) (hn : c = min sLen dLen) (hsrc : ∀ j, j < c → w.cell? ⟨sb, so + j, none⟩ = some (.int .i64 v)) (hfit : off + c ≤ cur.length) (B : Nat) (w0 : World) (hb : Below B w0 w) (hBg : B ≤ g)
    (h : ∀ w', Hid (Whole w' g 3 (splice cur off (List.replicate c (.int .i64 v)))) → Below B w0 w' → wpList Tryd.prog ops Q rest (a.put o.dst (goInt c)) w') : wpList Tryd.prog ops Q (o :: rest) a w :=
    wpList_copy_splice hgd d s _ _ ho 3 Tryd.underlying40 intSize _ _ dLen dCap sLen sCap hd hs g off cur 3 hg (List.replicate c (.int .i64 v))
      (by rw [List.length_replicate]; exact hn) (fun _ => ⟨rfl, ⟨sb, so, none⟩, rfl, fun j u hu => by
        have hj := (List.getElem?_eq_some_iff.1 hu).1
        rw [List.length_replicate] at hj
        rw [List.getElem?_replicate, if_pos hj] at hu
        rw [add_plain, hsrc j hj]
        exact hu⟩) (by rw [List.length_replicate]; exact hfit) (fun u hu => by rw [List.mem_replicate] at hu; rw [hu.2]; rfl) B w0 hb hBg (fun w' h1 h2 => by rw [List.length_replicate]; exact h w' h1 h2)
theorem step_copy_rep {ops : Array Oper} {o : Oper} {a : Act} {w : World} {K : Act → World → Prop} {Q : Exit → Act → World → Prop} {E : Prop} (hgd : o.guard = none) (d s : Operand)
    (ho : o.op = .call { callee := .builtin .copy, args := #[d, s], argTypes := #[40, 40] }) (g off dLen dCap sb so sLen sCap : Nat) (hd : a.eval d = .slice (some ⟨g, off, none⟩) dLen dCap) (hs : a.eval s = .slice (some ⟨sb, so, none⟩) sLen sCap)
    (cur : List Value) (hg : Whole w g 3 cur) (c : Nat) (v : Int) (hn : c = min sLen dLen) (hsrc : ∀ j, j < c → w.cell? ⟨sb, so + j, none⟩ = some (.int .i64 v)) (hfit : off + c ≤ cur.length) (B : Nat) (w0 : World) (hb : Below B w0 w) (hBg : B ≤ g)
    (h : ∀ w', Hid (Whole w' g 3 (splice cur off (List.replicate c (.int .i64 v)))) → Below B w0 w' → K (a.put o.dst (goInt c)) w') : if Region.wanted o (yielded ops a.tmps) = true then Oper.wp Tryd.prog o a w K Q else E :=
    step_copy_splice hgd d s _ _ ho 3 Tryd.underlying40 intSize _ _ dLen dCap sLen sCap hd hs g off cur 3 hg (List.replicate c (.int .i64 v))
      (by rw [List.length_replicate]; exact hn) (fun _ => ⟨rfl, ⟨sb, so, none⟩, rfl, fun j u hu => by
        have hj := (List.getElem?_eq_some_iff.1 hu).1
        rw [List.length_replicate] at hj
        rw [List.getElem?_replicate, if_pos hj] at hu
        rw [add_plain, hsrc j hj]
        exact hu⟩) (by rw [List.length_replicate]; exact hfit) (fun u hu => by rw [List.mem_replicate] at hu; rw [hu.2]; rfl) B w0 hb hBg (fun w' h1 h2 => by rw [List.length_replicate]; exact h w' h1 h2)
end Go.Proofs.YtpfjbecpfdgnpabDoor
