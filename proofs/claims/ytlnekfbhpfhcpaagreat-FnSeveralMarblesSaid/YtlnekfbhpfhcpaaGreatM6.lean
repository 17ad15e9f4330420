/- Contracts of the program and of the model, walked, part 6 of 10. No condition but what each says. -/
import Derived.Test.YtlnekfbhpfhcpaaGreatM4
import Derived.Test.YtlnekfbhpfhcpaaGreatM5
import Derived.Lib.SlicesCompact
import Derived.Lib.RowBridge
import Derived.Test.YtlnekfbhpfhcpaaGreatM2
import Derived.Deep.RegionHeld3
import Derived.Test.YtlnekfbhpfhcpaaGreatM3
namespace Go.Proofs.YtlnekfbhpfhcpaaGreat
open Go.ChangeShapes Go.WideShapes Go.ChangeAt Go.RowKit Go.Joins Go.Deep
set_option linter.unusedSimpArgs false
set_option linter.unusedVariables false
set_option maxRecDepth 100000
set_option maxHeartbeats 4000000
theorem own_fall {w : World} {k : Nat} {A : Option Addr} {x : List (Int × Int × Int)} (ho : Own w A 50 (flatF x)) (hk : k < x.length) : ∃ g, A = some ⟨g, 0, none⟩ ∧ g < w.heap.size ∧ w.cell? ⟨g, k * 3, none⟩ = some (.int .i64 (x.getD k (0, 0, 0)).1) ∧ w.cell? ⟨g, k * 3 + 1, none⟩ = some (.int .i64 (x.getD k (0, 0, 0)).2.1) ∧ w.cell? ⟨g, k * 3 + 2, none⟩ = some (.int .i64 (x.getD k (0, 0, 0)).2.2) := by
  obtain ⟨g, rest, rfl, X⟩ := ho (by rw [flatF_len]; omega)
  obtain ⟨h0, h1, h2⟩ := flatF_at x k hk
  have hlen := flatF_len x
  refine ⟨g, rfl, X.lt, (X.cell _).trans ?_, (X.cell _).trans ?_, (X.cell _).trans ?_⟩
  · rw [List.getElem?_append_left (by omega)]; exact h0
  · rw [List.getElem?_append_left (by omega)]; exact h1
  · rw [List.getElem?_append_left (by omega)]; exact h2
theorem okD_and (R C : Int) (l : List (Int × Int)) (R' C' : Int) (m : List (Int × Int)) (cs : List Int) : okD R C l R' C' m cs = (okC' R C l cs && okC' R' C' m cs && decide (C = C')) := by
  unfold okD
  by_cases hC : C = C'
  · subst hC
    rw [decide_eq_true rfl, Bool.and_true, Bool.and_true]
    unfold okC'
    cases goodB R C l <;> cases goodB R' C m <;> cases decide (cs.length ≤ 60) <;> cases allI 0 (C - 1) cs <;> rfl
  · rw [decide_eq_false hC, Bool.and_false, Bool.and_false]
theorem impl_FirstDifferent_bad (R C : Int) (A : Option Addr) (cap : Nat) (l : List (Int × Int)) (R' C' : Int) (A' : Option Addr) (cap' : Nat) (m : List (Int × Int)) (A2 : Option Addr) (cap2 : Nat) (cs : List Int) (w : World) (hn : l.length ≤ 1048576) (hr : Rd w w.heap.size A (flat l)) (hm : m.length ≤ 1048576) (hr' : Rd w w.heap.size A' (flat m)) (hn' : cs.length ≤ 1048576) (hrc : Rd w w.heap.size A2 (ints cs)) {x y : Bool} (hc : okC' R C l cs = x) (hmx : okC' R' C' m cs = y) (hxy : (x && y) = false) :
    Calls Tryz.prog 18 #[.agg #[.int .i64 R, .int .i64 C, .slice A l.length cap], .agg #[.int .i64 R', .int .i64 C', .slice A' m.length cap'], .slice A2 cs.length cap2] w fun e w' => e = .returned (.tuple #[.int .i64 0, .bool false]) ∧ Below w.heap.size w w' := by
  have HC := Lib.hid hc
  have HM := Lib.hid hmx
  clear hc hmx
  cases x
  · cases y
    · ((go_enter Tryz.func18, Tryz.ntmps18; obtain ⟨v0, hv0, X0, X1, B0, hz0⟩ := two_boxes w [.int .i64 R, .int .i64 C, .slice A l.length cap] 25 [.int .i64 R', .int .i64 C', .slice A' m.length cap'] 25; have HV := Lib.hid hv0; have hz : w.heap.size + 1 < v0.heap.size := (by omega); have hy : w.heap.size < v0.heap.size := (by omega); have hb0 := B0.size; clear hv0 hz0; go_wp2_with fail; rewrite [show (w.alloc (.cells ([.int .i64 R, .int .i64 C, .slice A l.length cap] : List Value).toArray 25)).alloc (.cells ([.int .i64 R', .int .i64 C', .slice A' m.length cap'] : List Value).toArray 25) = v0 from HV.out]; clear HV; refine (impl_FallsOf _ _ _ _ l _ _ cs _ hn ((hr.below B0).mono B0.size) hn' ((hrc.below B0).mono B0.size)).mono ?_; rintro e w1 ⟨Ax, cx, A5, c5, rfl, Ox, Nx, O5, N5, b1⟩; clear O5 N5 Nx; rewrite [HC.out]; replace X0 := X0.below b1 X0.lt; replace X1 := X1.below b1 X1.lt; replace B0 := B0.trans (b1.mono B0.size); have hy := X0.lt; have hz := X1.lt; have hb0 := B0.size; clear b1; have X1k0 : w1.cell? ⟨w.heap.size + 1, 0, none⟩ = some (.int .i64 R') := (X1.cell 0).trans rfl; have X1k1 : w1.cell? ⟨w.heap.size + 1, 1, none⟩ = some (.int .i64 C') := (X1.cell 1).trans rfl; have X1k2 : w1.cell? ⟨w.heap.size + 1, 2, none⟩ = some (.slice A' m.length cap') := (X1.cell 2).trans rfl; go_wp2_with fail; clear X1k0 X1k1 X1k2; refine (impl_FallsOf _ _ _ _ m _ _ cs _ hm ((hr'.below (B0.alloc hb0 _)).mono (B0.alloc hb0 _).size) hn' ((hrc.below (B0.alloc hb0 _)).mono (B0.alloc hb0 _).size)).mono ?_; rintro e w2 ⟨Ay, cy, A6, c6, rfl, Oy, Ny, O6, N6, b2⟩; clear O6 N6 Ny; rewrite [HM.out]; replace Ox := (Ox.alloc_ _).keep b2; replace B0 := (B0.alloc hb0 _).trans (b2.mono (B0.alloc hb0 _).size); replace X0 := (X0.alloc _).below b2 (X0.alloc _).lt; replace X1 := (X1.alloc _).below b2 (X1.alloc _).lt; replace hb0 := B0.size; clear b2 hy hz; have hy := X0.lt; have hz := X1.lt; have X0k0 : w2.cell? ⟨w.heap.size, 0, none⟩ = some (.int .i64 R) := (X0.cell 0).trans rfl; have X0k1 : w2.cell? ⟨w.heap.size, 1, none⟩ = some (.int .i64 C) := (X0.cell 1).trans rfl; have X0k2 : w2.cell? ⟨w.heap.size, 2, none⟩ = some (.slice A l.length cap) := (X0.cell 2).trans rfl; have X1k0 : w2.cell? ⟨w.heap.size + 1, 0, none⟩ = some (.int .i64 R') := (X1.cell 0).trans rfl; have X1k1 : w2.cell? ⟨w.heap.size + 1, 1, none⟩ = some (.int .i64 C') := (X1.cell 1).trans rfl; have X1k2 : w2.cell? ⟨w.heap.size + 1, 2, none⟩ = some (.slice A' m.length cap') := (X1.cell 2).trans rfl); clear Ox Oy; go_wp2; go_returns; exact ⟨rfl, by (repeat' (first | (with_reducible exact Below.refl _ _) | (with_reducible assumption) | (with_reducible refine Below.alloc ?_ ?_ _) | (with_reducible refine Below.setCell ?_ ?_ _) | (with_reducible refine Below.drew ?_) | (with_reducible refine below_drewN ?_ _) | (with_reducible refine Below.trans ?_ (Below.mono (by assumption) ?_)) | (with_reducible exact Nat.le_refl _) | (simp; done) | omega | (simp at *; omega)))⟩)
    · ((go_enter Tryz.func18, Tryz.ntmps18; obtain ⟨v0, hv0, X0, X1, B0, hz0⟩ := two_boxes w [.int .i64 R, .int .i64 C, .slice A l.length cap] 25 [.int .i64 R', .int .i64 C', .slice A' m.length cap'] 25; have HV := Lib.hid hv0; have hz : w.heap.size + 1 < v0.heap.size := (by omega); have hy : w.heap.size < v0.heap.size := (by omega); have hb0 := B0.size; clear hv0 hz0; go_wp2_with fail; rewrite [show (w.alloc (.cells ([.int .i64 R, .int .i64 C, .slice A l.length cap] : List Value).toArray 25)).alloc (.cells ([.int .i64 R', .int .i64 C', .slice A' m.length cap'] : List Value).toArray 25) = v0 from HV.out]; clear HV; refine (impl_FallsOf _ _ _ _ l _ _ cs _ hn ((hr.below B0).mono B0.size) hn' ((hrc.below B0).mono B0.size)).mono ?_; rintro e w1 ⟨Ax, cx, A5, c5, rfl, Ox, Nx, O5, N5, b1⟩; clear O5 N5 Nx; rewrite [HC.out]; replace X0 := X0.below b1 X0.lt; replace X1 := X1.below b1 X1.lt; replace B0 := B0.trans (b1.mono B0.size); have hy := X0.lt; have hz := X1.lt; have hb0 := B0.size; clear b1; have X1k0 : w1.cell? ⟨w.heap.size + 1, 0, none⟩ = some (.int .i64 R') := (X1.cell 0).trans rfl; have X1k1 : w1.cell? ⟨w.heap.size + 1, 1, none⟩ = some (.int .i64 C') := (X1.cell 1).trans rfl; have X1k2 : w1.cell? ⟨w.heap.size + 1, 2, none⟩ = some (.slice A' m.length cap') := (X1.cell 2).trans rfl; go_wp2_with fail; clear X1k0 X1k1 X1k2; refine (impl_FallsOf _ _ _ _ m _ _ cs _ hm ((hr'.below (B0.alloc hb0 _)).mono (B0.alloc hb0 _).size) hn' ((hrc.below (B0.alloc hb0 _)).mono (B0.alloc hb0 _).size)).mono ?_; rintro e w2 ⟨Ay, cy, A6, c6, rfl, Oy, Ny, O6, N6, b2⟩; clear O6 N6 Ny; rewrite [HM.out]; replace Ox := (Ox.alloc_ _).keep b2; replace B0 := (B0.alloc hb0 _).trans (b2.mono (B0.alloc hb0 _).size); replace X0 := (X0.alloc _).below b2 (X0.alloc _).lt; replace X1 := (X1.alloc _).below b2 (X1.alloc _).lt; replace hb0 := B0.size; clear b2 hy hz; have hy := X0.lt; have hz := X1.lt; have X0k0 : w2.cell? ⟨w.heap.size, 0, none⟩ = some (.int .i64 R) := (X0.cell 0).trans rfl; have X0k1 : w2.cell? ⟨w.heap.size, 1, none⟩ = some (.int .i64 C) := (X0.cell 1).trans rfl; have X0k2 : w2.cell? ⟨w.heap.size, 2, none⟩ = some (.slice A l.length cap) := (X0.cell 2).trans rfl; have X1k0 : w2.cell? ⟨w.heap.size + 1, 0, none⟩ = some (.int .i64 R') := (X1.cell 0).trans rfl; have X1k1 : w2.cell? ⟨w.heap.size + 1, 1, none⟩ = some (.int .i64 C') := (X1.cell 1).trans rfl; have X1k2 : w2.cell? ⟨w.heap.size + 1, 2, none⟩ = some (.slice A' m.length cap') := (X1.cell 2).trans rfl); clear Ox Oy; go_wp2; go_returns; exact ⟨rfl, by (repeat' (first | (with_reducible exact Below.refl _ _) | (with_reducible assumption) | (with_reducible refine Below.alloc ?_ ?_ _) | (with_reducible refine Below.setCell ?_ ?_ _) | (with_reducible refine Below.drew ?_) | (with_reducible refine below_drewN ?_ _) | (with_reducible refine Below.trans ?_ (Below.mono (by assumption) ?_)) | (with_reducible exact Nat.le_refl _) | (simp; done) | omega | (simp at *; omega)))⟩)
  · cases y
    · ((go_enter Tryz.func18, Tryz.ntmps18; obtain ⟨v0, hv0, X0, X1, B0, hz0⟩ := two_boxes w [.int .i64 R, .int .i64 C, .slice A l.length cap] 25 [.int .i64 R', .int .i64 C', .slice A' m.length cap'] 25; have HV := Lib.hid hv0; have hz : w.heap.size + 1 < v0.heap.size := (by omega); have hy : w.heap.size < v0.heap.size := (by omega); have hb0 := B0.size; clear hv0 hz0; go_wp2_with fail; rewrite [show (w.alloc (.cells ([.int .i64 R, .int .i64 C, .slice A l.length cap] : List Value).toArray 25)).alloc (.cells ([.int .i64 R', .int .i64 C', .slice A' m.length cap'] : List Value).toArray 25) = v0 from HV.out]; clear HV; refine (impl_FallsOf _ _ _ _ l _ _ cs _ hn ((hr.below B0).mono B0.size) hn' ((hrc.below B0).mono B0.size)).mono ?_; rintro e w1 ⟨Ax, cx, A5, c5, rfl, Ox, Nx, O5, N5, b1⟩; clear O5 N5 Nx; rewrite [HC.out]; replace X0 := X0.below b1 X0.lt; replace X1 := X1.below b1 X1.lt; replace B0 := B0.trans (b1.mono B0.size); have hy := X0.lt; have hz := X1.lt; have hb0 := B0.size; clear b1; have X1k0 : w1.cell? ⟨w.heap.size + 1, 0, none⟩ = some (.int .i64 R') := (X1.cell 0).trans rfl; have X1k1 : w1.cell? ⟨w.heap.size + 1, 1, none⟩ = some (.int .i64 C') := (X1.cell 1).trans rfl; have X1k2 : w1.cell? ⟨w.heap.size + 1, 2, none⟩ = some (.slice A' m.length cap') := (X1.cell 2).trans rfl; go_wp2_with fail; clear X1k0 X1k1 X1k2; refine (impl_FallsOf _ _ _ _ m _ _ cs _ hm ((hr'.below (B0.alloc hb0 _)).mono (B0.alloc hb0 _).size) hn' ((hrc.below (B0.alloc hb0 _)).mono (B0.alloc hb0 _).size)).mono ?_; rintro e w2 ⟨Ay, cy, A6, c6, rfl, Oy, Ny, O6, N6, b2⟩; clear O6 N6 Ny; rewrite [HM.out]; replace Ox := (Ox.alloc_ _).keep b2; replace B0 := (B0.alloc hb0 _).trans (b2.mono (B0.alloc hb0 _).size); replace X0 := (X0.alloc _).below b2 (X0.alloc _).lt; replace X1 := (X1.alloc _).below b2 (X1.alloc _).lt; replace hb0 := B0.size; clear b2 hy hz; have hy := X0.lt; have hz := X1.lt; have X0k0 : w2.cell? ⟨w.heap.size, 0, none⟩ = some (.int .i64 R) := (X0.cell 0).trans rfl; have X0k1 : w2.cell? ⟨w.heap.size, 1, none⟩ = some (.int .i64 C) := (X0.cell 1).trans rfl; have X0k2 : w2.cell? ⟨w.heap.size, 2, none⟩ = some (.slice A l.length cap) := (X0.cell 2).trans rfl; have X1k0 : w2.cell? ⟨w.heap.size + 1, 0, none⟩ = some (.int .i64 R') := (X1.cell 0).trans rfl; have X1k1 : w2.cell? ⟨w.heap.size + 1, 1, none⟩ = some (.int .i64 C') := (X1.cell 1).trans rfl; have X1k2 : w2.cell? ⟨w.heap.size + 1, 2, none⟩ = some (.slice A' m.length cap') := (X1.cell 2).trans rfl); clear Ox Oy; go_wp2; go_returns; exact ⟨rfl, by (repeat' (first | (with_reducible exact Below.refl _ _) | (with_reducible assumption) | (with_reducible refine Below.alloc ?_ ?_ _) | (with_reducible refine Below.setCell ?_ ?_ _) | (with_reducible refine Below.drew ?_) | (with_reducible refine below_drewN ?_ _) | (with_reducible refine Below.trans ?_ (Below.mono (by assumption) ?_)) | (with_reducible exact Nat.le_refl _) | (simp; done) | omega | (simp at *; omega)))⟩)
    · cases hxy
theorem impl_FirstDifferent_ne (R C : Int) (A : Option Addr) (cap : Nat) (l : List (Int × Int)) (R' C' : Int) (A' : Option Addr) (cap' : Nat) (m : List (Int × Int)) (A2 : Option Addr) (cap2 : Nat) (cs : List Int) (w : World) (hn : l.length ≤ 1048576) (hr : Rd w w.heap.size A (flat l)) (hm : m.length ≤ 1048576) (hr' : Rd w w.heap.size A' (flat m)) (hn' : cs.length ≤ 1048576) (hrc : Rd w w.heap.size A2 (ints cs)) (hc : okC' R C l cs = true) (hmx : okC' R' C' m cs = true) (hC : ¬ C = C') :
    Calls Tryz.prog 18 #[.agg #[.int .i64 R, .int .i64 C, .slice A l.length cap], .agg #[.int .i64 R', .int .i64 C', .slice A' m.length cap'], .slice A2 cs.length cap2] w fun e w' => e = .returned (.tuple #[.int .i64 0, .bool false]) ∧ Below w.heap.size w w' := by
  have HC := Lib.hid hc
  have HM := Lib.hid hmx
  have hCb : (C != C') = true := by simpa using hC
  clear hc hmx
  ((go_enter Tryz.func18, Tryz.ntmps18; obtain ⟨v0, hv0, X0, X1, B0, hz0⟩ := two_boxes w [.int .i64 R, .int .i64 C, .slice A l.length cap] 25 [.int .i64 R', .int .i64 C', .slice A' m.length cap'] 25; have HV := Lib.hid hv0; have hz : w.heap.size + 1 < v0.heap.size := (by omega); have hy : w.heap.size < v0.heap.size := (by omega); have hb0 := B0.size; clear hv0 hz0; go_wp2_with fail; rewrite [show (w.alloc (.cells ([.int .i64 R, .int .i64 C, .slice A l.length cap] : List Value).toArray 25)).alloc (.cells ([.int .i64 R', .int .i64 C', .slice A' m.length cap'] : List Value).toArray 25) = v0 from HV.out]; clear HV; refine (impl_FallsOf _ _ _ _ l _ _ cs _ hn ((hr.below B0).mono B0.size) hn' ((hrc.below B0).mono B0.size)).mono ?_; rintro e w1 ⟨Ax, cx, A5, c5, rfl, Ox, Nx, O5, N5, b1⟩; clear O5 N5 Nx; rewrite [HC.out]; replace X0 := X0.below b1 X0.lt; replace X1 := X1.below b1 X1.lt; replace B0 := B0.trans (b1.mono B0.size); have hy := X0.lt; have hz := X1.lt; have hb0 := B0.size; clear b1; have X1k0 : w1.cell? ⟨w.heap.size + 1, 0, none⟩ = some (.int .i64 R') := (X1.cell 0).trans rfl; have X1k1 : w1.cell? ⟨w.heap.size + 1, 1, none⟩ = some (.int .i64 C') := (X1.cell 1).trans rfl; have X1k2 : w1.cell? ⟨w.heap.size + 1, 2, none⟩ = some (.slice A' m.length cap') := (X1.cell 2).trans rfl; go_wp2_with fail; clear X1k0 X1k1 X1k2; refine (impl_FallsOf _ _ _ _ m _ _ cs _ hm ((hr'.below (B0.alloc hb0 _)).mono (B0.alloc hb0 _).size) hn' ((hrc.below (B0.alloc hb0 _)).mono (B0.alloc hb0 _).size)).mono ?_; rintro e w2 ⟨Ay, cy, A6, c6, rfl, Oy, Ny, O6, N6, b2⟩; clear O6 N6 Ny; rewrite [HM.out]; replace Ox := (Ox.alloc_ _).keep b2; replace B0 := (B0.alloc hb0 _).trans (b2.mono (B0.alloc hb0 _).size); replace X0 := (X0.alloc _).below b2 (X0.alloc _).lt; replace X1 := (X1.alloc _).below b2 (X1.alloc _).lt; replace hb0 := B0.size; clear b2 hy hz; have hy := X0.lt; have hz := X1.lt; have X0k0 : w2.cell? ⟨w.heap.size, 0, none⟩ = some (.int .i64 R) := (X0.cell 0).trans rfl; have X0k1 : w2.cell? ⟨w.heap.size, 1, none⟩ = some (.int .i64 C) := (X0.cell 1).trans rfl; have X0k2 : w2.cell? ⟨w.heap.size, 2, none⟩ = some (.slice A l.length cap) := (X0.cell 2).trans rfl; have X1k0 : w2.cell? ⟨w.heap.size + 1, 0, none⟩ = some (.int .i64 R') := (X1.cell 0).trans rfl; have X1k1 : w2.cell? ⟨w.heap.size + 1, 1, none⟩ = some (.int .i64 C') := (X1.cell 1).trans rfl; have X1k2 : w2.cell? ⟨w.heap.size + 1, 2, none⟩ = some (.slice A' m.length cap') := (X1.cell 2).trans rfl); clear Ox Oy; go_wp2; go_returns; exact ⟨rfl, by (repeat' (first | (with_reducible exact Below.refl _ _) | (with_reducible assumption) | (with_reducible refine Below.alloc ?_ ?_ _) | (with_reducible refine Below.setCell ?_ ?_ _) | (with_reducible refine Below.drew ?_) | (with_reducible refine below_drewN ?_ _) | (with_reducible refine Below.trans ?_ (Below.mono (by assumption) ?_)) | (with_reducible exact Nat.le_refl _) | (simp; done) | omega | (simp at *; omega)))⟩)
theorem impl_FirstDifferent_good (R C : Int) (A : Option Addr) (cap : Nat) (l : List (Int × Int)) (R' C' : Int) (A' : Option Addr) (cap' : Nat) (m : List (Int × Int)) (A2 : Option Addr) (cap2 : Nat) (cs : List Int) (w : World) (hn : l.length ≤ 1048576) (hr : Rd w w.heap.size A (flat l)) (hm : m.length ≤ 1048576) (hr' : Rd w w.heap.size A' (flat m)) (hn' : cs.length ≤ 1048576) (hrc : Rd w w.heap.size A2 (ints cs)) (hc : okC' R C l cs = true) (hmx : okC' R' C' m cs = true) (hC : C = C') :
    Calls Tryz.prog 18 #[.agg #[.int .i64 R, .int .i64 C, .slice A l.length cap], .agg #[.int .i64 R', .int .i64 C', .slice A' m.length cap'], .slice A2 cs.length cap2] w fun e w' => e = .returned (.tuple #[.int .i64 ((firstAt (fallsO R C l cs).1 (fallsO R' C' m cs).1 (fallsO R C l cs).1.length 0).getD 0 : Nat), .bool (firstAt (fallsO R C l cs).1 (fallsO R' C' m cs).1 (fallsO R C l cs).1.length 0).isSome]) ∧ Below w.heap.size w w' := by
  have HC := Lib.hid hc
  have HM := Lib.hid hmx
  have HFx := Lib.hid (show (fallsO R C l cs).1.length = cs.length by unfold fallsO; rw [hc, if_pos rfl]; exact (stA_len _ _ _ _ _ _).1)
  have HFy := Lib.hid (show (fallsO R' C' m cs).1.length = cs.length by unfold fallsO; rw [hmx, if_pos rfl]; exact (stA_len _ _ _ _ _ _).1)
  subst hC
  clear hc hmx
  replace HFy := Lib.hid (HFy.out.trans HFx.out.symm)
  have HA0 := impl_FallsOf R C A cap l A2 cap2 cs
  have HB0 := impl_FallsOf R' C A' cap' m A2 cap2 cs
  generalize (fallsO R C l cs).1 = fx at *
  generalize (fallsO R' C m cs).1 = fy at *
  generalize (fallsO R C l cs).2 = lx at *
  generalize (fallsO R' C m cs).2 = ly at *
  have HA := Lib.hid (fun w h1 h2 h3 h4 => HA0 w h1 h2 h3 h4)
  have HB := Lib.hid (fun w h1 h2 h3 h4 => HB0 w h1 h2 h3 h4)
  clear HA0 HB0
  go_enter Tryz.func18, Tryz.ntmps18
  obtain ⟨v0, hv0, X0, X1, B0, hz0⟩ := two_boxes w [.int .i64 R, .int .i64 C, .slice A l.length cap] 25 [.int .i64 R', .int .i64 C, .slice A' m.length cap'] 25; have HV := Lib.hid hv0; have hz : w.heap.size + 1 < v0.heap.size := (by omega); have hy : w.heap.size < v0.heap.size := (by omega); have hb0 := B0.size; clear hv0 hz0; go_wp2_with fail; rewrite [show (w.alloc (.cells ([.int .i64 R, .int .i64 C, .slice A l.length cap] : List Value).toArray 25)).alloc (.cells ([.int .i64 R', .int .i64 C, .slice A' m.length cap'] : List Value).toArray 25) = v0 from HV.out]; clear HV
  refine (HA.out _ hn ((hr.below B0).mono B0.size) hn' ((hrc.below B0).mono B0.size)).mono ?_; rintro e w1 ⟨Ax, cx, A5, c5, rfl, Ox, Nx, O5, N5, b1⟩
  clear O5 N5 Nx
  rewrite [HC.out]
  replace X0 := X0.below b1 X0.lt; replace X1 := X1.below b1 X1.lt; replace B0 := B0.trans (b1.mono B0.size); have hy := X0.lt; have hz := X1.lt; have hb0 := B0.size; clear b1
  have X1k0 : w1.cell? ⟨w.heap.size + 1, 0, none⟩ = some (.int .i64 R') := (X1.cell 0).trans rfl; have X1k1 : w1.cell? ⟨w.heap.size + 1, 1, none⟩ = some (.int .i64 C) := (X1.cell 1).trans rfl; have X1k2 : w1.cell? ⟨w.heap.size + 1, 2, none⟩ = some (.slice A' m.length cap') := (X1.cell 2).trans rfl
  go_wp2_with fail
  clear X1k0 X1k1 X1k2
  refine (HB.out _ hm ((hr'.below (B0.alloc hb0 _)).mono (B0.alloc hb0 _).size) hn' ((hrc.below (B0.alloc hb0 _)).mono (B0.alloc hb0 _).size)).mono ?_; rintro e w2 ⟨Ay, cy, A6, c6, rfl, Oy, Ny, O6, N6, b2⟩
  clear O6 N6 Ny
  rewrite [HM.out]
  replace Ox := (Ox.alloc_ _).keep b2
  replace B0 := (B0.alloc hb0 _).trans (b2.mono (B0.alloc hb0 _).size)
  replace X0 := (X0.alloc _).below b2 (X0.alloc _).lt
  replace X1 := (X1.alloc _).below b2 (X1.alloc _).lt
  replace hb0 := B0.size
  clear b2 hy hz
  have hy := X0.lt
  have hz := X1.lt
  have X0k0 : w2.cell? ⟨w.heap.size, 0, none⟩ = some (.int .i64 R) := (X0.cell 0).trans rfl; have X0k1 : w2.cell? ⟨w.heap.size, 1, none⟩ = some (.int .i64 C) := (X0.cell 1).trans rfl; have X0k2 : w2.cell? ⟨w.heap.size, 2, none⟩ = some (.slice A l.length cap) := (X0.cell 2).trans rfl
  have X1k0 : w2.cell? ⟨w.heap.size + 1, 0, none⟩ = some (.int .i64 R') := (X1.cell 0).trans rfl; have X1k1 : w2.cell? ⟨w.heap.size + 1, 1, none⟩ = some (.int .i64 C) := (X1.cell 1).trans rfl; have X1k2 : w2.cell? ⟨w.heap.size + 1, 2, none⟩ = some (.slice A' m.length cap') := (X1.cell 2).trans rfl
  clear HA HB
  go_upto_region 6 with (fail)
  clear X0k0 X0k1 X0k2
  clear X1k0 X1k1 X1k2
  clear X0 X1
  generalize hv7 : World.alloc _ _ = v7
  have b7 : Below w2.heap.size w2 v7 := by rw [← hv7]; exact (Below.refl _ _).alloc (Nat.le_refl _) _
  clear hv7
  replace Ox := Ox.keep b7
  replace Oy := Oy.keep b7
  replace B0 := B0.trans (b7.mono hb0)
  clear b7 hb0
  have hfy := HFy.out
  have hmax : fx.length ≤ 1048576 := by have := HFx.out; omega
  go_loopw [45] (fun i wr => ∃ k : Nat, i = .int .i64 k ∧ k ≤ fx.length ∧ firstAt fx fy fx.length 0 = firstAt fx fy (fx.length - k) k ∧ Own wr Ax 50 (flatF fx) ∧ Own wr Ay 50 (flatF fy) ∧ Below w.heap.size w wr) (fun i _ => fx.length - (intOf i).toNat)
  case atStart => exact ⟨0, rfl, Nat.zero_le _, rfl, Ox, Oy, B0⟩
  case round =>
    clear Ox Oy B0
    obtain ⟨k, rfl, hk, hF, hx, hy4, B0⟩ := hrel
    by_cases hlt : k < fx.length
    · have hky : (k : Int) < (fy.length : Int) := by omega
      obtain ⟨gx, rfl, hgx, x0, x1, x2⟩ := own_fall hx hlt
      obtain ⟨gy, rfl, hgy, y0, y1, y2⟩ := own_fall hy4 (show k < fy.length by omega)
      have hs := B0.size
      have HY := Lib.hid (fun e => hF.trans (firstAt_same hlt e))
      have HN := Lib.hid (fun e => hF.trans (firstAt_diff hlt e))
      have hi0 : (0 : Int) ≤ (k : Int) := Int.natCast_nonneg _
      clear hF hfy
      generalize fx.getD k (0, 0, 0) = p at *
      generalize fy.getD k (0, 0, 0) = q at *
      obtain ⟨x, y, z⟩ := p
      obtain ⟨x', y', z'⟩ := q
      dsimp only at x0 x1 x2 y0 y1 y2
      have h0 := heldFall
      have h1 := guardFall
      by_cases hxy : x = x' ∧ y = y' ∧ z = z'
      · obtain ⟨rfl, rfl, rfl⟩ := hxy
        have HX := Lib.hid (HY.out rfl)
        clear HY HN
        go_wp2
        go_quiet (fail)
        go_wp2
        have hb9 : Below wr.heap.size wr ((wr.alloc (.cells #[.int .i64 x, .int .i64 y, .int .i64 z] 50)).drewN nq) := below_drewN ((Below.refl _ _).alloc (Nat.le_refl _) _) _
        first
          | exact ⟨⟨k + 1, by go_num, by omega, HX.out, hx.keep hb9, hy4.keep hb9, B0.trans (hb9.mono hs)⟩, by simp [intOf]; omega⟩
          | (go_roundw
             case rel => exact ⟨k + 1, by go_num, by omega, HX.out, hx.keep hb9, hy4.keep hb9, B0.trans (hb9.mono hs)⟩
             case measure => simp [intOf]; omega)
      · have HX := Lib.hid (HN.out (fun e => hxy (by cases e; exact ⟨rfl, rfl, rfl⟩)))
        by_cases hx0 : x = x'
        · subst hx0
          by_cases hy0 : y = y'
          · subst hy0
            have hz0 : ¬ z = z' := fun e => hxy ⟨rfl, rfl, e⟩
            (clear HY HN hxy; go_wp2; go_quiet (fail); (have hb9 : Below wr.heap.size wr ((wr.alloc (.cells #[.int .i64 x, .int .i64 y, .int .i64 z] 50)).drewN nq) := below_drewN ((Below.refl _ _).alloc (Nat.le_refl _) _) _); go_wp2; go_returns; exact ⟨by (rewrite [HX.out]; rfl), B0.trans (hb9.mono hs)⟩)
          · skip
            (clear HY HN hxy; go_wp2; go_quiet (fail); (have hb9 : Below wr.heap.size wr ((wr.alloc (.cells #[.int .i64 x, .int .i64 y, .int .i64 z] 50)).drewN nq) := below_drewN ((Below.refl _ _).alloc (Nat.le_refl _) _) _); go_wp2; go_returns; exact ⟨by (rewrite [HX.out]; rfl), B0.trans (hb9.mono hs)⟩)
        · skip
          (clear HY HN hxy; go_wp2; go_quiet (fail); (have hb9 : Below wr.heap.size wr ((wr.alloc (.cells #[.int .i64 x, .int .i64 y, .int .i64 z] 50)).drewN nq) := below_drewN ((Below.refl _ _).alloc (Nat.le_refl _) _) _); go_wp2; go_returns; exact ⟨by (rewrite [HX.out]; rfl), B0.trans (hb9.mono hs)⟩)
    · obtain rfl : k = fx.length := by omega
      have HE := Lib.hid (show firstAt fx fy fx.length 0 = none by rw [hF, Nat.sub_self]; rfl)
      clear hF hlt
      go_wp2
      go_returns
      exact ⟨by rewrite [HE.out]; rfl, B0⟩
theorem firstD_falls {R C : Int} {l : List (Int × Int)} {R' C' : Int} {m : List (Int × Int)} {cs : List Int} (hc : okC' R C l cs = true) (hm : okC' R' C' m cs = true) (hC : C = C') : firstD R C l R' C' m cs = firstAt (fallsO R C l cs).1 (fallsO R' C' m cs).1 (fallsO R C l cs).1.length 0 := by
  have e : (fallsO R C l cs).1.length = cs.length := by unfold fallsO; rw [hc, if_pos rfl]; exact (stA_len _ _ _ _ _ _).1
  rw [e]
  unfold firstD fallsO
  rw [okD_and, hc, hm, decide_eq_true hC]
  rfl
theorem firstD_none {R C : Int} {l : List (Int × Int)} {R' C' : Int} {m : List (Int × Int)} {cs : List Int} (h : okD R C l R' C' m cs = false) : firstD R C l R' C' m cs = none := by
  unfold firstD
  rw [h]
  rfl
theorem impl_FirstDifferent (R C : Int) (A : Option Addr) (cap : Nat) (l : List (Int × Int)) (R' C' : Int) (A' : Option Addr) (cap' : Nat) (m : List (Int × Int)) (A2 : Option Addr) (cap2 : Nat) (cs : List Int) (w : World) (hn : l.length ≤ 1048576) (hr : Rd w w.heap.size A (flat l)) (hm : m.length ≤ 1048576) (hr' : Rd w w.heap.size A' (flat m)) (hn' : cs.length ≤ 1048576) (hrc : Rd w w.heap.size A2 (ints cs)) :
    Calls Tryz.prog 18 #[.agg #[.int .i64 R, .int .i64 C, .slice A l.length cap], .agg #[.int .i64 R', .int .i64 C', .slice A' m.length cap'], .slice A2 cs.length cap2] w fun e w' => e = .returned (.tuple #[.int .i64 ((firstD R C l R' C' m cs).getD 0 : Nat), .bool (firstD R C l R' C' m cs).isSome]) ∧ Below w.heap.size w w' := by
  rcases Bool.eq_false_or_eq_true (okC' R C l cs) with hc | hc
  · rcases Bool.eq_false_or_eq_true (okC' R' C' m cs) with hmx | hmx
    · by_cases hC : C = C'
      · rw [firstD_falls hc hmx hC]
        exact impl_FirstDifferent_good R C A cap l R' C' A' cap' m A2 cap2 cs w hn hr hm hr' hn' hrc hc hmx hC
      · rw [firstD_none (by rw [okD_and, decide_eq_false hC, Bool.and_false])]
        exact impl_FirstDifferent_ne R C A cap l R' C' A' cap' m A2 cap2 cs w hn hr hm hr' hn' hrc hc hmx hC
    · rw [firstD_none (by rw [okD_and, hmx, Bool.and_false, Bool.false_and])]
      exact impl_FirstDifferent_bad R C A cap l R' C' A' cap' m A2 cap2 cs w hn hr hm hr' hn' hrc hc hmx rfl
  · rw [firstD_none (by rw [okD_and, hc, Bool.false_and, Bool.false_and])]
    exact impl_FirstDifferent_bad R C A cap l R' C' A' cap' m A2 cap2 cs w hn hr hm hr' hn' hrc hc rfl rfl
end Go.Proofs.YtlnekfbhpfhcpaaGreat
namespace Go.Proofs.YtlnekfbhpfhcpaaGreat
open Go.ChangeShapes Go.WideShapes Go.ChangeAt Go.RowKit Go.Joins Go.Deep
set_option linter.unusedSimpArgs false
set_option linter.unusedVariables false
set_option maxRecDepth 100000
set_option maxHeartbeats 1000000
def cStep (c : Nat) (v : List Int) (f : Int × Int × Int) : List Int :=
  if f.1 = 1 then v.set f.2.2.toNat (v.getD f.2.2.toNat 0 + 1) else if f.1 = 2 then v.set c (v.getD c 0 + 1) else v.set (c + 1) (v.getD (c + 1) 0 + 1)
def cntK (c : Nat) (fs : List (Int × Int × Int)) : Nat → List Int
  | 0 => List.replicate (c + 2) 0
  | k + 1 => cStep c (cntK c fs k) (fs.getD k (0, 0, 0))
theorem cStep_len (c : Nat) (v : List Int) (f : Int × Int × Int) : (cStep c v f).length = v.length := by
  unfold cStep
  split
  · rw [List.length_set]
  · split <;> rw [List.length_set]
theorem cntK_len (c : Nat) (fs : List (Int × Int × Int)) : ∀ k, (cntK c fs k).length = c + 2
  | 0 => by simp [cntK]
  | k + 1 => by rw [cntK, cStep_len]; exact cntK_len c fs k
theorem set_bd {v : List Int} {j : Nat} {b : Int} (h : ∀ i, 0 ≤ v.getD i 0 ∧ v.getD i 0 ≤ b) : ∀ i, 0 ≤ (v.set j (v.getD j 0 + 1)).getD i 0 ∧ (v.set j (v.getD j 0 + 1)).getD i 0 ≤ b + 1 := fun i => by
  have h1 := h i
  have h2 := h j
  rw [List.getD_eq_getElem?_getD, List.getElem?_set]
  by_cases e : j = i
  · rw [if_pos e]
    by_cases hl : j < v.length
    · rw [if_pos hl]
      show 0 ≤ v.getD j 0 + 1 ∧ v.getD j 0 + 1 ≤ b + 1
      omega
    · rw [if_neg hl]
      show (0 : Int) ≤ 0 ∧ (0 : Int) ≤ b + 1
      omega
  · rw [if_neg e, ← List.getD_eq_getElem?_getD]
    omega
theorem cntK_bd (c : Nat) (fs : List (Int × Int × Int)) : ∀ k i, 0 ≤ (cntK c fs k).getD i 0 ∧ (cntK c fs k).getD i 0 ≤ k
  | 0, i => by
    have e : (cntK c fs 0).getD i 0 = 0 := by
      unfold cntK
      rw [List.getD_eq_getElem?_getD, List.getElem?_replicate]
      split <;> rfl
    rw [e]
    omega
  | k + 1, i => by
    have ih := cntK_bd c fs k
    rw [cntK]
    unfold cStep
    push_cast
    split
    · exact set_bd ih i
    · split
      · exact set_bd ih i
      · exact set_bd ih i
def okE (c : Nat) (f : Int × Int × Int) : Prop := (f.1 = 1 ∧ 0 ≤ f.2.2 ∧ f.2.2 < c) ∨ f.1 = 2 ∨ f.1 = 3
theorem flG_okE (nm : List Int) (r c : Nat) : ∀ (n row : Nat) (l : List (Int × Int)) (col : Nat) (side : Int) (way : List (List Nat)), col < c → okE c ((flG nm r c n row l col side way).e, (flG nm r c n row l col side way).row, (flG nm r c n row l col side way).col)
  | 0, _, _, _, _, _, h => .inl ⟨rfl, by show (0 : Int) ≤ ((_ : Nat) : Int); omega, by show (((_ : Nat) : Int)) < _; omega⟩
  | n + 1, row, l, col, side, way, h => by
    rw [flG_step nm r c n row l col side way _ _ rfl rfl]
    split
    · exact .inr (.inl rfl)
    · split
      · next hin => exact flG_okE nm r c n _ _ _ _ _ (by omega)
      · exact .inr (.inr rfl)
theorem stA_okE (nm : List Int) (r c : Nat) (l : List (Int × Int)) (cs : List Int) (hcs : ∀ k, k < cs.length → 0 ≤ cs.getD k 0 ∧ cs.getD k 0 < c) : ∀ k, k ≤ cs.length → ∀ i, i < k → okE c ((stA nm r c l cs k).1.getD i (0, 0, 0))
  | 0, _, i, h => absurd h (Nat.not_lt_zero i)
  | k + 1, hk, i, h => by
    have hl := (stA_len nm r c l cs k).1
    have hc := hcs k (by omega)
    unfold stA
    rw [List.getD_eq_getElem?_getD]
    by_cases e : i < k
    · rw [List.getElem?_append_left (by omega), ← List.getD_eq_getElem?_getD]
      exact stA_okE nm r c l cs hcs k (by omega) i e
    · have e2 : i = k := by omega
      subst e2
      rw [List.getElem?_append_right (by omega), hl, Nat.sub_self]
      exact flG_okE nm r c r 0 _ _ _ _ (by omega)
theorem ints_setI (v : List Int) (j : Nat) (x : Int) : (ints v).set j (.int .i64 x) = ints (v.set j x) := by
  unfold ints
  rw [List.map_set]
theorem zrow_ints (n : Nat) : zrow n = ints (List.replicate n 0) := by
  unfold zrow ints
  rw [List.map_replicate]
theorem ints_getD (v : List Int) (j : Nat) (h : j < v.length) : (ints v)[j]? = some (.int .i64 (v.getD j 0)) := by
  rw [ints_at v j h, List.getD_eq_getElem?_getD, List.getElem?_eq_getElem h]
  rfl
def arrL (R C : Int) (l : List (Int × Int)) (cs : List Int) : List Int := if okC' R C l cs then cntK C.toNat (fallsO R C l cs).1 cs.length else []
theorem arrL_len (R C : Int) (l : List (Int × Int)) (cs : List Int) : (arrL R C l cs).length ≤ 1048576 := by
  unfold arrL
  split
  · next h =>
    obtain ⟨hg, _, _⟩ := okC'_parts h
    obtain ⟨s1, s2, s3, s4⟩ := sizeB_iff.1 (goodB_iff.1 hg).1
    rw [cntK_len]
    omega
  · simp
theorem run_make_c2 (c : Nat) (hc : c ≤ 9) (w : World) :
    (Instr.makeSlice 26 (.int .i64 ((c : Int) + 2)) (.int .i64 ((c : Int) + 2))).run Tryz.prog w = .ok (.slice (some ⟨w.heap.size, 0, none⟩) (c + 2) (c + 2)) (w.alloc (.cells (zrow (c + 2)).toArray 3)) := by
  have h := run_make_ints (c + 2) (by omega) w
  push_cast at h
  exact h
theorem set_row {w : World} {A : Option Addr} {t t' : TypeId} {xs : List Value} {g j : Nat} {ys : List Value} {u : Value} (h : Own w A t xs) (hw : Whole w g t' ys) (hne : t ≠ t') : Own (w.setCell ⟨g, j, none⟩ u) A t xs :=
  h.apart hw hne ⟨rfl, rfl, rfl, by rw [World.size_setCell]; exact Nat.le_refl _, fun k _ hk => Below.heap_setCell _ _ _ _ (fun e => hk (by rw [e]))⟩
end Go.Proofs.YtlnekfbhpfhcpaaGreat
namespace Go.Proofs.YtlnekfbhpfhcpaaGreat
open Go.ChangeShapes Go.WideShapes Go.ChangeAt Go.RowKit Go.Joins Go.Deep
set_option linter.unusedSimpArgs false
set_option linter.unusedVariables false
set_option maxRecDepth 100000
set_option maxHeartbeats 4000000
theorem impl_ArrivalCounts (R C : Int) (A : Option Addr) (cap : Nat) (l : List (Int × Int)) (A' : Option Addr) (cap' : Nat) (cs : List Int) (w : World) (hn : l.length ≤ 1048576) (hr : Rd w w.heap.size A (flat l)) (hn' : cs.length ≤ 1048576) (hrc : Rd w w.heap.size A' (ints cs)) :
    Calls Tryz.prog 7 #[.agg #[.int .i64 R, .int .i64 C, .slice A l.length cap], .slice A' cs.length cap'] w (PostL w (arrL R C l cs) (okC' R C l cs)) := by
  unfold arrL
  rcases Bool.eq_false_or_eq_true (okC' R C l cs) with ho | ho
  · have HO := Lib.hid ho
    obtain ⟨hg, h60, hall⟩ := okC'_parts ho
    obtain ⟨_, _, hpos⟩ := goodB_parts hg
    obtain ⟨b, o, rfl, hbl, hc⟩ := hr (by rw [flat_length]; omega)
    have hr' : Rd w w.heap.size (some ⟨b, o, none⟩) (flat l) := fun _ => ⟨b, o, rfl, hbl, hc⟩
    obtain ⟨r, c, rfl, rfl, hG⟩ := geo_of hg
    obtain ⟨s1, s2, s3, s4⟩ := sizeB_iff.1 (goodB_iff.1 hg).1
    have hfa : (fallsO (r : Int) (c : Int) l cs).1 = (stA (numL c l) r c l cs cs.length).1 := by unfold fallsO; rw [ho]; rfl
    have HLn := Lib.hid (show (fallsO (r : Int) (c : Int) l cs).1.length = cs.length by rw [hfa]; exact (stA_len (numL c l) r c l cs cs.length).1)
    have HOk := Lib.hid (show ∀ k, k < cs.length → okE c ((fallsO (r : Int) (c : Int) l cs).1.getD k (0, 0, 0)) by rw [hfa]; exact stA_okE (numL c l) r c l cs (fun k hk => (show 0 ≤ cs.getD k 0 ∧ cs.getD k 0 < (c : Int) by have := allI_at hall k hk; omega)) cs.length (Nat.le_refl _))
    have HQ0 := impl_FallsOf (r : Int) (c : Int) (some ⟨b, o, none⟩) cap l A' cap' cs
    rw [ho] at HQ0
    rw [ho, if_pos rfl, Int.toNat_natCast]
    clear hfa
    generalize (fallsO (r : Int) (c : Int) l cs).1 = fx at *
    generalize (fallsO (r : Int) (c : Int) l cs).2 = lx at *
    have HQ := Lib.hid (fun w h1 h2 h3 h4 => HQ0 w h1 h2 h3 h4)
    have hmk := run_make_c2 c (by omega)
    have m2 : IntKind.i64.wrap ((c : Int) + 2) = (c : Int) + 2 := IntWalk.i64_in _ (by omega)
    clear ho hr hG HQ0
    go_enter Tryz.func7, Tryz.ntmps7
    obtain ⟨v0, hv0⟩ : ∃ v, v = w.alloc (.cells #[.int .i64 (r : Int), .int .i64 (c : Int), .slice (some ⟨b, o, none⟩) l.length cap] 25) := ⟨_, rfl⟩; have X0 : Whole v0 w.heap.size 25 [.int .i64 (r : Int), .int .i64 (c : Int), .slice (some ⟨b, o, none⟩) l.length cap] := (by rw [hv0]; exact heap_alloc_new w _); have hb : Below w.heap.size w v0 := (by rw [hv0]; exact (Below.refl _ _).alloc (Nat.le_refl _) _); have HV := Lib.hid hv0.symm; clear hv0; go_upto_region 1 with (fail); rewrite [HV.out]; clear HV; have X0k0 : v0.cell? ⟨w.heap.size, 0, none⟩ = some (.int .i64 (r : Int)) := (X0.cell 0).trans rfl; have X0k1 : v0.cell? ⟨w.heap.size, 1, none⟩ = some (.int .i64 (c : Int)) := (X0.cell 1).trans rfl; have X0k2 : v0.cell? ⟨w.heap.size, 2, none⟩ = some (.slice (some ⟨b, o, none⟩) l.length cap) := (X0.cell 2).trans rfl
    go_wp2_with fail
    refine (HQ.out _ hn ((hr'.below hb).mono hb.size) hn' ((hrc.below hb).mono hb.size)).mono ?_; rintro e w1 ⟨Ax, cx, A5, c5, rfl, hx, Nx, O5, N5, b1⟩
    clear O5 N5 Nx HQ
    rewrite [HLn.out]
    (clear X0k0 X0k1 X0k2; replace X0 := X0.below b1 X0.lt; replace hb := hb.trans (b1.mono hb.size); clear b1; have X0k0 : w1.cell? ⟨w.heap.size, 0, none⟩ = some (.int .i64 (r : Int)) := (X0.cell 0).trans rfl; have X0k1 : w1.cell? ⟨w.heap.size, 1, none⟩ = some (.int .i64 (c : Int)) := (X0.cell 1).trans rfl; have X0k2 : w1.cell? ⟨w.heap.size, 2, none⟩ = some (.slice (some ⟨b, o, none⟩) l.length cap) := (X0.cell 2).trans rfl)
    clear X0k0 X0k1 X0k2
    have hs1 := hb.size
    go_upto_region 2 with (fail)
    generalize hv7 : World.alloc _ _ = v7
    have b7 : Below w1.heap.size w1 v7 := by rw [← hv7]; exact (Below.refl _ _).alloc (Nat.le_refl _) _
    clear hv7
    replace X0 := X0.below b7 X0.lt
    replace hx := hx.keep b7
    replace hb := hb.trans (b7.mono hs1)
    clear b7 hs1
    have X0k0 : v7.cell? ⟨w.heap.size, 0, none⟩ = some (.int .i64 (r : Int)) := (X0.cell 0).trans rfl; have X0k1 : v7.cell? ⟨w.heap.size, 1, none⟩ = some (.int .i64 (c : Int)) := (X0.cell 1).trans rfl; have X0k2 : v7.cell? ⟨w.heap.size, 2, none⟩ = some (.slice (some ⟨b, o, none⟩) l.length cap) := (X0.cell 2).trans rfl
    go_upto_region 5 with (fail)
    clear X0k0 X0k1 X0k2
    have bo : Below v7.heap.size v7 (v7.alloc (.cells (zrow (c + 2)).toArray 3)) := (Below.refl _ _).alloc (Nat.le_refl _) _
    have Xo : Whole (v7.alloc (.cells (zrow (c + 2)).toArray 3)) v7.heap.size 3 (ints (cntK c fx 0)) := by rw [show cntK c fx 0 = List.replicate (c + 2) 0 from rfl, ← zrow_ints]; exact heap_alloc_new v7 _
    have hgO : w.heap.size ≤ v7.heap.size := hb.size
    have hgO1 : w.heap.size < v7.heap.size := X0.lt
    replace X0 := X0.below bo X0.lt
    replace hx := hx.keep bo
    have B0 := hb.trans (bo.mono hb.size)
    clear bo hmk hb
    generalize v7.alloc (.cells (zrow (c + 2)).toArray 3) = v2 at *
    generalize v7.heap.size = gO at *
    go_wp2
    go_loopw [27] (fun i wr => ∃ k : Nat, i = .int .i64 k ∧ k ≤ cs.length ∧ Whole wr w.heap.size 25 [.int .i64 (r : Int), .int .i64 (c : Int), .slice (some ⟨b, o, none⟩) l.length cap] ∧ Whole wr gO 3 (ints (cntK c fx k)) ∧ Own wr Ax 50 (flatF fx) ∧ Below w.heap.size w wr) (fun i _ => cs.length - (intOf i).toNat)
    case atStart => exact ⟨0, rfl, Nat.zero_le _, X0, Xo, hx, B0⟩
    case round =>
      clear X0 Xo hx B0
      obtain ⟨k, rfl, hk, X0, Xo, hx, B0⟩ := hrel
      by_cases hlt : k < cs.length
      · obtain ⟨gx, hAx, hgx, x0, x1, x2⟩ := own_fall hx (show k < fx.length by have := HLn.out; omega)
        subst hAx
        have hs := B0.size
        have hok := HOk.out k hlt
        have HSt := Lib.hid (show cntK c fx (k + 1) = cStep c (cntK c fx k) (fx.getD k (0, 0, 0)) from rfl)
        have hvl := cntK_len c fx k
        have hvb := cntK_bd c fx k
        have hi0 : (0 : Int) ≤ (k : Int) := Int.natCast_nonneg _
        generalize fx.getD k (0, 0, 0) = p at *
        generalize cntK c fx k = V at *
        obtain ⟨x, y, z⟩ := p
        dsimp only at x0 x1 x2
        have hgo := Xo.lt
        have hyw := X0.lt
        rcases hok with ⟨h1, hz1, hz2⟩ | h2 | h3
        · dsimp only at h1 hz1 hz2
          subst h1
          obtain ⟨zn, rfl⟩ : ∃ zn : Nat, z = (zn : Int) := ⟨z.toNat, by omega⟩
          have HS := Lib.hid (show cntK c fx (k + 1) = V.set zn (V.getD zn 0 + 1) by rw [HSt.out]; unfold cStep; rw [if_pos rfl]; rfl)
          have hq := (Xo.cell zn).trans (ints_getD V zn (by omega))
          have hqb := hvb zn
          have hzl : (zn : Int) < ((c : Int) + 2) := by omega
          clear hvb
          generalize V.getD zn 0 = q at *
          have m9 : IntKind.i64.wrap (q + 1) = q + 1 := IntWalk.i64_in _ (by omega)
          have hf := Xo.frozen zn
          (go_wp2; go_roundw; (case rel => exact ⟨k + 1, by go_num, by omega, (X0.set_far ⟨gO, zn, none⟩ (.int .i64 (q + 1)) (by show gO ≠ _; omega)).alloc _, (by rw [HS.out, ← ints_setI]; exact (Xo.set zn _).alloc _), (set_row (j := zn) (u := .int .i64 (q + 1)) hx Xo (by decide)).alloc_ _, (B0.setCell (p := ⟨gO, zn, none⟩) (by show w.heap.size ≤ gO; omega) (.int .i64 (q + 1))).alloc (by rw [World.size_setCell]; exact hs) _⟩); (case measure => (simp [intOf]; omega)))
        · dsimp only at h2
          subst h2
          have HS := Lib.hid (show cntK c fx (k + 1) = V.set c (V.getD c 0 + 1) by rw [HSt.out]; unfold cStep; rw [if_neg (by show ¬ (2 : Int) = 1; decide), if_pos rfl])
          have hq := (Xo.cell c).trans (ints_getD V c (by omega))
          have hqb := hvb c
          clear hvb
          generalize V.getD c 0 = q at *
          have m9 : IntKind.i64.wrap (q + 1) = q + 1 := IntWalk.i64_in _ (by omega)
          have hf := Xo.frozen c
          have X0k0 : wr.cell? ⟨w.heap.size, 0, none⟩ = some (.int .i64 (r : Int)) := (X0.cell 0).trans rfl; have X0k1 : wr.cell? ⟨w.heap.size, 1, none⟩ = some (.int .i64 (c : Int)) := (X0.cell 1).trans rfl; have X0k2 : wr.cell? ⟨w.heap.size, 2, none⟩ = some (.slice (some ⟨b, o, none⟩) l.length cap) := (X0.cell 2).trans rfl
          (go_wp2; go_roundw; (case rel => exact ⟨k + 1, by go_num, by omega, (X0.set_far ⟨gO, c, none⟩ (.int .i64 (q + 1)) (by show gO ≠ _; omega)).alloc _, (by rw [HS.out, ← ints_setI]; exact (Xo.set c _).alloc _), (set_row (j := c) (u := .int .i64 (q + 1)) hx Xo (by decide)).alloc_ _, (B0.setCell (p := ⟨gO, c, none⟩) (by show w.heap.size ≤ gO; omega) (.int .i64 (q + 1))).alloc (by rw [World.size_setCell]; exact hs) _⟩); (case measure => (simp [intOf]; omega)))
        · dsimp only at h3
          subst h3
          have HS := Lib.hid (show cntK c fx (k + 1) = V.set (c + 1) (V.getD (c + 1) 0 + 1) by rw [HSt.out]; unfold cStep; rw [if_neg (by show ¬ (3 : Int) = 1; decide), if_neg (by show ¬ (3 : Int) = 2; decide)])
          have hq := (Xo.cell (c + 1)).trans (ints_getD V (c + 1) (by omega))
          have hqb := hvb (c + 1)
          clear hvb
          generalize V.getD (c + 1) 0 = q at *
          have m9 : IntKind.i64.wrap (q + 1) = q + 1 := IntWalk.i64_in _ (by omega)
          have m5 : IntKind.i64.wrap ((c : Int) + 1) = ((c + 1 : Nat) : Int) := by
            have e : ((c : Int) + 1) = ((c + 1 : Nat) : Int) := by push_cast; rfl
            rw [e]; exact IntWalk.i64_in _ (by omega)
          have hf := Xo.frozen (c + 1)
          have X0k0 : wr.cell? ⟨w.heap.size, 0, none⟩ = some (.int .i64 (r : Int)) := (X0.cell 0).trans rfl; have X0k1 : wr.cell? ⟨w.heap.size, 1, none⟩ = some (.int .i64 (c : Int)) := (X0.cell 1).trans rfl; have X0k2 : wr.cell? ⟨w.heap.size, 2, none⟩ = some (.slice (some ⟨b, o, none⟩) l.length cap) := (X0.cell 2).trans rfl
          (go_wp2; go_roundw; (case rel => exact ⟨k + 1, by go_num, by omega, (X0.set_far ⟨gO, (c + 1), none⟩ (.int .i64 (q + 1)) (by show gO ≠ _; omega)).alloc _, (by rw [HS.out, ← ints_setI]; exact (Xo.set (c + 1) _).alloc _), (set_row (j := (c + 1)) (u := .int .i64 (q + 1)) hx Xo (by decide)).alloc_ _, (B0.setCell (p := ⟨gO, (c + 1), none⟩) (by show w.heap.size ≤ gO; omega) (.int .i64 (q + 1))).alloc (by rw [World.size_setCell]; exact hs) _⟩); (case measure => (simp [intOf]; omega)))
      · obtain rfl : k = cs.length := by omega
        have hl9 := cntK_len c fx cs.length
        have HPo := Lib.hid (show (.slice (some ⟨gO, 0, none⟩) (c + 2) (c + 2) : Value) = .slice (some ⟨gO, 0, none⟩) (cntK c fx cs.length).length (c + 2) by rw [hl9])
        have ho := Xo.own
        clear hlt hl9
        go_wp2
        go_returns
        refine Eq.subst (motive := fun v => PostL w (cntK c fx cs.length) true (.returned (.tuple #[v, .bool true])) wr) HPo.out.symm ?_
        exact PostL.mk ho (fun a ha => by cases ha; show w.heap.size ≤ gO; omega) B0
  · have HO := Lib.hid ho
    have HQ0 := impl_FallsOf R C A cap l A' cap' cs
    have HE := Lib.hid (show (fallsO R C l cs).1.length = 0 by unfold fallsO; rw [ho]; rfl)
    rw [ho] at HQ0
    rw [ho]
    generalize (fallsO R C l cs).1 = fx at *
    generalize (fallsO R C l cs).2 = lx at *
    have HQ := Lib.hid (fun w h1 h2 h3 h4 => HQ0 w h1 h2 h3 h4)
    clear ho HQ0
    go_enter Tryz.func7, Tryz.ntmps7
    obtain ⟨v0, hv0⟩ : ∃ v, v = w.alloc (.cells #[.int .i64 R, .int .i64 C, .slice A l.length cap] 25) := ⟨_, rfl⟩; have X0 : Whole v0 w.heap.size 25 [.int .i64 R, .int .i64 C, .slice A l.length cap] := (by rw [hv0]; exact heap_alloc_new w _); have hb : Below w.heap.size w v0 := (by rw [hv0]; exact (Below.refl _ _).alloc (Nat.le_refl _) _); have HV := Lib.hid hv0.symm; clear hv0; go_upto_region 1 with (fail); rewrite [HV.out]; clear HV; have X0k0 : v0.cell? ⟨w.heap.size, 0, none⟩ = some (.int .i64 R) := (X0.cell 0).trans rfl; have X0k1 : v0.cell? ⟨w.heap.size, 1, none⟩ = some (.int .i64 C) := (X0.cell 1).trans rfl; have X0k2 : v0.cell? ⟨w.heap.size, 2, none⟩ = some (.slice A l.length cap) := (X0.cell 2).trans rfl
    go_wp2_with fail
    refine (HQ.out _ hn ((hr.below hb).mono hb.size) hn' ((hrc.below hb).mono hb.size)).mono ?_; rintro e w1 ⟨Ax, cx, A5, c5, rfl, hx, Nx, O5, N5, b1⟩
    clear O5 N5 Nx HQ hx
    (clear X0k0 X0k1 X0k2; replace X0 := X0.below b1 X0.lt; replace hb := hb.trans (b1.mono hb.size); clear b1; have X0k0 : w1.cell? ⟨w.heap.size, 0, none⟩ = some (.int .i64 R) := (X0.cell 0).trans rfl; have X0k1 : w1.cell? ⟨w.heap.size, 1, none⟩ = some (.int .i64 C) := (X0.cell 1).trans rfl; have X0k2 : w1.cell? ⟨w.heap.size, 2, none⟩ = some (.slice A l.length cap) := (X0.cell 2).trans rfl)
    have hbs := hb.size
    go_wp2
    go_returns
    exact PostL.none_ (by (repeat' (first | (with_reducible exact Below.refl _ _) | (with_reducible assumption) | (with_reducible refine Below.alloc ?_ ?_ _) | (with_reducible refine Below.setCell ?_ ?_ _) | (with_reducible refine Below.drew ?_) | (with_reducible refine below_drewN ?_ _) | (with_reducible refine Below.trans ?_ (Below.mono (by assumption) ?_)) | (with_reducible exact Nat.le_refl _) | (simp; done) | omega | (simp at *; omega))))
end Go.Proofs.YtlnekfbhpfhcpaaGreat
namespace Go.Proofs.YtlnekfbhpfhcpaaGreat
open Go.ChangeShapes Go.WideShapes Go.ChangeAt Go.RowKit Go.Joins Go.Deep
set_option linter.unusedSimpArgs false
set_option linter.unusedVariables false
set_option maxRecDepth 100000
set_option maxHeartbeats 4000000
theorem spec_ArrivalCounts (R C : Int) (A : Option Addr) (cap : Nat) (l : List (Int × Int)) (A' : Option Addr) (cap' : Nat) (cs : List Int) (w : World) (hn : l.length ≤ 1048576) (hr : Rd w w.heap.size A (flat l)) (hn' : cs.length ≤ 1048576) (hrc : Rd w w.heap.size A' (ints cs)) :
    Calls Tryz.prog 8 #[.agg #[.int .i64 R, .int .i64 C, .slice A l.length cap], .slice A' cs.length cap'] w (PostL w (arrL R C l cs) (okC' R C l cs)) := by
  unfold arrL
  rcases Bool.eq_false_or_eq_true (okC' R C l cs) with ho | ho
  · have HO := Lib.hid ho
    obtain ⟨hg, h60, hall⟩ := okC'_parts ho
    obtain ⟨_, _, hpos⟩ := goodB_parts hg
    obtain ⟨b, o, rfl, hbl, hc⟩ := hr (by rw [flat_length]; omega)
    have hr' : Rd w w.heap.size (some ⟨b, o, none⟩) (flat l) := fun _ => ⟨b, o, rfl, hbl, hc⟩
    obtain ⟨r, c, rfl, rfl, hG⟩ := geo_of hg
    obtain ⟨s1, s2, s3, s4⟩ := sizeB_iff.1 (goodB_iff.1 hg).1
    have HFa := Lib.hid (show (fallsO (r : Int) (c : Int) l cs).1 = (stA (numL c l) r c l cs cs.length).1 by unfold fallsO; rw [ho]; rfl)
    have HLn := Lib.hid (stA_len (numL c l) r c l cs cs.length).1
    have HOk0 := stA_okE (numL c l) r c l cs (fun k hk => (show 0 ≤ cs.getD k 0 ∧ cs.getD k 0 < (c : Int) by have := allI_at hall k hk; omega)) cs.length (Nat.le_refl _)
    rw [ho, if_pos rfl, Int.toNat_natCast, HFa.out]
    have HQ0 := spec_flAll r c b o cap l A' cap' cs
    generalize (stA (numL c l) r c l cs cs.length).1 = fx at *
    generalize (stA (numL c l) r c l cs cs.length).2 = lx at *
    have HQ := Lib.hid (fun w h1 h2 h3 h4 h5 => HQ0 w h1 h2 h3 h4 h5)
    have HOk := Lib.hid (fun k (hk : k < cs.length) => HOk0 k hk)
    have hmk := run_make_c2 c (by omega)
    have m2 : IntKind.i64.wrap ((c : Int) + 2) = (c : Int) + 2 := IntWalk.i64_in _ (by omega)
    clear ho hr hG HQ0 HOk0 HFa
    go_enter Tryz.func8, Tryz.ntmps8
    obtain ⟨v0, hv0⟩ : ∃ v, v = w.alloc (.cells #[.int .i64 (r : Int), .int .i64 (c : Int), .slice (some ⟨b, o, none⟩) l.length cap] 25) := ⟨_, rfl⟩; have X0 : Whole v0 w.heap.size 25 [.int .i64 (r : Int), .int .i64 (c : Int), .slice (some ⟨b, o, none⟩) l.length cap] := (by rw [hv0]; exact heap_alloc_new w _); have hb : Below w.heap.size w v0 := (by rw [hv0]; exact (Below.refl _ _).alloc (Nat.le_refl _) _); have HV := Lib.hid hv0.symm; clear hv0; go_upto_region 1 with (fail); rewrite [HV.out]; clear HV; have X0k0 : v0.cell? ⟨w.heap.size, 0, none⟩ = some (.int .i64 (r : Int)) := (X0.cell 0).trans rfl; have X0k1 : v0.cell? ⟨w.heap.size, 1, none⟩ = some (.int .i64 (c : Int)) := (X0.cell 1).trans rfl; have X0k2 : v0.cell? ⟨w.heap.size, 2, none⟩ = some (.slice (some ⟨b, o, none⟩) l.length cap) := (X0.cell 2).trans rfl
    go_wp2_with fail
    refine (spec_flColumns _ _ _ _ l _ _ cs _ hn hn' ((hr'.below hb).mono hb.size) ((hrc.below hb).mono hb.size)).mono ?_; rintro e w1 ⟨rfl, b1⟩
    rewrite [HO.out]
    (clear X0k0 X0k1 X0k2; replace X0 := X0.below b1 X0.lt; replace hb := hb.trans (b1.mono hb.size); clear b1; have X0k0 : w1.cell? ⟨w.heap.size, 0, none⟩ = some (.int .i64 (r : Int)) := (X0.cell 0).trans rfl; have X0k1 : w1.cell? ⟨w.heap.size, 1, none⟩ = some (.int .i64 (c : Int)) := (X0.cell 1).trans rfl; have X0k2 : w1.cell? ⟨w.heap.size, 2, none⟩ = some (.slice (some ⟨b, o, none⟩) l.length cap) := (X0.cell 2).trans rfl)
    go_upto_region 4 with (fail)
    clear X0k0 X0k1 X0k2
    have bo : Below w1.heap.size w1 (w1.alloc (.cells (zrow (c + 2)).toArray 3)) := (Below.refl _ _).alloc (Nat.le_refl _) _
    have Xo : Whole (w1.alloc (.cells (zrow (c + 2)).toArray 3)) w1.heap.size 3 (ints (cntK c fx 0)) := by rw [show cntK c fx 0 = List.replicate (c + 2) 0 from rfl, ← zrow_ints]; exact heap_alloc_new w1 _
    have hgO : w.heap.size ≤ w1.heap.size := hb.size
    have hgO1 : w.heap.size < w1.heap.size := X0.lt
    replace X0 := X0.below bo X0.lt
    replace hb := hb.trans (bo.mono hb.size)
    clear bo hmk
    generalize w1.alloc (.cells (zrow (c + 2)).toArray 3) = v2 at *
    generalize w1.heap.size = gO at *
    have X0k0 : v2.cell? ⟨w.heap.size, 0, none⟩ = some (.int .i64 (r : Int)) := (X0.cell 0).trans rfl; have X0k1 : v2.cell? ⟨w.heap.size, 1, none⟩ = some (.int .i64 (c : Int)) := (X0.cell 1).trans rfl; have X0k2 : v2.cell? ⟨w.heap.size, 2, none⟩ = some (.slice (some ⟨b, o, none⟩) l.length cap) := (X0.cell 2).trans rfl
    go_wp2_with fail
    refine (HQ.out _ hg ((hr'.below hb).mono hb.size) ((hrc.below hb).mono hb.size) h60 hall).mono ?_; rintro e w3 ⟨v3, A5, c5, rfl, hxr, O5, N5, b3⟩
    clear O5 N5
    clear X0k0 X0k1 X0k2
    obtain ⟨Ax, cx, rfl⟩ := slice_of_row hxr
    have hx := (own_of_row hxr).1
    clear hxr
    replace X0 := X0.below b3 X0.lt
    replace Xo := Xo.below b3 Xo.lt
    replace hb := hb.trans (b3.mono hb.size)
    clear b3
    have hs3 := hb.size
    go_upto_region 6 with (fail)
    generalize hv7 : World.alloc _ _ = v7
    have b7 : Below w3.heap.size w3 v7 := by rw [← hv7]; exact (Below.refl _ _).alloc (Nat.le_refl _) _
    clear hv7
    replace X0 := X0.below b7 X0.lt
    replace Xo := Xo.below b7 Xo.lt
    replace hx := hx.keep b7
    have B0 := hb.trans (b7.mono hs3)
    clear b7 hb hs3 HQ
    go_loopw [27] (fun i wr => ∃ k : Nat, i = .int .i64 k ∧ k ≤ cs.length ∧ Whole wr w.heap.size 25 [.int .i64 (r : Int), .int .i64 (c : Int), .slice (some ⟨b, o, none⟩) l.length cap] ∧ Whole wr gO 3 (ints (cntK c fx k)) ∧ Own wr Ax 50 (flatF fx) ∧ Below w.heap.size w wr) (fun i _ => cs.length - (intOf i).toNat)
    case atStart => exact ⟨0, rfl, Nat.zero_le _, X0, Xo, hx, B0⟩
    case round =>
      clear X0 Xo hx B0
      obtain ⟨k, rfl, hk, X0, Xo, hx, B0⟩ := hrel
      by_cases hlt : k < cs.length
      · obtain ⟨gx, hAx, hgx, x0, x1, x2⟩ := own_fall hx (show k < fx.length by have := HLn.out; omega)
        subst hAx
        have hs := B0.size
        have hok := HOk.out k hlt
        have HSt := Lib.hid (show cntK c fx (k + 1) = cStep c (cntK c fx k) (fx.getD k (0, 0, 0)) from rfl)
        have hvl := cntK_len c fx k
        have hvb := cntK_bd c fx k
        have hi0 : (0 : Int) ≤ (k : Int) := Int.natCast_nonneg _
        generalize fx.getD k (0, 0, 0) = p at *
        generalize cntK c fx k = V at *
        obtain ⟨x, y, z⟩ := p
        dsimp only at x0 x1 x2
        have hgo := Xo.lt
        have hyw := X0.lt
        rcases hok with ⟨h1, hz1, hz2⟩ | h2 | h3
        · dsimp only at h1 hz1 hz2
          subst h1
          obtain ⟨zn, rfl⟩ : ∃ zn : Nat, z = (zn : Int) := ⟨z.toNat, by omega⟩
          have HS := Lib.hid (show cntK c fx (k + 1) = V.set zn (V.getD zn 0 + 1) by rw [HSt.out]; unfold cStep; rw [if_pos rfl]; rfl)
          have hq := (Xo.cell zn).trans (ints_getD V zn (by omega))
          have hqb := hvb zn
          have hzl : (zn : Int) < ((c : Int) + 2) := by omega
          clear hvb
          generalize V.getD zn 0 = q at *
          have m9 : IntKind.i64.wrap (q + 1) = q + 1 := IntWalk.i64_in _ (by omega)
          have hf := Xo.frozen zn
          (go_wp2; go_roundw; (case rel => exact ⟨k + 1, by go_num, by omega, (X0.set_far ⟨gO, zn, none⟩ (.int .i64 (q + 1)) (by show gO ≠ _; omega)).alloc _, (by rw [HS.out, ← ints_setI]; exact (Xo.set zn _).alloc _), (set_row (j := zn) (u := .int .i64 (q + 1)) hx Xo (by decide)).alloc_ _, (B0.setCell (p := ⟨gO, zn, none⟩) (by show w.heap.size ≤ gO; omega) (.int .i64 (q + 1))).alloc (by rw [World.size_setCell]; exact hs) _⟩); (case measure => (simp [intOf]; omega)))
        · dsimp only at h2
          subst h2
          have HS := Lib.hid (show cntK c fx (k + 1) = V.set c (V.getD c 0 + 1) by rw [HSt.out]; unfold cStep; rw [if_neg (by show ¬ (2 : Int) = 1; decide), if_pos rfl])
          have hq := (Xo.cell c).trans (ints_getD V c (by omega))
          have hqb := hvb c
          clear hvb
          generalize V.getD c 0 = q at *
          have m9 : IntKind.i64.wrap (q + 1) = q + 1 := IntWalk.i64_in _ (by omega)
          have hf := Xo.frozen c
          have X0k0 : wr.cell? ⟨w.heap.size, 0, none⟩ = some (.int .i64 (r : Int)) := (X0.cell 0).trans rfl; have X0k1 : wr.cell? ⟨w.heap.size, 1, none⟩ = some (.int .i64 (c : Int)) := (X0.cell 1).trans rfl; have X0k2 : wr.cell? ⟨w.heap.size, 2, none⟩ = some (.slice (some ⟨b, o, none⟩) l.length cap) := (X0.cell 2).trans rfl
          (go_wp2; go_roundw; (case rel => exact ⟨k + 1, by go_num, by omega, (X0.set_far ⟨gO, c, none⟩ (.int .i64 (q + 1)) (by show gO ≠ _; omega)).alloc _, (by rw [HS.out, ← ints_setI]; exact (Xo.set c _).alloc _), (set_row (j := c) (u := .int .i64 (q + 1)) hx Xo (by decide)).alloc_ _, (B0.setCell (p := ⟨gO, c, none⟩) (by show w.heap.size ≤ gO; omega) (.int .i64 (q + 1))).alloc (by rw [World.size_setCell]; exact hs) _⟩); (case measure => (simp [intOf]; omega)))
        · dsimp only at h3
          subst h3
          have HS := Lib.hid (show cntK c fx (k + 1) = V.set (c + 1) (V.getD (c + 1) 0 + 1) by rw [HSt.out]; unfold cStep; rw [if_neg (by show ¬ (3 : Int) = 1; decide), if_neg (by show ¬ (3 : Int) = 2; decide)])
          have hq := (Xo.cell (c + 1)).trans (ints_getD V (c + 1) (by omega))
          have hqb := hvb (c + 1)
          clear hvb
          generalize V.getD (c + 1) 0 = q at *
          have m9 : IntKind.i64.wrap (q + 1) = q + 1 := IntWalk.i64_in _ (by omega)
          have m5 : IntKind.i64.wrap ((c : Int) + 1) = ((c + 1 : Nat) : Int) := by
            have e : ((c : Int) + 1) = ((c + 1 : Nat) : Int) := by push_cast; rfl
            rw [e]; exact IntWalk.i64_in _ (by omega)
          have hf := Xo.frozen (c + 1)
          have X0k0 : wr.cell? ⟨w.heap.size, 0, none⟩ = some (.int .i64 (r : Int)) := (X0.cell 0).trans rfl; have X0k1 : wr.cell? ⟨w.heap.size, 1, none⟩ = some (.int .i64 (c : Int)) := (X0.cell 1).trans rfl; have X0k2 : wr.cell? ⟨w.heap.size, 2, none⟩ = some (.slice (some ⟨b, o, none⟩) l.length cap) := (X0.cell 2).trans rfl
          (go_wp2; go_roundw; (case rel => exact ⟨k + 1, by go_num, by omega, (X0.set_far ⟨gO, (c + 1), none⟩ (.int .i64 (q + 1)) (by show gO ≠ _; omega)).alloc _, (by rw [HS.out, ← ints_setI]; exact (Xo.set (c + 1) _).alloc _), (set_row (j := (c + 1)) (u := .int .i64 (q + 1)) hx Xo (by decide)).alloc_ _, (B0.setCell (p := ⟨gO, (c + 1), none⟩) (by show w.heap.size ≤ gO; omega) (.int .i64 (q + 1))).alloc (by rw [World.size_setCell]; exact hs) _⟩); (case measure => (simp [intOf]; omega)))
      · obtain rfl : k = cs.length := by omega
        have hl9 := cntK_len c fx cs.length
        have HPo := Lib.hid (show (.slice (some ⟨gO, 0, none⟩) (c + 2) (c + 2) : Value) = .slice (some ⟨gO, 0, none⟩) (cntK c fx cs.length).length (c + 2) by rw [hl9])
        have ho := Xo.own
        clear hlt hl9
        go_wp2
        go_returns
        refine Eq.subst (motive := fun v => PostL w (cntK c fx cs.length) true (.returned (.tuple #[v, .bool true])) wr) HPo.out.symm ?_
        exact PostL.mk ho (fun a ha => by cases ha; show w.heap.size ≤ gO; omega) B0
  · have HO := Lib.hid ho
    rw [ho]
    clear ho
    go_enter Tryz.func8, Tryz.ntmps8
    obtain ⟨v0, hv0⟩ : ∃ v, v = w.alloc (.cells #[.int .i64 R, .int .i64 C, .slice A l.length cap] 25) := ⟨_, rfl⟩; have X0 : Whole v0 w.heap.size 25 [.int .i64 R, .int .i64 C, .slice A l.length cap] := (by rw [hv0]; exact heap_alloc_new w _); have hb : Below w.heap.size w v0 := (by rw [hv0]; exact (Below.refl _ _).alloc (Nat.le_refl _) _); have HV := Lib.hid hv0.symm; clear hv0; go_upto_region 1 with (fail); rewrite [HV.out]; clear HV; have X0k0 : v0.cell? ⟨w.heap.size, 0, none⟩ = some (.int .i64 R) := (X0.cell 0).trans rfl; have X0k1 : v0.cell? ⟨w.heap.size, 1, none⟩ = some (.int .i64 C) := (X0.cell 1).trans rfl; have X0k2 : v0.cell? ⟨w.heap.size, 2, none⟩ = some (.slice A l.length cap) := (X0.cell 2).trans rfl
    go_wp2_with fail
    refine (spec_flColumns _ _ _ _ l _ _ cs _ hn hn' ((hr.below hb).mono hb.size) ((hrc.below hb).mono hb.size)).mono ?_; rintro e w1 ⟨rfl, b1⟩
    rewrite [HO.out]
    (clear X0k0 X0k1 X0k2; replace X0 := X0.below b1 X0.lt; replace hb := hb.trans (b1.mono hb.size); clear b1; have X0k0 : w1.cell? ⟨w.heap.size, 0, none⟩ = some (.int .i64 R) := (X0.cell 0).trans rfl; have X0k1 : w1.cell? ⟨w.heap.size, 1, none⟩ = some (.int .i64 C) := (X0.cell 1).trans rfl; have X0k2 : w1.cell? ⟨w.heap.size, 2, none⟩ = some (.slice A l.length cap) := (X0.cell 2).trans rfl)
    go_wp2
    go_returns
    exact PostL.none_ (by (repeat' (first | (with_reducible exact Below.refl _ _) | (with_reducible assumption) | (with_reducible refine Below.alloc ?_ ?_ _) | (with_reducible refine Below.setCell ?_ ?_ _) | (with_reducible refine Below.drew ?_) | (with_reducible refine below_drewN ?_ _) | (with_reducible refine Below.trans ?_ (Below.mono (by assumption) ?_)) | (with_reducible exact Nat.le_refl _) | (simp; done) | omega | (simp at *; omega))))
end Go.Proofs.YtlnekfbhpfhcpaaGreat
namespace Go.Proofs.YtlnekfbhpfhcpaaGreat
open Go.ChangeShapes Go.WideShapes Go.ChangeAt Go.RowKit Go.Joins Go.Deep
set_option linter.unusedSimpArgs false
set_option linter.unusedVariables false
set_option maxRecDepth 100000
set_option maxHeartbeats 1000000
theorem rising_eqI : ∀ {a b : List Int}, a.Pairwise (· < ·) → b.Pairwise (· < ·) → (∀ x, x ∈ a ↔ x ∈ b) → a = b
  | [], [], _, _, _ => rfl
  | [], y :: b, _, _, h => absurd ((h y).2 (List.mem_cons_self ..)) (List.not_mem_nil)
  | x :: a, [], _, _, h => absurd ((h x).1 (List.mem_cons_self ..)) (List.not_mem_nil)
  | x :: a, y :: b, ha, hb, h => by
    rw [List.pairwise_cons] at ha hb
    have e : x = y := by
      rcases List.mem_cons.1 ((h x).1 (List.mem_cons_self ..)) with e | e
      · exact e
      · rcases List.mem_cons.1 ((h y).2 (List.mem_cons_self ..)) with e' | e'
        · exact e'.symm
        · have := hb.1 x e
          have := ha.1 y e'
          omega
    subst e
    rw [rising_eqI ha.2 hb.2 (fun z => ?_)]
    constructor
    · intro hz
      rcases List.mem_cons.1 ((h z).1 (List.mem_cons_of_mem _ hz)) with e | e
      · have := ha.1 z hz; omega
      · exact e
    · intro hz
      rcases List.mem_cons.1 ((h z).2 (List.mem_cons_of_mem _ hz)) with e | e
      · have := hb.1 z hz; omega
      · exact e
theorem arr_get {zs : List Int} {j : Nat} (h : j < zs.length) : zs.toArray[j]! = zs[j] := by simp [h]
theorem compact_upto {zs : List Int} (hs : zs.Pairwise (· ≤ ·)) : ∀ m, m ≤ zs.length → (Lib.compactUpTo zs.toArray m).Pairwise (· < ·) ∧ ∀ x, x ∈ Lib.compactUpTo zs.toArray m ↔ ∃ j, ∃ h : j < zs.length, j < m ∧ zs[j] = x
  | 0, _ => by
    have e : Lib.compactUpTo zs.toArray 0 = [] := by simp [Lib.compactUpTo]
    rw [e]
    exact ⟨List.Pairwise.nil, fun x => ⟨fun h => absurd h List.not_mem_nil, fun ⟨j, _, h, _⟩ => absurd h (Nat.not_lt_zero j)⟩⟩
  | m + 1, hm => by
    obtain ⟨ih1, ih2⟩ := compact_upto hs m (by omega)
    have hle : ∀ i j (hi : i < zs.length) (hj : j < zs.length), i ≤ j → zs[i] ≤ zs[j] := fun i j hi hj hij => by
      rcases Nat.lt_or_eq_of_le hij with h | rfl
      · exact List.pairwise_iff_getElem.1 hs i j hi hj h
      · exact Int.le_refl _
    rw [Lib.compactUpTo_succ]
    by_cases hk : m = 0 ∨ zs.toArray[m]! ≠ zs.toArray[m - 1]!
    · have hkk : Lib.keeps zs.toArray m = true := by unfold Lib.keeps; exact decide_eq_true hk
      rw [if_pos hkk, arr_get (show m < zs.length by omega)]
      refine ⟨?_, fun x => ?_⟩
      · rw [List.pairwise_append]
        refine ⟨ih1, List.pairwise_singleton _ _, fun a ha b hb => ?_⟩
        rw [List.mem_singleton] at hb
        subst hb
        obtain ⟨j, hj, hjm, rfl⟩ := (ih2 a).1 ha
        rcases hk with h0 | h0
        · omega
        · rw [arr_get (show m < zs.length by omega), arr_get (show m - 1 < zs.length by omega)] at h0
          have h1 := hle j (m - 1) hj (by omega) (by omega)
          have h2 := hle (m - 1) m (by omega) (by omega) (by omega)
          omega
      · rw [List.mem_append, ih2, List.mem_singleton]
        constructor
        · rintro (⟨j, hj, hjm, e⟩ | e)
          · exact ⟨j, hj, by omega, e⟩
          · exact ⟨m, by omega, by omega, e.symm⟩
        · rintro ⟨j, hj, hjm, e⟩
          by_cases h : j = m
          · subst h; exact .inr e.symm
          · exact .inl ⟨j, hj, by omega, e⟩
    · have hkk : Lib.keeps zs.toArray m = false := by unfold Lib.keeps; exact decide_eq_false hk
      rw [hkk]
      simp only [Bool.false_eq_true, if_false, List.append_nil]
      refine ⟨ih1, fun x => ?_⟩
      rw [ih2]
      constructor
      · rintro ⟨j, hj, hjm, e⟩
        exact ⟨j, hj, by omega, e⟩
      · rintro ⟨j, hj, hjm, e⟩
        by_cases h : j = m
        · subst h
          have h0 : j ≠ 0 := fun h => hk (.inl h)
          have h1 : zs.toArray[j]! = zs.toArray[j - 1]! := by
            by_cases h2 : zs.toArray[j]! = zs.toArray[j - 1]!
            · exact h2
            · exact absurd (.inr h2) hk
          rw [arr_get hj, arr_get (show j - 1 < zs.length by omega)] at h1
          exact ⟨j - 1, by omega, by omega, by rw [← h1]; exact e⟩
        · exact ⟨j, hj, by omega, e⟩
theorem compact_rising {zs : List Int} (hs : zs.Pairwise (· ≤ ·)) : (Lib.compact zs).Pairwise (· < ·) ∧ ∀ x, x ∈ Lib.compact zs ↔ x ∈ zs := by
  obtain ⟨h1, h2⟩ := compact_upto hs zs.length (Nat.le_refl _)
  refine ⟨h1, fun x => (h2 x).trans ?_⟩
  rw [List.mem_iff_getElem]
  exact ⟨fun ⟨j, hj, _, e⟩ => ⟨j, hj, e⟩, fun ⟨j, hj, e⟩ => ⟨j, hj, hj, e⟩⟩
theorem sorted_compact {n : Nat} {q : List Nat} (hl : ∀ x ∈ q, x < n) : Lib.compact ((nI q).mergeSort fun x y => decide (x ≤ y)) = nI (sortN n q) := by
  have hp := List.mergeSort_perm (nI q) (fun x y => decide (x ≤ y))
  have hs := List.pairwise_mergeSort (le := fun x y : Int => decide (x ≤ y)) (fun a b c h1 h2 => by simp at *; omega) (fun a b => by simp; omega) (nI q)
  obtain ⟨c1, c2⟩ := compact_rising (zs := (nI q).mergeSort fun x y => decide (x ≤ y)) (hs.imp (fun h => by simpa using h))
  refine rising_eqI c1 ?_ (fun x => ?_)
  · unfold nI
    rw [List.pairwise_map]
    exact (sortN_sorted n q).imp (fun h => by omega)
  · rw [c2, hp.mem_iff]
    unfold nI
    simp only [List.mem_map]
    constructor
    · rintro ⟨k, hk, rfl⟩
      exact ⟨k, mem_sortN.2 ⟨hl k hk, hk⟩, rfl⟩
    · rintro ⟨k, hk, rfl⟩
      exact ⟨k, (mem_sortN.1 hk).2, rfl⟩
theorem put_same {n k x : Nat} {q : List Nat} (hk : k < (sortN n q).length) (h : (sortN n q)[k] = x) : sortN n (q ++ [x]) = sortN n q := by
  have hx : x ∈ q := by
    have := List.getElem_mem hk
    rw [h, mem_sortN] at this
    exact this.2
  refine sortN_congr fun y => ?_
  rw [List.mem_append, List.mem_singleton]
  constructor
  · rintro (h | rfl)
    · exact h
    · exact hx
  · exact .inl
theorem put_new {n k x : Nat} {q : List Nat} (hx : x < n) (hk : k ≤ (sortN n q).length) (h1 : ∀ i (hi : i < (sortN n q).length), i < k → (sortN n q)[i] < x) (h2 : ∀ h : k < (sortN n q).length, x < (sortN n q)[k]) :
    sortN n (q ++ [x]) = (sortN n q).take k ++ x :: (sortN n q).drop k := by
  have hs := sortN_sorted n q
  have hm : ∀ y, y ∈ sortN n q ↔ y < n ∧ y ∈ q := fun y => mem_sortN
  generalize hS : sortN n q = S at *
  have hT : ∀ a ∈ S.take k, a < x := fun a ha => by
    obtain ⟨i, hi, rfl⟩ := List.mem_iff_getElem.1 ha
    rw [List.getElem_take]
    rw [List.length_take] at hi
    exact h1 i (by omega) (by omega)
  have hD : ∀ a ∈ S.drop k, x < a := fun a ha => by
    obtain ⟨i, hi, rfl⟩ := List.mem_iff_getElem.1 ha
    rw [List.getElem_drop]
    rw [List.length_drop] at hi
    have hkl : k < S.length := by omega
    have h3 := h2 hkl
    rcases Nat.eq_zero_or_pos i with rfl | hi0
    · simpa using h3
    · have := List.pairwise_iff_getElem.1 hs k (k + i) hkl (by omega) (by omega)
      omega
  refine rising_eq (sortN_sorted n _) ?_ (fun y => ?_)
  · rw [List.pairwise_append]
    refine ⟨hs.sublist (List.take_sublist k S), ?_, fun a ha b hb => ?_⟩
    · rw [List.pairwise_cons]
      exact ⟨hD, hs.sublist (List.drop_sublist k S)⟩
    · have ha' := hT a ha
      rcases List.mem_cons.1 hb with rfl | hb
      · exact ha'
      · have := hD b hb
        omega
  · rw [mem_sortN, List.mem_append, List.mem_singleton, List.mem_append, List.mem_cons]
    have happ : y ∈ S ↔ (y ∈ S.take k ∨ y ∈ S.drop k) := by
      rw [← List.mem_append, List.take_append_drop]
    constructor
    · rintro ⟨hy, hq | rfl⟩
      · rcases happ.1 ((hm y).2 ⟨hy, hq⟩) with h | h
        · exact .inl h
        · exact .inr (.inr h)
      · exact .inr (.inl rfl)
    · rintro (h | rfl | h)
      · have := (hm y).1 (happ.2 (.inl h))
        exact ⟨this.1, .inl this.2⟩
      · exact ⟨hx, .inr rfl⟩
      · have := (hm y).1 (happ.2 (.inr h))
        exact ⟨this.1, .inl this.2⟩
/-- The cells that a way meets. -/
def wayN (c : Nat) (wy : List (List Nat)) : List Nat := wy.map fun p => p.getD 0 0 * c + p.getD 1 0
theorem wayI_nI (c : Nat) (wy : List (List Nat)) : wayI c wy = nI (wayN c wy) := by
  unfold wayI nI wayN
  rw [List.map_map]
  rfl
def wayOK (r c : Nat) (wy : List (List Nat)) : Prop := ∀ p ∈ wy, ∃ a b, p = [a, b] ∧ a < r ∧ b < c
theorem flG_wayOK (nm : List Int) (r c : Nat) : ∀ (n row : Nat) (l : List (Int × Int)) (col : Nat) (side : Int) (way : List (List Nat)), row + n ≤ r → col < c → wayOK r c way → wayOK r c (flG nm r c n row l col side way).way
  | 0, _, _, _, _, _, _, _, h => h
  | n + 1, row, l, col, side, way, hrow, hcol, h => by
    have h2 : wayOK r c (way ++ [[row, col]]) := fun p hp => by
      rcases List.mem_append.1 hp with h1 | h1
      · exact h p h1
      · rw [List.mem_singleton] at h1
        exact ⟨row, col, h1, by omega, hcol⟩
    rw [flG_step nm r c n row l col side way _ _ rfl rfl]
    split
    · exact h2
    · split
      · next hin => exact flG_wayOK nm r c n _ _ _ _ _ (by omega) (by omega) h2
      · exact h2
theorem flG_wayLen (nm : List Int) (r c : Nat) : ∀ (n row : Nat) (l : List (Int × Int)) (col : Nat) (side : Int) (way : List (List Nat)), (flG nm r c n row l col side way).way.length ≤ way.length + n
  | 0, _, _, _, _, _ => Nat.le_refl _
  | n + 1, row, l, col, side, way => by
    rw [flG_step nm r c n row l col side way _ _ rfl rfl]
    split
    · rw [List.length_append, List.length_singleton]; omega
    · split
      · have := flG_wayLen nm r c n (row + 1) (passL nm l (row * c + col)) ((col : Int) + goN (l.getD (row * c + col) (0, 0)).1 (l.getD (row * c + col) (0, 0)).2 side).toNat (-goN (l.getD (row * c + col) (0, 0)).1 (l.getD (row * c + col) (0, 0)).2 side) (way ++ [[row, col]])
        rw [List.length_append, List.length_singleton] at this
        omega
      · rw [List.length_append, List.length_singleton]; omega
def metN (R C : Int) (l : List (Int × Int)) : Nat → List Nat
  | 0 => []
  | k + 1 => metN R C l k ++ wayN C.toNat (marO R C l k).way
theorem wayN_lt {r c : Nat} {wy : List (List Nat)} (h : wayOK r c wy) : ∀ x ∈ wayN c wy, x < r * c := fun x hx => by
  unfold wayN at hx
  obtain ⟨p, hp, rfl⟩ := List.mem_map.1 hx
  obtain ⟨a, b, rfl, ha, hb⟩ := h p hp
  have h1 := Nat.mul_le_mul (show a + 1 ≤ r by omega) (Nat.le_refl c)
  rw [Nat.succ_mul] at h1
  show a * c + b < r * c
  omega
theorem marO_wayOK {r c : Nat} {l : List (Int × Int)} {k : Nat} (hk : k < c) : wayOK r c (marO (r : Int) (c : Int) l (k : Int)).way :=
  flG_wayOK _ r c r 0 l _ _ _ (by omega) hk (fun p hp => absurd hp List.not_mem_nil)
theorem metN_lt {r c : Nat} {l : List (Int × Int)} : ∀ k, k ≤ c → ∀ x ∈ metN (r : Int) (c : Int) l k, x < r * c
  | 0, _, x, h => absurd h List.not_mem_nil
  | k + 1, hk, x, h => by
    rcases List.mem_append.1 h with h1 | h1
    · exact metN_lt k (by omega) x h1
    · exact wayN_lt (marO_wayOK (show k < c by omega)) x h1
def metL (R C : Int) (l : List (Int × Int)) : List Int := if goodB R C l then nI (sortN l.length (metN R C l C.toNat)) else []
theorem metL_len (R C : Int) (l : List (Int × Int)) (hn : l.length ≤ 1048576) : (metL R C l).length ≤ 1048576 := by
  unfold metL
  split
  · rw [nI_length]
    have := sortN_length (n := l.length) (metN R C l C.toNat)
    omega
  · simp
end Go.Proofs.YtlnekfbhpfhcpaaGreat
namespace Go.Proofs.YtlnekfbhpfhcpaaGreat
open Go.ChangeShapes Go.WideShapes Go.ChangeAt Go.RowKit Go.Joins Go.Deep
set_option linter.unusedSimpArgs false
set_option linter.unusedVariables false
set_option maxRecDepth 100000
set_option maxHeartbeats 4000000
def MRow (w : World) (base : Nat) (v : Value) (S : List Nat) : Prop := IRow w base v (nI S) ∧ (S = [] → v = .slice none 0 0)
theorem MRow.keep {w w' : World} {base : Nat} {v : Value} {S : List Nat} (h : MRow w base v S) (hb : Below w.heap.size w w') : MRow w' base v S := ⟨h.1.keep hb, h.2⟩
theorem nI_take_drop (S : List Nat) (k x : Nat) : ints (nI (S.take k)) ++ [.int .i64 (x : Int)] ++ ints (nI (S.drop k)) = ints (nI (S.take k ++ x :: S.drop k)) := by
  simp [nI, ints]
theorem one_nI {l : List Int} : ∀ u ∈ ints l, u.oneCell' = true := by
  intro u hu
  unfold ints at hu
  obtain ⟨x, _, rfl⟩ := List.mem_map.1 hu
  rfl
theorem nI_atP {S : List Nat} {k : Nat} (h : k < S.length) : (ints (nI S))[k]? = some (.int .i64 ((S[k] : Nat) : Int)) := by
  rw [ints_at _ k (by rw [nI_length]; exact h)]
  simp [nI]
theorem row_to {w : World} {base n : Nat} {v : Value} {xs : List Value} {l : List Int} (h : w.ownsRow base 3 1 v n xs) (hn : n = l.length) (hx : xs = ints l) : IRow w base v l := by
  subst hn hx
  exact h
theorem rd_piece {w : World} {B b o : Nat} {S : List Nat} (k : Nat) (h : Rd w B (some ⟨b, o, none⟩) (ints (nI S))) : Rd w B (some ⟨b, o, none⟩) (ints (nI (S.take k))) ∧ Rd w B (some ⟨b, o + k, none⟩) (ints (nI (S.drop k))) := by
  constructor
  · intro hx
    rw [ints_length, nI_length, List.length_take] at hx
    obtain ⟨b', o', e, h1, h2⟩ := h (by rw [ints_length, nI_length]; omega)
    refine ⟨b', o', e, h1, fun j u hu => h2 j u ?_⟩
    have hj : j < (S.take k).length := by have := (List.getElem?_eq_some_iff.1 hu).1; rw [ints_length, nI_length] at this; exact this
    rw [nI_atP hj] at hu
    rw [nI_atP (show j < S.length by rw [List.length_take] at hj; omega), ← hu, List.getElem_take]
  · intro hx
    rw [ints_length, nI_length, List.length_drop] at hx
    obtain ⟨b', o', e, h1, h2⟩ := h (by rw [ints_length, nI_length]; omega)
    cases e
    refine ⟨b, o + k, rfl, h1, fun j u hu => ?_⟩
    have hj : j < (S.drop k).length := by have := (List.getElem?_eq_some_iff.1 hu).1; rw [ints_length, nI_length] at this; exact this
    rw [nI_atP hj] at hu
    rw [Nat.add_assoc]
    refine h2 (k + j) u ?_
    rw [nI_atP (show k + j < S.length by rw [List.length_drop] at hj; omega), ← hu, List.getElem_drop]
theorem rd_drop0 {w : World} {B g : Nat} {S : List Nat} (k : Nat) (h : Rd w B (some ⟨g, 0, none⟩) (ints (nI S))) : Rd w B (some ⟨g, k, none⟩) (ints (nI (S.drop k))) := by
  have h2 := (rd_piece k h).2
  rw [Nat.zero_add] at h2
  exact h2
theorem spec_l1Put_nil (x : Nat) (w : World) :
    Calls Tryz.prog 48 #[.slice none 0 0, .int .i64 (x : Int)] w fun e w' => ∃ v', e = .returned v' ∧ IRow w' w.heap.size v' [(x : Int)] ∧ Below w.heap.size w w' := by
  obtain ⟨i0, hi, hz0, hz1, hz2⟩ := info_parts intInfo
  go_enter Tryz.func48, Tryz.ntmps48
  go_wp2
  go_loop [5] (fun i => i = .int .i64 0) (fun _ => 0)
  case atStart => rfl
  case round =>
    subst hrel
    go_wp2_with (first
      | (at_builtin; refine wpList_append_rd rfl (.tmp 34) (.tmp 37) 26 rfl w.heap.size 3 i0 _ 1 8 Tryz.underlying26 hi hz0 hz1 hz2 rfl (by omega) _ 0 [] rfl (row_empty w _ _) none 0 0 0 [] rfl rfl (fun _ => rfl) (fun h => absurd h (by simp)) (fun u hu => absurd hu (by simp)) (by unfold maxLen; omega) (by omega) (by simp) ?_; intro v1 w1 hown1 hg1)
      | (at_builtin; refine wpList_append_own _ rfl (.tmp 39) (.tmp 41) 26 rfl w.heap.size 3 i0 _ 1 8 Tryz.underlying26 hi hz0 hz1 hz2 rfl (by omega) _ _ _ rfl (hown1.alloc _) ⟨w1.heap.size, 0, none⟩ 1 1 [.int .i64 (x : Int)] rfl rfl one_cellI one_oneI (by unfold maxLen; omega) (by omega) (by have h1 := hg1.size; rw [World.size_alloc] at h1 ⊢; omega) ?_; intro v2 w2 hown2 hg2 _)
      | (at_builtin; refine wpList_append_rd rfl (.tmp 43) (.tmp 46) 26 rfl w.heap.size 3 i0 _ 1 8 Tryz.underlying26 hi hz0 hz1 hz2 rfl (by omega) _ _ _ rfl hown2 none 0 0 0 [] rfl rfl (fun _ => rfl) (fun h => absurd h (by simp)) (fun u hu => absurd hu (by simp)) (by unfold maxLen; omega) (by omega) (by have h1 := hg1.size; have h2 := hg2.size; rw [World.size_alloc] at h1 h2; omega) ?_; intro v3 w3 hown3 hg3)
      | fail)
    have hb1 := row_below (row_empty w 3 1) ((Below.refl _ _).alloc (Nat.le_refl _) _) (by simp) hg1
    have hb2 := row_below (hown1.alloc (.cells #[.int .i64 (x : Int)] 3)) (hb1.alloc hb1.size _) (by rw [World.size_alloc]; have := hb1.size; omega) hg2
    have hb3 := row_below hown2 hb2 hb2.size hg3
    go_returns
    exact ⟨v3, rfl, row_to hown3 rfl rfl, hb3⟩
/-- What l1Put leaves behind: the list itself if the number stands in it, and a new one with it in its place if not. -/
def PostPut (g cap : Nat) (S : List Nat) (x : Nat) (w : World) (e : Ending) (w' : World) : Prop :=
  ∃ k, k ≤ S.length ∧ (∀ i (h : i < S.length), i < k → S[i] < x) ∧
    ((∃ h : k < S.length, S[k] = x ∧ e = .returned (.slice (some ⟨g, 0, none⟩) S.length cap) ∧ Below w.heap.size w w') ∨
     ((∀ h : k < S.length, x < S[k]) ∧ ∃ v', e = .returned v' ∧ IRow w' w.heap.size v' (nI (S.take k ++ x :: S.drop k)) ∧ Below w.heap.size w w'))
theorem PostPut.same {g cap : Nat} {S : List Nat} {x k : Nat} {w w' : World} (hk : k < S.length) (h1 : ∀ i (h : i < S.length), i < k → S[i] < x) (h : S[k] = x) (hb : Below w.heap.size w w') : PostPut g cap S x w (.returned (.slice (some ⟨g, 0, none⟩) S.length cap)) w' :=
  ⟨k, Nat.le_of_lt hk, h1, .inl ⟨hk, h, rfl, hb⟩⟩
theorem PostPut.new {g cap : Nat} {S : List Nat} {x k : Nat} {w w' : World} {v' : Value} (hk : k ≤ S.length) (h1 : ∀ i (h : i < S.length), i < k → S[i] < x) (h : ∀ h : k < S.length, x < S[k]) (hv : IRow w' w.heap.size v' (nI (S.take k ++ x :: S.drop k))) (hb : Below w.heap.size w w') : PostPut g cap S x w (.returned v') w' :=
  ⟨k, hk, h1, .inr ⟨h, v', rfl, hv, hb⟩⟩
theorem spec_l1Put_some (g cap : Nat) (S : List Nat) (x : Nat) (w : World) (hpos : 0 < S.length) (hn : S.length ≤ 1048576) (hcap : S.length ≤ cap) (hcm : cap ≤ maxLen) (hr : Rd w w.heap.size (some ⟨g, 0, none⟩) (ints (nI S))) :
    Calls Tryz.prog 48 #[.slice (some ⟨g, 0, none⟩) S.length cap, .int .i64 (x : Int)] w (PostPut g cap S x w) := by
  obtain ⟨i0, hi, hz0, hz1, hz2⟩ := info_parts intInfo
  obtain ⟨b, o, e, hbl, hc⟩ := hr (by rw [ints_length, nI_length]; exact hpos)
  cases e
  unfold maxLen at hcm
  go_enter Tryz.func48, Tryz.ntmps48
  go_wp2
  go_loop [5] (fun i => ∃ k : Nat, i = .int .i64 k ∧ k ≤ S.length ∧ ∀ i (h : i < S.length), i < k → S[i] < x) (fun i => S.length - (intOf i).toNat)
  case atStart => exact ⟨0, rfl, Nat.zero_le _, fun i _ h => absurd h (Nat.not_lt_zero i)⟩
  case round =>
    obtain ⟨k, rfl, hk, hlow⟩ := hrel
    have HLow := Lib.hid hlow
    by_cases hlt : k < S.length
    · have hck := hc k _ (nI_atP hlt)
      rw [Nat.zero_add] at hck
      have HL2 := Lib.hid (show S[k] < x → ∀ i (h : i < S.length), i < k + 1 → S[i] < x from fun hx i h hik => by
        rcases Nat.lt_or_eq_of_le (Nat.lt_succ_iff.1 hik) with h1 | rfl
        · exact hlow i h h1
        · exact hx)
      have HPo := Lib.hid (fun (w' : World) (h : S[k] = x) (hb : Below w.heap.size w w') => PostPut.same (g := g) (cap := cap) hlt hlow h hb)
      have HPn := Lib.hid (fun (w' : World) (v' : Value) (h : x < S[k]) (hv : IRow w' w.heap.size v' (nI (S.take k ++ x :: S.drop k))) (hb : Below w.heap.size w w') => PostPut.new (g := g) (cap := cap) hk hlow (fun _ => h) hv hb)
      clear hlow
      generalize hy : S[k] = y at *
      clear hy
      by_cases hx : y < x
      · have hx' : (y : Int) < (x : Int) := by omega
        have HL3 := Lib.hid (HL2.out hx)
        clear HL2 HPo HPn
        go_wp2
        go_round
        case rel => exact ⟨k + 1, by go_num, by omega, HL3.out⟩
        case measure => simp [intOf]; omega
      · have hx' : ¬ (y : Int) < (x : Int) := by omega
        by_cases he : y = x
        · subst he
          clear HL2 HPn hx hx'
          go_wp2
          go_returns
          exact HPo.out _ trivial (Below.refl _ _)
        · have he' : ¬ (y : Int) = (x : Int) := by omega
          have hlt2 : x < y := by omega
          clear HL2 HPo hx he
          go_wp2_with (first
      | (at_builtin; refine wpList_append_rd rfl (.tmp 34) (.tmp 37) 26 rfl w.heap.size 3 i0 _ 1 8 Tryz.underlying26 hi hz0 hz1 hz2 rfl (by omega) _ 0 [] rfl (row_empty w _ _) (some ⟨g, 0, none⟩) k cap w.heap.size (ints (nI (S.take k))) rfl (by rw [ints_length, nI_length, List.length_take]; omega) (fun h => absurd h (by simp)) ((rd_piece k hr).1.below ((Below.refl _ _).alloc (Nat.le_refl _) _)) one_nI (by unfold maxLen; omega) (by omega) (by simp) ?_; intro v1 w1 hown1 hg1; have hb1 := row_below (row_empty w 3 1) ((Below.refl _ _).alloc (Nat.le_refl _) _) (by simp) hg1; have hs1 := hb1.size)
      | (at_builtin; refine wpList_append_own _ rfl (.tmp 39) (.tmp 41) 26 rfl w.heap.size 3 i0 _ 1 8 Tryz.underlying26 hi hz0 hz1 hz2 rfl (by omega) _ _ _ rfl (hown1.alloc _) ⟨w1.heap.size, 0, none⟩ 1 1 [.int .i64 (x : Int)] rfl rfl one_cellI one_oneI (by unfold maxLen; omega) (by omega) (by rw [World.size_alloc]; omega) ?_; intro v2 w2 hown2 hg2 _; have hb2 := row_below (hown1.alloc (.cells #[.int .i64 (x : Int)] 3)) (hb1.alloc hs1 _) (by rw [World.size_alloc]; omega) hg2; have hs2 := hb2.size)
      | (at_builtin; refine wpList_append_rd rfl (.tmp 43) (.tmp 46) 26 rfl w.heap.size 3 i0 _ 1 8 Tryz.underlying26 hi hz0 hz1 hz2 rfl (by omega) _ _ _ rfl hown2 (some ⟨g, k, none⟩) (S.length - k) (cap - k) w.heap.size (ints (nI (S.drop k))) rfl (by rw [ints_length, nI_length, List.length_drop]; omega) (fun h => absurd h (by simp)) ((rd_drop0 k hr).below hb2) one_nI (by unfold maxLen; omega) (by omega) hs2 ?_; intro v3 w3 hown3 hg3; have hb3 := row_below hown2 hb2 hs2 hg3)
      | fail)
          go_returns
          exact HPn.out _ v3 hlt2 (row_to hown3 (by rw [nI_length, List.length_append, List.length_cons, List.length_take, List.length_drop]; omega) (by rw [List.nil_append]; exact nI_take_drop S k x)) hb3
    · obtain rfl : k = S.length := by omega
      have HPn := Lib.hid (fun (w' : World) (v' : Value) (hv : IRow w' w.heap.size v' (nI (S.take S.length ++ x :: S.drop S.length))) (hb : Below w.heap.size w w') => PostPut.new (g := g) (cap := cap) hk hlow (fun h => absurd h hlt) hv hb)
      clear hlow HLow
      by_cases hce : cap = S.length
      · subst hce
        go_wp2_with (first
      | (at_builtin; refine wpList_append_rd rfl (.tmp 34) (.tmp 37) 26 rfl w.heap.size 3 i0 _ 1 8 Tryz.underlying26 hi hz0 hz1 hz2 rfl (by omega) _ 0 [] rfl (row_empty w _ _) (some ⟨g, 0, none⟩) S.length S.length w.heap.size (ints (nI (S.take S.length))) rfl (by rw [ints_length, nI_length, List.length_take]; omega) (fun h => absurd h (by simp)) ((rd_piece S.length hr).1.below ((Below.refl _ _).alloc (Nat.le_refl _) _)) one_nI (by unfold maxLen; omega) (by omega) (by simp) ?_; intro v1 w1 hown1 hg1; have hb1 := row_below (row_empty w 3 1) ((Below.refl _ _).alloc (Nat.le_refl _) _) (by simp) hg1; have hs1 := hb1.size)
      | (at_builtin; refine wpList_append_own _ rfl (.tmp 39) (.tmp 41) 26 rfl w.heap.size 3 i0 _ 1 8 Tryz.underlying26 hi hz0 hz1 hz2 rfl (by omega) _ _ _ rfl (hown1.alloc _) ⟨w1.heap.size, 0, none⟩ 1 1 [.int .i64 (x : Int)] rfl rfl one_cellI one_oneI (by unfold maxLen; omega) (by omega) (by rw [World.size_alloc]; omega) ?_; intro v2 w2 hown2 hg2 _; have hb2 := row_below (hown1.alloc (.cells #[.int .i64 (x : Int)] 3)) (hb1.alloc hs1 _) (by rw [World.size_alloc]; omega) hg2; have hs2 := hb2.size)
      | (at_builtin; refine wpList_append_rd rfl (.tmp 43) (.tmp 46) 26 rfl w.heap.size 3 i0 _ 1 8 Tryz.underlying26 hi hz0 hz1 hz2 rfl (by omega) _ _ _ rfl hown2 (some ⟨g, 0, none⟩) 0 (0) w.heap.size (ints (nI (S.drop S.length))) rfl (by rw [ints_length, nI_length, List.length_drop]; omega) (fun h => absurd h (by simp)) (fun h => absurd h (by simp [nI, ints])) one_nI (by unfold maxLen; omega) (by omega) hs2 ?_; intro v3 w3 hown3 hg3; have hb3 := row_below hown2 hb2 hs2 hg3)
      | fail)
        go_returns
        exact HPn.out _ v3 (row_to hown3 (by rw [nI_length, List.length_append, List.length_cons, List.length_take, List.length_drop]; omega) (by rw [List.nil_append]; exact nI_take_drop S S.length x)) hb3
      · have hcl : S.length < cap := by omega
        go_wp2_with (first
      | (at_builtin; refine wpList_append_rd rfl (.tmp 34) (.tmp 37) 26 rfl w.heap.size 3 i0 _ 1 8 Tryz.underlying26 hi hz0 hz1 hz2 rfl (by omega) _ 0 [] rfl (row_empty w _ _) (some ⟨g, 0, none⟩) S.length cap w.heap.size (ints (nI (S.take S.length))) rfl (by rw [ints_length, nI_length, List.length_take]; omega) (fun h => absurd h (by simp)) ((rd_piece S.length hr).1.below ((Below.refl _ _).alloc (Nat.le_refl _) _)) one_nI (by unfold maxLen; omega) (by omega) (by simp) ?_; intro v1 w1 hown1 hg1; have hb1 := row_below (row_empty w 3 1) ((Below.refl _ _).alloc (Nat.le_refl _) _) (by simp) hg1; have hs1 := hb1.size)
      | (at_builtin; refine wpList_append_own _ rfl (.tmp 39) (.tmp 41) 26 rfl w.heap.size 3 i0 _ 1 8 Tryz.underlying26 hi hz0 hz1 hz2 rfl (by omega) _ _ _ rfl (hown1.alloc _) ⟨w1.heap.size, 0, none⟩ 1 1 [.int .i64 (x : Int)] rfl rfl one_cellI one_oneI (by unfold maxLen; omega) (by omega) (by rw [World.size_alloc]; omega) ?_; intro v2 w2 hown2 hg2 _; have hb2 := row_below (hown1.alloc (.cells #[.int .i64 (x : Int)] 3)) (hb1.alloc hs1 _) (by rw [World.size_alloc]; omega) hg2; have hs2 := hb2.size)
      | (at_builtin; refine wpList_append_rd rfl (.tmp 43) (.tmp 46) 26 rfl w.heap.size 3 i0 _ 1 8 Tryz.underlying26 hi hz0 hz1 hz2 rfl (by omega) _ _ _ rfl hown2 (some ⟨g, S.length, none⟩) 0 (cap - S.length) w.heap.size (ints (nI (S.drop S.length))) rfl (by rw [ints_length, nI_length, List.length_drop]; omega) (fun h => absurd h (by simp)) (fun h => absurd h (by simp [nI, ints])) one_nI (by unfold maxLen; omega) (by omega) hs2 ?_; intro v3 w3 hown3 hg3; have hb3 := row_below hown2 hb2 hs2 hg3)
      | fail)
        go_returns
        exact HPn.out _ v3 (row_to hown3 (by rw [nI_length, List.length_append, List.length_cons, List.length_take, List.length_drop]; omega) (by rw [List.nil_append]; exact nI_take_drop S S.length x)) hb3
theorem spec_l1Put (base n : Nat) (v : Value) (q : List Nat) (x : Nat) (w : World) (h : MRow w base v (sortN n q)) (hbase : base ≤ w.heap.size) (hx : x < n) (hn : n ≤ 90) :
    Calls Tryz.prog 48 #[v, .int .i64 (x : Int)] w fun e w' => ∃ v', e = .returned v' ∧ MRow w' base v' (sortN n (q ++ [x])) ∧ Below w.heap.size w w' := by
  have hlen := sortN_length (n := n) q
  by_cases hS : sortN n q = []
  · rw [h.2 hS]
    refine (spec_l1Put_nil x w).mono ?_
    rintro e w' ⟨v', rfl, h1, h2⟩
    have e2 := put_new (k := 0) (q := q) hx (Nat.zero_le _) (fun i _ h => absurd h (Nat.not_lt_zero i)) (fun h => absurd h (by rw [hS]; simp))
    rw [hS] at e2
    refine ⟨v', rfl, ⟨?_, fun h => ?_⟩, h2⟩
    · rw [e2]
      exact IRow.mono h1 hbase
    · rw [e2] at h
      cases h
  · have hpos : 0 < (sortN n q).length := List.length_pos_iff.2 hS
    rcases h.1.2 with ⟨_, h0⟩ | ⟨g, cap, cur, rfl, hbg, hh, hle, hmax, _, _⟩
    · rw [nI_length] at h0; omega
    · rw [nI_length] at hle
      have hrow := h.1
      obtain ⟨A, cp, e, ho, _⟩ := hrow.shape
      rw [nI_length] at e ⊢
      injection e with e1 e2 e3
      subst e1
      refine (spec_l1Put_some g cap (sortN n q) x w hpos (by omega) hle hmax ho.rd).mono ?_
      rintro e w' ⟨k, hk, hlow, ⟨hkl, hkx, rfl, hb⟩ | ⟨hhi, v', rfl, hv, hb⟩⟩
      · refine ⟨_, rfl, ⟨?_, fun h => ?_⟩, hb⟩
        · rw [put_same hkl hkx]
          have := hrow.keep hb
          rw [nI_length] at this
          exact this
        · rw [put_same hkl hkx] at h
          exact absurd h hS
      · refine ⟨v', rfl, ⟨?_, fun h => ?_⟩, hb⟩
        · rw [put_new hx hk hlow hhi]
          exact IRow.mono hv hbase
        · rw [put_new hx hk hlow hhi] at h
          simp at h
end Go.Proofs.YtlnekfbhpfhcpaaGreat
namespace Go.Proofs.YtlnekfbhpfhcpaaGreat
open Go.ChangeShapes Go.WideShapes Go.ChangeAt Go.RowKit Go.Joins Go.Deep
set_option linter.unusedSimpArgs false
set_option linter.unusedVariables false
set_option maxRecDepth 100000
set_option maxHeartbeats 4000000
theorem wayN_take {c : Nat} {wy : List (List Nat)} {i : Nat} (h : i < wy.length) : wayN c (wy.take (i + 1)) = wayN c (wy.take i) ++ [wy[i].getD 0 0 * c + wy[i].getD 1 0] := by
  unfold wayN
  rw [List.take_succ_eq_append_getElem h, List.map_append]
  rfl
theorem spec_MetCells_good (r c b o cap : Nat) (l : List (Int × Int)) (w : World) (hg : goodB (r : Int) (c : Int) l = true) (hn : l.length ≤ 1048576) (hr : Rd w w.heap.size (some ⟨b, o, none⟩) (flat l)) :
    Calls Tryz.prog 13 #[.agg #[.int .i64 (r : Int), .int .i64 (c : Int), .slice (some ⟨b, o, none⟩) l.length cap]] w (PostL w (nI (sortN l.length (metN (r : Int) (c : Int) l c))) true) := by
  have HG := Lib.hid hg
  obtain ⟨r', c', er, ec, hGe⟩ := geo_of hg
  obtain rfl : r = r' := by omega
  obtain rfl : c = c' := by omega
  obtain ⟨_, h90, hpos⟩ := goodB_parts hg
  obtain ⟨s1, s2, s3, s4⟩ := sizeB_iff.1 (goodB_iff.1 hg).1
  have hlrc := Lib.hid hGe.cells
  have HNl := Lib.hid (numL_len c l)
  have HGe := Lib.hid hGe
  clear er ec
  go_enter Tryz.func13, Tryz.ntmps13
  obtain ⟨v0, hv0⟩ : ∃ v, v = w.alloc (.cells #[.int .i64 (r : Int), .int .i64 (c : Int), .slice (some ⟨b, o, none⟩) l.length cap] 25) := ⟨_, rfl⟩; have X0 : Whole v0 w.heap.size 25 [.int .i64 (r : Int), .int .i64 (c : Int), .slice (some ⟨b, o, none⟩) l.length cap] := (by rw [hv0]; exact heap_alloc_new w _); have hb : Below w.heap.size w v0 := (by rw [hv0]; exact (Below.refl _ _).alloc (Nat.le_refl _) _); have HV := Lib.hid hv0.symm; clear hv0; go_upto_region 1 with (fail); rewrite [HV.out]; clear HV; have X0k0 : v0.cell? ⟨w.heap.size, 0, none⟩ = some (.int .i64 (r : Int)) := (X0.cell 0).trans rfl; have X0k1 : v0.cell? ⟨w.heap.size, 1, none⟩ = some (.int .i64 (c : Int)) := (X0.cell 1).trans rfl; have X0k2 : v0.cell? ⟨w.heap.size, 2, none⟩ = some (.slice (some ⟨b, o, none⟩) l.length cap) := (X0.cell 2).trans rfl
  go_wp2_with fail
  refine (spec_boGood _ _ _ _ l _ hn ((hr.below hb).mono hb.size)).mono ?_; rintro e w1 ⟨rfl, b1⟩
  rewrite [HG.out]
  (clear X0k0 X0k1 X0k2; replace X0 := X0.below b1 X0.lt; replace hb := hb.trans (b1.mono hb.size); clear b1; have X0k0 : w1.cell? ⟨w.heap.size, 0, none⟩ = some (.int .i64 (r : Int)) := (X0.cell 0).trans rfl; have X0k1 : w1.cell? ⟨w.heap.size, 1, none⟩ = some (.int .i64 (c : Int)) := (X0.cell 1).trans rfl; have X0k2 : w1.cell? ⟨w.heap.size, 2, none⟩ = some (.slice (some ⟨b, o, none⟩) l.length cap) := (X0.cell 2).trans rfl)
  go_wp2_with fail
  refine (spec_ggGroups r c (some ⟨b, o, none⟩) cap l _ HGe.out ((hr.below hb).mono hb.size)).mono ?_; rintro e w2 hP
  obtain ⟨A6, c6, rfl, o6, n6, b2⟩ := hP.value
  clear hP
  rewrite [HNl.out]
  have h6w : ∀ a, A6 = some a → w.heap.size < a.block := fun a ha => by have h1 := n6 a ha; have h2 := X0.lt; omega
  clear X0k0 X0k1 X0k2
  replace X0 := X0.below b2 X0.lt; replace hb := hb.trans (b2.mono hb.size); clear b2
  obtain ⟨g6, rest6, rfl, X6⟩ := o6 (by rw [ints_length, HNl.out]; omega)
  have h6 : w.heap.size < g6 := h6w _ rfl
  clear o6 n6 h6w
  go_wp2
  go_loopw [4, 6] (fun v i wr => ∃ k : Nat, i = .int .i64 k ∧ k ≤ c ∧ MRow wr w.heap.size v (sortN l.length (metN (r : Int) (c : Int) l k)) ∧ Whole wr w.heap.size 25 [.int .i64 (r : Int), .int .i64 (c : Int), .slice (some ⟨b, o, none⟩) l.length cap] ∧ Whole wr g6 3 (ints (numL c l) ++ rest6) ∧ Below w.heap.size w wr) (fun _ i _ => c - (intOf i).toNat)
  case atStart => exact ⟨0, rfl, Nat.zero_le _, ⟨by rw [show sortN l.length (metN (r : Int) (c : Int) l 0) = [] from by simp [sortN, metN]]; exact IRow.nil, fun _ => rfl⟩, X0, X6, hb⟩
  case round =>
    clear X0 X6 hb
    obtain ⟨k, rfl, hk, hM, X0, X6, hb⟩ := hrel
    have hs := hb.size
    by_cases hlt : k < c
    · have HF := spec_flGo r c b o cap g6 c6 l (numL c l) rest6 k wr HGe.out hg ((hr.below hb).mono hs) HNl.out X6 hlt
      rw [HNl.out] at HF
      have hW := marO_wayOK (r := r) (l := l) hlt
      have hWl := flG_wayLen (numL c l) r c r 0 l k 0 []
      have HMt := Lib.hid (show metN (r : Int) (c : Int) l (k + 1) = metN (r : Int) (c : Int) l k ++ wayN c (flG (numL c l) r c r 0 l k 0 []).way from rfl)
      rw [show marO (r : Int) (c : Int) l (k : Int) = flG (numL c l) r c r 0 l k 0 [] from rfl] at hW
      generalize flG (numL c l) r c r 0 l k 0 [] = F at *
      generalize metN (r : Int) (c : Int) l k = Q at *
      have hWl9 : F.way.length ≤ 10 := by simp at hWl; omega
      clear hWl
      have X0k0 : wr.cell? ⟨w.heap.size, 0, none⟩ = some (.int .i64 (r : Int)) := (X0.cell 0).trans rfl; have X0k1 : wr.cell? ⟨w.heap.size, 1, none⟩ = some (.int .i64 (c : Int)) := (X0.cell 1).trans rfl; have X0k2 : wr.cell? ⟨w.heap.size, 2, none⟩ = some (.slice (some ⟨b, o, none⟩) l.length cap) := (X0.cell 2).trans rfl
      go_wp2_with fail
      refine HF.mono ?_; rintro e w5 ⟨A5, c5, v5, rfl, O5, N5, L5, b5⟩
      clear HF O5 N5
      clear X0k0 X0k1 X0k2
      replace hM := hM.keep b5
      replace X0 := X0.below b5 X0.lt
      replace X6 := X6.below b5 X6.lt
      replace hb := hb.trans (b5.mono hs)
      have hs5 := b5.size
      clear b5
      obtain ⟨A7, c7, rfl⟩ := L5.shape
      replace L5 := L5.mono hs
      go_upto_region 10 with (fail)
      obtain ⟨v7, hv7, Xf, Xb, b7, hz7⟩ := two_boxes w5 [.int .i64 F.e, .int .i64 F.row, .int .i64 F.col] 50 [.int .i64 (r : Int), .int .i64 (c : Int), .slice A5 l.length c5] 25
      rewrite [show (w5.alloc (.cells ([.int .i64 F.e, .int .i64 F.row, .int .i64 F.col] : List Value).toArray 50)).alloc (.cells ([.int .i64 (r : Int), .int .i64 (c : Int), .slice A5 l.length c5] : List Value).toArray 25) = v7 from hv7]
      clear hv7 Xf Xb hz7
      replace hM := hM.keep b7
      replace X0 := X0.below b7 X0.lt
      replace X6 := X6.below b7 X6.lt
      replace L5 := L5.keep b7
      replace hb := hb.trans (b7.mono hb.size)
      clear b7 hs hs5
      rw [show Q = Q ++ wayN c (F.way.take 0) by simp [wayN]] at hM
      go_loopw [4, 33] (fun v i wr => ∃ j : Nat, i = .int .i64 j ∧ j ≤ F.way.length ∧ MRow wr w.heap.size v (sortN l.length (Q ++ wayN c (F.way.take j))) ∧ Whole wr w.heap.size 25 [.int .i64 (r : Int), .int .i64 (c : Int), .slice (some ⟨b, o, none⟩) l.length cap] ∧ Whole wr g6 3 (ints (numL c l) ++ rest6) ∧ LRow wr w.heap.size (.slice A7 F.way.length c7) F.way ∧ Below w.heap.size w wr) (fun _ i _ => F.way.length - (intOf i).toNat)
      case atStart => exact ⟨0, rfl, Nat.zero_le _, hM, X0, X6, L5, hb⟩
      case round =>
        clear hM X0 X6 L5 hb
        obtain ⟨j, rfl, hj, hM, X0, X6, L5, hb⟩ := hrel
        have hs := hb.size
        by_cases hjl : j < F.way.length
        · obtain ⟨go, cap0, Aj, cj, e4, hh, hoj, hbj, hgo⟩ := L5.at_ hjl
          have eA : A7 = some ⟨go, 0, none⟩ := by injection e4
          subst eA
          clear e4
          have HWt := Lib.hid (wayN_take (c := c) hjl)
          obtain ⟨ra, rb, hp, hra, hrb⟩ := hW _ (List.getElem_mem hjl)
          have HLw := Lib.hid (L5)
          rw [hp] at hoj hh HWt
          clear hp L5
          obtain ⟨gj, restj, rfl, Xj⟩ := hoj (by simp [nI, ints])
          have p0 : wr.cell? ⟨gj, 0, none⟩ = some (.int .i64 (ra : Int)) := (Xj.cell 0).trans rfl
          have p1 : wr.cell? ⟨gj, 1, none⟩ = some (.int .i64 (rb : Int)) := (Xj.cell 1).trans rfl
          have hgj := Xj.lt
          have hyw := X0.lt
          have k0 : wr.cell? ⟨w.heap.size, 0, none⟩ = some (.int .i64 (r : Int)) := (X0.cell 0).trans rfl
          have k1 : wr.cell? ⟨w.heap.size, 1, none⟩ = some (.int .i64 (c : Int)) := (X0.cell 1).trans rfl
          have hix : ra * c + rb < l.length := by
            have h1 := Nat.mul_le_mul (show ra + 1 ≤ r by omega) (Nat.le_refl c)
            rw [Nat.succ_mul] at h1
            have h2 := hlrc.out
            omega
          have m1 : IntKind.i64.wrap ((ra : Int) * (c : Int)) = (ra : Int) * (c : Int) := by
            have e : (ra : Int) * (c : Int) = ((ra * c : Nat) : Int) := by push_cast; rfl
            rw [e]; exact IntWalk.i64_in _ (by omega)
          have m2 : IntKind.i64.wrap ((ra : Int) * (c : Int) + (rb : Int)) = ((ra * c + rb : Nat) : Int) := by
            have e : (ra : Int) * (c : Int) + (rb : Int) = ((ra * c + rb : Nat) : Int) := by push_cast; rfl
            rw [e]; exact IntWalk.i64_in _ (by omega)
          have HQp := Lib.hid (fun w0 h1 h2 => spec_l1Put w.heap.size l.length u4 (Q ++ wayN c (F.way.take j)) (ra * c + rb) w0 h1 h2 hix h90)
          have HQe := Lib.hid (show Q ++ wayN c (F.way.take (j + 1)) = Q ++ wayN c (F.way.take j) ++ [ra * c + rb] by rw [HWt.out, List.append_assoc]; rfl)
          generalize hixe : ra * c + rb = ix at *
          go_upto_region 12 with (fail)
          have KS := Lib.hid (fun (w' : World) (h : Below wr.heap.size wr w') => (⟨(h.cell (p := ⟨w.heap.size, 0, none⟩) hyw).trans k0, (h.cell (p := ⟨w.heap.size, 1, none⟩) hyw).trans k1, (h.cell (p := ⟨gj, 0, none⟩) hgj).trans p0, (h.cell (p := ⟨gj, 1, none⟩) hgj).trans p1⟩ : w'.cell? ⟨w.heap.size, 0, none⟩ = some (.int .i64 (r : Int)) ∧ w'.cell? ⟨w.heap.size, 1, none⟩ = some (.int .i64 (c : Int)) ∧ w'.cell? ⟨gj, 0, none⟩ = some (.int .i64 (ra : Int)) ∧ w'.cell? ⟨gj, 1, none⟩ = some (.int .i64 (rb : Int))))
          clear k0 k1 p0 p1 hh
          go_region_held3 (fun w' => w'.cell? ⟨w.heap.size, 0, none⟩ = some (.int .i64 (r : Int)) ∧ w'.cell? ⟨w.heap.size, 1, none⟩ = some (.int .i64 (c : Int)) ∧ w'.cell? ⟨gj, 0, none⟩ = some (.int .i64 (ra : Int)) ∧ w'.cell? ⟨gj, 1, none⟩ = some (.int .i64 (rb : Int)))
            (first | exact KS.out _ (by (repeat' (first | (with_reducible exact Below.refl _ _) | (with_reducible assumption) | (with_reducible refine Below.alloc ?_ ?_ _) | (with_reducible refine Below.setCell ?_ ?_ _) | (with_reducible refine Below.drew ?_) | (with_reducible refine below_drewN ?_ _) | (with_reducible refine Below.trans ?_ (Below.mono (by assumption) ?_)) | go_size))) | fail)
            ((first
              | (go_at_call 48; (with_reducible refine (HQp.out _ ?_ ?_).mono ?_); (focus exact hM.keep (by (repeat' (first | (with_reducible exact Below.refl _ _) | (with_reducible assumption) | (with_reducible refine Below.alloc ?_ ?_ _) | (with_reducible refine Below.setCell ?_ ?_ _) | (with_reducible refine Below.drew ?_) | (with_reducible refine below_drewN ?_ _) | (with_reducible refine Below.trans ?_ (Below.mono (by assumption) ?_)) | go_size)) : Below wr.heap.size wr _)); (focus exact Nat.le_trans hs (by (repeat' (first | (with_reducible exact Below.refl _ _) | (with_reducible assumption) | (with_reducible refine Below.alloc ?_ ?_ _) | (with_reducible refine Below.setCell ?_ ?_ _) | (with_reducible refine Below.drew ?_) | (with_reducible refine below_drewN ?_ _) | (with_reducible refine Below.trans ?_ (Below.mono (by assumption) ?_)) | go_size)) : Below wr.heap.size wr _).size); rintro e w8 ⟨v8, rfl, hM8, b8⟩; have bb : Below wr.heap.size wr w8 := (by (repeat' (first | (with_reducible exact Below.refl _ _) | (with_reducible assumption) | (with_reducible refine Below.alloc ?_ ?_ _) | (with_reducible refine Below.setCell ?_ ?_ _) | (with_reducible refine Below.drew ?_) | (with_reducible refine below_drewN ?_ _) | (with_reducible refine Below.trans ?_ (Below.mono (by assumption) ?_)) | go_size))))
              | fail))
          all_goals (have L8 := HLw.out.keep bb; have X08 := X0.below bb X0.lt; have X68 := X6.below bb X6.lt; have B8 := hb.trans (bb.mono hs))
          all_goals rw [← HQe.out] at hM8
          all_goals clear KS HQp HLw hM X0 X6 hb Xj hoj b8 bb m1 m2
          all_goals go_wp2
          all_goals go_roundw
          all_goals first
            | exact ⟨j + 1, by go_num, by omega, hM8, X08, X68, L8, B8⟩
            | (simp [intOf]; omega)
            | fail
        · obtain rfl : j = F.way.length := by omega
          rw [List.take_length, ← HMt.out] at hM
          clear hjl
          have X0k0 : wr.cell? ⟨w.heap.size, 0, none⟩ = some (.int .i64 (r : Int)) := (X0.cell 0).trans rfl; have X0k1 : wr.cell? ⟨w.heap.size, 1, none⟩ = some (.int .i64 (c : Int)) := (X0.cell 1).trans rfl; have X0k2 : wr.cell? ⟨w.heap.size, 2, none⟩ = some (.slice (some ⟨b, o, none⟩) l.length cap) := (X0.cell 2).trans rfl
          go_wp2
          go_roundw
          case rel => exact ⟨k + 1, by go_num, by omega, hM, X0, X6, hb⟩
          case measure => simp [intOf]; omega
    · obtain rfl : k = c := by omega
      obtain ⟨A7, c7, rfl, ho, hnw⟩ := hM.1.shape
      have X0k0 : wr.cell? ⟨w.heap.size, 0, none⟩ = some (.int .i64 (r : Int)) := (X0.cell 0).trans rfl; have X0k1 : wr.cell? ⟨w.heap.size, 1, none⟩ = some (.int .i64 (k : Int)) := (X0.cell 1).trans rfl; have X0k2 : wr.cell? ⟨w.heap.size, 2, none⟩ = some (.slice (some ⟨b, o, none⟩) l.length cap) := (X0.cell 2).trans rfl
      clear hlt
      go_wp2
      go_returns
      exact PostL.mk ho hnw hb
end Go.Proofs.YtlnekfbhpfhcpaaGreat
