/- Contracts of the program and of the model, walked, part 9 of 11. No condition but what each says. -/
import Derived.Test.YtpfjbecpfdgnpaaM8
import Derived.Deep.RegionWith
namespace Go.Proofs.Ytpfjbecpfdgnpaa
open Go.ChangeShapes Go.WideShapes Go.ChangeAt Go.RowKit Go.Joins Go.Deep
set_option linter.unusedSimpArgs false
set_option linter.unusedVariables false
set_option maxRecDepth 100000
set_option maxHeartbeats 4000000
theorem spec_RunToEnd (R C : Int) (A : Option Addr) (cap : Nat) (l : List (Int × Int)) (p q bl rd nx : Int) (w : World) (hn : l.length ≤ 1048576) (hr : Rd w w.heap.size A (flat l)) :
    Calls Try.prog 48 #[.agg #[.int .i64 R, .int .i64 C, .slice A l.length cap, .int .i64 p, .int .i64 q, .int .i64 bl, .int .i64 rd, .int .i64 nx]] w (PostAI w (selI (okR R C l p q bl rd nx 60) R) (selI (okR R C l p q bl rd nx 60) C) (selI (okR R C l p q bl rd nx 60) p) (selI (okR R C l p q bl rd nx 60) q) (runO R C l p q bl rd nx 60) (runO R C l p q bl rd nx 60).fs.length (okR R C l p q bl rd nx 60)) := by
  have HQ := Lib.hid (fun w' h => spec_RunMachine R C A cap l p q bl rd nx 60 w' hn h)
  generalize selI (okR R C l p q bl rd nx 60) R = R5 at *
  generalize selI (okR R C l p q bl rd nx 60) C = C5 at *
  generalize selI (okR R C l p q bl rd nx 60) p = p5 at *
  generalize selI (okR R C l p q bl rd nx 60) q = q5 at *
  generalize runO R C l p q bl rd nx 60 = s at *
  generalize okR R C l p q bl rd nx 60 = ok at *
  go_enter Try.func48, Try.ntmps48
  obtain ⟨v0, hv0, X0, X1, B0, hz0⟩ := two_boxes w [.int .i64 R, .int .i64 C, .slice A l.length cap, .int .i64 p, .int .i64 q, .int .i64 bl, .int .i64 rd, .int .i64 nx] 56 [.int .i64 0, .int .i64 0, .slice none 0 0, .int .i64 0, .int .i64 0, .int .i64 0, .int .i64 0, .int .i64 0] 56; have HV := Lib.hid hv0; have hz : w.heap.size + 1 < v0.heap.size := (by omega); have hy : w.heap.size < v0.heap.size := (by omega); have hb0 := B0.size; clear hv0 hz0; go_wp2_with fail; rewrite [show (w.alloc (.cells ([.int .i64 R, .int .i64 C, .slice A l.length cap, .int .i64 p, .int .i64 q, .int .i64 bl, .int .i64 rd, .int .i64 nx] : List Value).toArray 56)).alloc (.cells ([.int .i64 0, .int .i64 0, .slice none 0 0, .int .i64 0, .int .i64 0, .int .i64 0, .int .i64 0, .int .i64 0] : List Value).toArray 56) = v0 from HV.out]; clear HV
  refine (HQ.out _ ((hr.below B0).mono B0.size)).mono ?_; rintro e w1 hP
  obtain ⟨A5, c5, rfl, O5, N5, b1⟩ := hP
  clear HQ
  have N5w : New w A5 := fun a ha => Nat.le_trans B0.size (N5 a ha)
  replace X0 := X0.below b1 X0.lt; replace X1 := X1.below b1 X1.lt; replace B0 := B0.trans (b1.mono B0.size); have hy := X0.lt; have hz := X1.lt; have hb0 := B0.size; clear b1
  obtain ⟨sl, sb, sr, sx, scs, sfs⟩ := s
  have X1k0 : w1.cell? ⟨w.heap.size + 1, 0, none⟩ = some (.int .i64 0) := (X1.cell 0).trans rfl; have X1k1 : w1.cell? ⟨w.heap.size + 1, 1, none⟩ = some (.int .i64 0) := (X1.cell 1).trans rfl; have X1k2 : w1.cell? ⟨w.heap.size + 1, 2, none⟩ = some (.slice none 0 0) := (X1.cell 2).trans rfl; have X1k3 : w1.cell? ⟨w.heap.size + 1, 3, none⟩ = some (.int .i64 0) := (X1.cell 3).trans rfl; have X1k4 : w1.cell? ⟨w.heap.size + 1, 4, none⟩ = some (.int .i64 0) := (X1.cell 4).trans rfl; have X1k5 : w1.cell? ⟨w.heap.size + 1, 5, none⟩ = some (.int .i64 0) := (X1.cell 5).trans rfl
  have X1k6 : w1.cell? ⟨w.heap.size + 1, 6, none⟩ = some (.int .i64 0) := (X1.cell 6).trans rfl; have X1k7 : w1.cell? ⟨w.heap.size + 1, 7, none⟩ = some (.int .i64 0) := (X1.cell 7).trans rfl
  have X1f0 := X1.frozen 0; have X1f1 := X1.frozen 1; have X1f2 := X1.frozen 2; have X1f3 := X1.frozen 3; have X1f4 := X1.frozen 4; have X1f5 := X1.frozen 5; have X1f6 := X1.frozen 6; have X1f7 := X1.frozen 7
  go_wp2
  rewrite [mset_fold]
  obtain ⟨v4, hv4⟩ : ∃ v4, v4 = mset w1 (w.heap.size + 1) (.int .i64 R5) (.int .i64 C5) (.slice A5 sl.length c5) (.int .i64 p5) (.int .i64 q5) (.int .i64 sb) (.int .i64 sr) (.int .i64 sx) := ⟨_, rfl⟩
  have Z1 : Whole v4 (w.heap.size + 1) 56 [.int .i64 R5, .int .i64 C5, .slice A5 sl.length c5, .int .i64 p5, .int .i64 q5, .int .i64 sb, .int .i64 sr, .int .i64 sx] := by rw [hv4]; exact X1.mset _ _ _ _ _ _ _ _
  replace O5 : Own v4 A5 27 (flat sl) := by rw [hv4]; exact own_mset O5 X1 (by decide)
  replace B0 : Below w.heap.size w v4 := by rw [hv4]; exact below_mset B0 (by omega)
  clear X1k0 X1k1 X1k2 X1k3 X1k4 X1k5 X1k6 X1k7
  clear X1f0 X1f1 X1f2 X1f3 X1f4 X1f5 X1f6 X1f7
  rewrite [← hv4]
  clear hv4
  have Z1k0 : v4.cell? ⟨w.heap.size + 1, 0, none⟩ = some (.int .i64 R5) := (Z1.cell 0).trans rfl; have Z1k1 : v4.cell? ⟨w.heap.size + 1, 1, none⟩ = some (.int .i64 C5) := (Z1.cell 1).trans rfl; have Z1k2 : v4.cell? ⟨w.heap.size + 1, 2, none⟩ = some (.slice A5 sl.length c5) := (Z1.cell 2).trans rfl; have Z1k3 : v4.cell? ⟨w.heap.size + 1, 3, none⟩ = some (.int .i64 p5) := (Z1.cell 3).trans rfl; have Z1k4 : v4.cell? ⟨w.heap.size + 1, 4, none⟩ = some (.int .i64 q5) := (Z1.cell 4).trans rfl; have Z1k5 : v4.cell? ⟨w.heap.size + 1, 5, none⟩ = some (.int .i64 sb) := (Z1.cell 5).trans rfl
  have Z1k6 : v4.cell? ⟨w.heap.size + 1, 6, none⟩ = some (.int .i64 sr) := (Z1.cell 6).trans rfl; have Z1k7 : v4.cell? ⟨w.heap.size + 1, 7, none⟩ = some (.int .i64 sx) := (Z1.cell 7).trans rfl
  refine bodyPost_ret (v := .tuple #[.agg #[.int .i64 R5, .int .i64 C5, .slice A5 sl.length c5, .int .i64 p5, .int .i64 q5, .int .i64 sb, .int .i64 sr, .int .i64 sx], .int .i64 (sfs.length : Int), .bool ok]) ?_ rfl ?_; (focus (simp [results, Try.results48, go_sem, *]; done))
  exact ⟨A5, c5, rfl, O5, N5w, B0⟩
theorem impl_RunToEnd (R C : Int) (A : Option Addr) (cap : Nat) (l : List (Int × Int)) (p q bl rd nx : Int) (w : World) (hn : l.length ≤ 1048576) (hr : Rd w w.heap.size A (flat l)) :
    Calls Try.prog 49 #[.agg #[.int .i64 R, .int .i64 C, .slice A l.length cap, .int .i64 p, .int .i64 q, .int .i64 bl, .int .i64 rd, .int .i64 nx]] w (PostAI w (selI (okR R C l p q bl rd nx 60) R) (selI (okR R C l p q bl rd nx 60) C) (selI (okR R C l p q bl rd nx 60) p) (selI (okR R C l p q bl rd nx 60) q) (runO R C l p q bl rd nx 60) (runO R C l p q bl rd nx 60).fs.length (okR R C l p q bl rd nx 60)) := by
  have HQ := Lib.hid (fun w' h => impl_RunMachine R C A cap l p q bl rd nx 60 w' hn h)
  generalize selI (okR R C l p q bl rd nx 60) R = R5 at *
  generalize selI (okR R C l p q bl rd nx 60) C = C5 at *
  generalize selI (okR R C l p q bl rd nx 60) p = p5 at *
  generalize selI (okR R C l p q bl rd nx 60) q = q5 at *
  generalize runO R C l p q bl rd nx 60 = s at *
  generalize okR R C l p q bl rd nx 60 = ok at *
  go_enter Try.func49, Try.ntmps49
  obtain ⟨v0, hv0, X0, X1, B0, hz0⟩ := two_boxes w [.int .i64 R, .int .i64 C, .slice A l.length cap, .int .i64 p, .int .i64 q, .int .i64 bl, .int .i64 rd, .int .i64 nx] 56 [.int .i64 0, .int .i64 0, .slice none 0 0, .int .i64 0, .int .i64 0, .int .i64 0, .int .i64 0, .int .i64 0] 56; have HV := Lib.hid hv0; have hz : w.heap.size + 1 < v0.heap.size := (by omega); have hy : w.heap.size < v0.heap.size := (by omega); have hb0 := B0.size; clear hv0 hz0; go_wp2_with fail; rewrite [show (w.alloc (.cells ([.int .i64 R, .int .i64 C, .slice A l.length cap, .int .i64 p, .int .i64 q, .int .i64 bl, .int .i64 rd, .int .i64 nx] : List Value).toArray 56)).alloc (.cells ([.int .i64 0, .int .i64 0, .slice none 0 0, .int .i64 0, .int .i64 0, .int .i64 0, .int .i64 0, .int .i64 0] : List Value).toArray 56) = v0 from HV.out]; clear HV
  refine (HQ.out _ ((hr.below B0).mono B0.size)).mono ?_; rintro e w1 hP
  obtain ⟨A5, c5, rfl, O5, N5, b1⟩ := hP
  clear HQ
  have N5w : New w A5 := fun a ha => Nat.le_trans B0.size (N5 a ha)
  replace X0 := X0.below b1 X0.lt; replace X1 := X1.below b1 X1.lt; replace B0 := B0.trans (b1.mono B0.size); have hy := X0.lt; have hz := X1.lt; have hb0 := B0.size; clear b1
  obtain ⟨sl, sb, sr, sx, scs, sfs⟩ := s
  have X1k0 : w1.cell? ⟨w.heap.size + 1, 0, none⟩ = some (.int .i64 0) := (X1.cell 0).trans rfl; have X1k1 : w1.cell? ⟨w.heap.size + 1, 1, none⟩ = some (.int .i64 0) := (X1.cell 1).trans rfl; have X1k2 : w1.cell? ⟨w.heap.size + 1, 2, none⟩ = some (.slice none 0 0) := (X1.cell 2).trans rfl; have X1k3 : w1.cell? ⟨w.heap.size + 1, 3, none⟩ = some (.int .i64 0) := (X1.cell 3).trans rfl; have X1k4 : w1.cell? ⟨w.heap.size + 1, 4, none⟩ = some (.int .i64 0) := (X1.cell 4).trans rfl; have X1k5 : w1.cell? ⟨w.heap.size + 1, 5, none⟩ = some (.int .i64 0) := (X1.cell 5).trans rfl
  have X1k6 : w1.cell? ⟨w.heap.size + 1, 6, none⟩ = some (.int .i64 0) := (X1.cell 6).trans rfl; have X1k7 : w1.cell? ⟨w.heap.size + 1, 7, none⟩ = some (.int .i64 0) := (X1.cell 7).trans rfl
  have X1f0 := X1.frozen 0; have X1f1 := X1.frozen 1; have X1f2 := X1.frozen 2; have X1f3 := X1.frozen 3; have X1f4 := X1.frozen 4; have X1f5 := X1.frozen 5; have X1f6 := X1.frozen 6; have X1f7 := X1.frozen 7
  go_wp2
  rewrite [mset_fold]
  obtain ⟨v4, hv4⟩ : ∃ v4, v4 = mset w1 (w.heap.size + 1) (.int .i64 R5) (.int .i64 C5) (.slice A5 sl.length c5) (.int .i64 p5) (.int .i64 q5) (.int .i64 sb) (.int .i64 sr) (.int .i64 sx) := ⟨_, rfl⟩
  have Z1 : Whole v4 (w.heap.size + 1) 56 [.int .i64 R5, .int .i64 C5, .slice A5 sl.length c5, .int .i64 p5, .int .i64 q5, .int .i64 sb, .int .i64 sr, .int .i64 sx] := by rw [hv4]; exact X1.mset _ _ _ _ _ _ _ _
  replace O5 : Own v4 A5 27 (flat sl) := by rw [hv4]; exact own_mset O5 X1 (by decide)
  replace B0 : Below w.heap.size w v4 := by rw [hv4]; exact below_mset B0 (by omega)
  clear X1k0 X1k1 X1k2 X1k3 X1k4 X1k5 X1k6 X1k7
  clear X1f0 X1f1 X1f2 X1f3 X1f4 X1f5 X1f6 X1f7
  rewrite [← hv4]
  clear hv4
  have Z1k0 : v4.cell? ⟨w.heap.size + 1, 0, none⟩ = some (.int .i64 R5) := (Z1.cell 0).trans rfl; have Z1k1 : v4.cell? ⟨w.heap.size + 1, 1, none⟩ = some (.int .i64 C5) := (Z1.cell 1).trans rfl; have Z1k2 : v4.cell? ⟨w.heap.size + 1, 2, none⟩ = some (.slice A5 sl.length c5) := (Z1.cell 2).trans rfl; have Z1k3 : v4.cell? ⟨w.heap.size + 1, 3, none⟩ = some (.int .i64 p5) := (Z1.cell 3).trans rfl; have Z1k4 : v4.cell? ⟨w.heap.size + 1, 4, none⟩ = some (.int .i64 q5) := (Z1.cell 4).trans rfl; have Z1k5 : v4.cell? ⟨w.heap.size + 1, 5, none⟩ = some (.int .i64 sb) := (Z1.cell 5).trans rfl
  have Z1k6 : v4.cell? ⟨w.heap.size + 1, 6, none⟩ = some (.int .i64 sr) := (Z1.cell 6).trans rfl; have Z1k7 : v4.cell? ⟨w.heap.size + 1, 7, none⟩ = some (.int .i64 sx) := (Z1.cell 7).trans rfl
  refine bodyPost_ret (v := .tuple #[.agg #[.int .i64 R5, .int .i64 C5, .slice A5 sl.length c5, .int .i64 p5, .int .i64 q5, .int .i64 sb, .int .i64 sr, .int .i64 sx], .int .i64 (sfs.length : Int), .bool ok]) ?_ rfl ?_; (focus (simp [results, Try.results49, go_sem, *]; done))
  exact ⟨A5, c5, rfl, O5, N5w, B0⟩
theorem okR_60 (R C : Int) (l : List (Int × Int)) (p q bl rd nx : Int) : okR R C l p q bl rd nx 60 = okM R C l p q bl rd nx := by
  unfold okR
  rw [show inM 0 60 60 = true from by decide, Bool.and_true]
/-- The state in which the whole run ends. -/
def finO (R C : Int) (l : List (Int × Int)) (p q bl rd nx : Int) : MSt := if okM R C l p q bl rd nx then runM R C p q 60 ⟨l, bl, rd, nx, [], []⟩ else noM
theorem runO_60 (R C : Int) (l : List (Int × Int)) (p q bl rd nx : Int) : runO R C l p q bl rd nx 60 = finO R C l p q bl rd nx := by
  unfold runO finO
  rw [okR_60]
  rfl
def endO (s : MSt) : Int := if s.nx = 2 then 1 else 0
theorem impl_EndOfRun (R C : Int) (A : Option Addr) (cap : Nat) (l : List (Int × Int)) (p q bl rd nx : Int) (w : World) (hn : l.length ≤ 1048576) (hr : Rd w w.heap.size A (flat l)) :
    Calls Try.prog 60 #[.agg #[.int .i64 R, .int .i64 C, .slice A l.length cap, .int .i64 p, .int .i64 q, .int .i64 bl, .int .i64 rd, .int .i64 nx]] w fun e w' => e = .returned (.tuple #[.int .i64 (endO (finO R C l p q bl rd nx)), .bool (okM R C l p q bl rd nx)]) ∧ Below w.heap.size w w' := by
  have HQ := Lib.hid (fun w' h => impl_RunToEnd R C A cap l p q bl rd nx w' hn h)
  rw [runO_60, okR_60] at HQ
  generalize selI (okM R C l p q bl rd nx) R = R5 at *
  generalize selI (okM R C l p q bl rd nx) C = C5 at *
  generalize selI (okM R C l p q bl rd nx) p = p5 at *
  generalize selI (okM R C l p q bl rd nx) q = q5 at *
  generalize finO R C l p q bl rd nx = s at *
  generalize okM R C l p q bl rd nx = ok at *
  by_cases h2 : s.nx = 2
  · have HE := Lib.hid (show endO s = 1 from if_pos h2)
    rewrite [HE.out]
    go_enter Try.func60, Try.ntmps60
    obtain ⟨v0, hv0⟩ : ∃ v, v = w.alloc (.cells #[.int .i64 R, .int .i64 C, .slice A l.length cap, .int .i64 p, .int .i64 q, .int .i64 bl, .int .i64 rd, .int .i64 nx] 56) := ⟨_, rfl⟩; have X0 : Whole v0 w.heap.size 56 [.int .i64 R, .int .i64 C, .slice A l.length cap, .int .i64 p, .int .i64 q, .int .i64 bl, .int .i64 rd, .int .i64 nx] := (by rw [hv0]; exact heap_alloc_new w _); have hb : Below w.heap.size w v0 := (by rw [hv0]; exact (Below.refl _ _).alloc (Nat.le_refl _) _); have HV := Lib.hid hv0.symm; clear hv0; go_upto_region 1 with (fail); rewrite [HV.out]; clear HV; have hy := X0.lt
    have X0k0 : v0.cell? ⟨w.heap.size, 0, none⟩ = some (.int .i64 R) := (X0.cell 0).trans rfl; have X0k1 : v0.cell? ⟨w.heap.size, 1, none⟩ = some (.int .i64 C) := (X0.cell 1).trans rfl; have X0k2 : v0.cell? ⟨w.heap.size, 2, none⟩ = some (.slice A l.length cap) := (X0.cell 2).trans rfl; have X0k3 : v0.cell? ⟨w.heap.size, 3, none⟩ = some (.int .i64 p) := (X0.cell 3).trans rfl; have X0k4 : v0.cell? ⟨w.heap.size, 4, none⟩ = some (.int .i64 q) := (X0.cell 4).trans rfl; have X0k5 : v0.cell? ⟨w.heap.size, 5, none⟩ = some (.int .i64 bl) := (X0.cell 5).trans rfl; have X0k6 : v0.cell? ⟨w.heap.size, 6, none⟩ = some (.int .i64 rd) := (X0.cell 6).trans rfl; have X0k7 : v0.cell? ⟨w.heap.size, 7, none⟩ = some (.int .i64 nx) := (X0.cell 7).trans rfl
    go_wp2_with fail
    refine (HQ.out _ ((hr.below hb).mono hb.size)).mono ?_; rintro e w1 hP
    obtain ⟨A5, c5, rfl, O5, N5, b1⟩ := hP
    clear HQ
    clear X0k0 X0k1 X0k2 X0k3 X0k4 X0k5 X0k6 X0k7
    (replace X0 := X0.below b1 X0.lt; replace hb := hb.trans (b1.mono hb.size); have hy := X0.lt; clear b1)
    obtain ⟨sl, sb, sr, sx, scs, sfs⟩ := s
    obtain rfl : sx = 2 := h2
    go_wp2
    go_returns
    exact ⟨rfl, by (repeat' (first | (with_reducible exact Below.refl _ _) | (with_reducible assumption) | (with_reducible refine Below.alloc ?_ ?_ _) | (with_reducible refine Below.setCell ?_ ?_ _) | (with_reducible refine Below.drew ?_) | (with_reducible refine below_drewN ?_ _) | (with_reducible refine Below.trans ?_ (Below.mono (by assumption) ?_)) | (with_reducible exact Nat.le_refl _) | (simp; done) | omega | (simp at *; omega)))⟩
  · have HE := Lib.hid (show endO s = 0 from if_neg h2)
    rewrite [HE.out]
    go_enter Try.func60, Try.ntmps60
    obtain ⟨v0, hv0⟩ : ∃ v, v = w.alloc (.cells #[.int .i64 R, .int .i64 C, .slice A l.length cap, .int .i64 p, .int .i64 q, .int .i64 bl, .int .i64 rd, .int .i64 nx] 56) := ⟨_, rfl⟩; have X0 : Whole v0 w.heap.size 56 [.int .i64 R, .int .i64 C, .slice A l.length cap, .int .i64 p, .int .i64 q, .int .i64 bl, .int .i64 rd, .int .i64 nx] := (by rw [hv0]; exact heap_alloc_new w _); have hb : Below w.heap.size w v0 := (by rw [hv0]; exact (Below.refl _ _).alloc (Nat.le_refl _) _); have HV := Lib.hid hv0.symm; clear hv0; go_upto_region 1 with (fail); rewrite [HV.out]; clear HV; have hy := X0.lt
    have X0k0 : v0.cell? ⟨w.heap.size, 0, none⟩ = some (.int .i64 R) := (X0.cell 0).trans rfl; have X0k1 : v0.cell? ⟨w.heap.size, 1, none⟩ = some (.int .i64 C) := (X0.cell 1).trans rfl; have X0k2 : v0.cell? ⟨w.heap.size, 2, none⟩ = some (.slice A l.length cap) := (X0.cell 2).trans rfl; have X0k3 : v0.cell? ⟨w.heap.size, 3, none⟩ = some (.int .i64 p) := (X0.cell 3).trans rfl; have X0k4 : v0.cell? ⟨w.heap.size, 4, none⟩ = some (.int .i64 q) := (X0.cell 4).trans rfl; have X0k5 : v0.cell? ⟨w.heap.size, 5, none⟩ = some (.int .i64 bl) := (X0.cell 5).trans rfl; have X0k6 : v0.cell? ⟨w.heap.size, 6, none⟩ = some (.int .i64 rd) := (X0.cell 6).trans rfl; have X0k7 : v0.cell? ⟨w.heap.size, 7, none⟩ = some (.int .i64 nx) := (X0.cell 7).trans rfl
    go_wp2_with fail
    refine (HQ.out _ ((hr.below hb).mono hb.size)).mono ?_; rintro e w1 hP
    obtain ⟨A5, c5, rfl, O5, N5, b1⟩ := hP
    clear HQ
    clear X0k0 X0k1 X0k2 X0k3 X0k4 X0k5 X0k6 X0k7
    (replace X0 := X0.below b1 X0.lt; replace hb := hb.trans (b1.mono hb.size); have hy := X0.lt; clear b1)
    obtain ⟨sl, sb, sr, sx, scs, sfs⟩ := s
    have hb2 : (sx == 2) = false := by simpa using h2
    go_wp2
    go_returns
    exact ⟨rfl, by (repeat' (first | (with_reducible exact Below.refl _ _) | (with_reducible assumption) | (with_reducible refine Below.alloc ?_ ?_ _) | (with_reducible refine Below.setCell ?_ ?_ _) | (with_reducible refine Below.drew ?_) | (with_reducible refine below_drewN ?_ _) | (with_reducible refine Below.trans ?_ (Below.mono (by assumption) ?_)) | (with_reducible exact Nat.le_refl _) | (simp; done) | omega | (simp at *; omega)))⟩
theorem spec_EndOfRun (R C : Int) (A : Option Addr) (cap : Nat) (l : List (Int × Int)) (p q bl rd nx : Int) (w : World) (hn : l.length ≤ 1048576) (hr : Rd w w.heap.size A (flat l)) :
    Calls Try.prog 59 #[.agg #[.int .i64 R, .int .i64 C, .slice A l.length cap, .int .i64 p, .int .i64 q, .int .i64 bl, .int .i64 rd, .int .i64 nx]] w fun e w' => e = .returned (.tuple #[.int .i64 (endO (finO R C l p q bl rd nx)), .bool (okM R C l p q bl rd nx)]) ∧ Below w.heap.size w w' := by
  unfold finO
  rcases Bool.eq_false_or_eq_true (okM R C l p q bl rd nx) with ho | ho
  · have HO := Lib.hid ho
    rw [ho, if_pos rfl]
    obtain ⟨r, c, rfl, rfl, hG, hg, hp, hq⟩ := okM_ints ho
    obtain ⟨_, _, hpos⟩ := goodB_parts hg
    obtain ⟨b, o, rfl, hbl, hc⟩ := hr (by rw [flat_length]; omega)
    have hr' : Rd w w.heap.size (some ⟨b, o, none⟩) (flat l) := fun _ => ⟨b, o, rfl, hbl, hc⟩
    have hmk := MOk.run hp hq 60 _ (MOk.start ho)
    have HG := Lib.hid (fun w' h => spec_maRun r c b o cap l p q bl rd nx 60 w' ho (by omega) h)
    generalize runM (r : Int) (c : Int) p q 60 ⟨l, bl, rd, nx, [], []⟩ = s at *
    have hx0 := hmk.nx0
    have hx1 := hmk.nx1
    obtain ⟨sl, sb, sr, sx, scs, sfs⟩ := s
    clear ho hr hG hg hp hq hc hbl hmk
    have HE := Lib.hid (show endO ⟨sl, sb, sr, sx, scs, sfs⟩ = sx / 2 by
      have h0 : 0 ≤ sx := hx0
      have h1 : sx ≤ 2 := hx1
      unfold endO
      show (if sx = 2 then (1 : Int) else 0) = _
      split <;> omega)
    have h0 : 0 ≤ sx := hx0
    have h1 : sx ≤ 2 := hx1
    have h3 : sx = 0 ∨ sx = 1 ∨ sx = 2 := by omega
    clear hx0 hx1
    rewrite [HE.out]
    clear HE
    go_enter Try.func59, Try.ntmps59
    obtain ⟨v0, hv0⟩ : ∃ v, v = w.alloc (.cells #[.int .i64 (r : Int), .int .i64 (c : Int), .slice (some ⟨b, o, none⟩) l.length cap, .int .i64 p, .int .i64 q, .int .i64 bl, .int .i64 rd, .int .i64 nx] 56) := ⟨_, rfl⟩; have X0 : Whole v0 w.heap.size 56 [.int .i64 (r : Int), .int .i64 (c : Int), .slice (some ⟨b, o, none⟩) l.length cap, .int .i64 p, .int .i64 q, .int .i64 bl, .int .i64 rd, .int .i64 nx] := (by rw [hv0]; exact heap_alloc_new w _); have hb : Below w.heap.size w v0 := (by rw [hv0]; exact (Below.refl _ _).alloc (Nat.le_refl _) _); have HV := Lib.hid hv0.symm; clear hv0; go_upto_region 1 with (fail); rewrite [HV.out]; clear HV; have hy := X0.lt
    have X0k0 : v0.cell? ⟨w.heap.size, 0, none⟩ = some (.int .i64 (r : Int)) := (X0.cell 0).trans rfl; have X0k1 : v0.cell? ⟨w.heap.size, 1, none⟩ = some (.int .i64 (c : Int)) := (X0.cell 1).trans rfl; have X0k2 : v0.cell? ⟨w.heap.size, 2, none⟩ = some (.slice (some ⟨b, o, none⟩) l.length cap) := (X0.cell 2).trans rfl; have X0k3 : v0.cell? ⟨w.heap.size, 3, none⟩ = some (.int .i64 p) := (X0.cell 3).trans rfl; have X0k4 : v0.cell? ⟨w.heap.size, 4, none⟩ = some (.int .i64 q) := (X0.cell 4).trans rfl; have X0k5 : v0.cell? ⟨w.heap.size, 5, none⟩ = some (.int .i64 bl) := (X0.cell 5).trans rfl; have X0k6 : v0.cell? ⟨w.heap.size, 6, none⟩ = some (.int .i64 rd) := (X0.cell 6).trans rfl; have X0k7 : v0.cell? ⟨w.heap.size, 7, none⟩ = some (.int .i64 nx) := (X0.cell 7).trans rfl
    go_wp2_with fail
    refine (spec_maGood _ _ _ _ l _ _ _ _ _ _ hn ((hr'.below hb).mono hb.size)).mono ?_; rintro e w1 ⟨rfl, b1⟩
    clear X0k0 X0k1 X0k2 X0k3 X0k4 X0k5 X0k6 X0k7
    (replace X0 := X0.below b1 X0.lt; replace hb := hb.trans (b1.mono hb.size); have hy := X0.lt; clear b1)
    rewrite [HO.out]
    have X0k0 : w1.cell? ⟨w.heap.size, 0, none⟩ = some (.int .i64 (r : Int)) := (X0.cell 0).trans rfl; have X0k1 : w1.cell? ⟨w.heap.size, 1, none⟩ = some (.int .i64 (c : Int)) := (X0.cell 1).trans rfl; have X0k2 : w1.cell? ⟨w.heap.size, 2, none⟩ = some (.slice (some ⟨b, o, none⟩) l.length cap) := (X0.cell 2).trans rfl; have X0k3 : w1.cell? ⟨w.heap.size, 3, none⟩ = some (.int .i64 p) := (X0.cell 3).trans rfl; have X0k4 : w1.cell? ⟨w.heap.size, 4, none⟩ = some (.int .i64 q) := (X0.cell 4).trans rfl; have X0k5 : w1.cell? ⟨w.heap.size, 5, none⟩ = some (.int .i64 bl) := (X0.cell 5).trans rfl; have X0k6 : w1.cell? ⟨w.heap.size, 6, none⟩ = some (.int .i64 rd) := (X0.cell 6).trans rfl; have X0k7 : w1.cell? ⟨w.heap.size, 7, none⟩ = some (.int .i64 nx) := (X0.cell 7).trans rfl
    go_wp2_with fail
    refine (HG.out _ ((hr'.below hb).mono hb.size)).mono ?_; rintro e w3 hP
    obtain ⟨A5, c5, v2, v3, rfl, O5, N5, h2, h3', b3⟩ := hP
    clear HG h2 h3' O5 N5
    clear X0k0 X0k1 X0k2 X0k3 X0k4 X0k5 X0k6 X0k7
    (replace X0 := X0.below b3 X0.lt; replace hb := hb.trans (b3.mono hb.size); have hy := X0.lt; clear b3)
    rcases h3 with rfl | rfl | rfl
    · go_wp2
      go_returns
      exact ⟨rfl, by (repeat' (first | (with_reducible exact Below.refl _ _) | (with_reducible assumption) | (with_reducible refine Below.alloc ?_ ?_ _) | (with_reducible refine Below.setCell ?_ ?_ _) | (with_reducible refine Below.drew ?_) | (with_reducible refine below_drewN ?_ _) | (with_reducible refine Below.trans ?_ (Below.mono (by assumption) ?_)) | (with_reducible exact Nat.le_refl _) | (simp; done) | omega | (simp at *; omega)))⟩
    · go_wp2
      go_returns
      exact ⟨rfl, by (repeat' (first | (with_reducible exact Below.refl _ _) | (with_reducible assumption) | (with_reducible refine Below.alloc ?_ ?_ _) | (with_reducible refine Below.setCell ?_ ?_ _) | (with_reducible refine Below.drew ?_) | (with_reducible refine below_drewN ?_ _) | (with_reducible refine Below.trans ?_ (Below.mono (by assumption) ?_)) | (with_reducible exact Nat.le_refl _) | (simp; done) | omega | (simp at *; omega)))⟩
    · go_wp2
      go_returns
      exact ⟨rfl, by (repeat' (first | (with_reducible exact Below.refl _ _) | (with_reducible assumption) | (with_reducible refine Below.alloc ?_ ?_ _) | (with_reducible refine Below.setCell ?_ ?_ _) | (with_reducible refine Below.drew ?_) | (with_reducible refine below_drewN ?_ _) | (with_reducible refine Below.trans ?_ (Below.mono (by assumption) ?_)) | (with_reducible exact Nat.le_refl _) | (simp; done) | omega | (simp at *; omega)))⟩
  · have HO := Lib.hid ho
    rw [ho, if_neg (by decide)]
    clear ho
    go_enter Try.func59, Try.ntmps59
    obtain ⟨v0, hv0⟩ : ∃ v, v = w.alloc (.cells #[.int .i64 R, .int .i64 C, .slice A l.length cap, .int .i64 p, .int .i64 q, .int .i64 bl, .int .i64 rd, .int .i64 nx] 56) := ⟨_, rfl⟩; have X0 : Whole v0 w.heap.size 56 [.int .i64 R, .int .i64 C, .slice A l.length cap, .int .i64 p, .int .i64 q, .int .i64 bl, .int .i64 rd, .int .i64 nx] := (by rw [hv0]; exact heap_alloc_new w _); have hb : Below w.heap.size w v0 := (by rw [hv0]; exact (Below.refl _ _).alloc (Nat.le_refl _) _); have HV := Lib.hid hv0.symm; clear hv0; go_upto_region 1 with (fail); rewrite [HV.out]; clear HV; have hy := X0.lt
    have X0k0 : v0.cell? ⟨w.heap.size, 0, none⟩ = some (.int .i64 R) := (X0.cell 0).trans rfl; have X0k1 : v0.cell? ⟨w.heap.size, 1, none⟩ = some (.int .i64 C) := (X0.cell 1).trans rfl; have X0k2 : v0.cell? ⟨w.heap.size, 2, none⟩ = some (.slice A l.length cap) := (X0.cell 2).trans rfl; have X0k3 : v0.cell? ⟨w.heap.size, 3, none⟩ = some (.int .i64 p) := (X0.cell 3).trans rfl; have X0k4 : v0.cell? ⟨w.heap.size, 4, none⟩ = some (.int .i64 q) := (X0.cell 4).trans rfl; have X0k5 : v0.cell? ⟨w.heap.size, 5, none⟩ = some (.int .i64 bl) := (X0.cell 5).trans rfl; have X0k6 : v0.cell? ⟨w.heap.size, 6, none⟩ = some (.int .i64 rd) := (X0.cell 6).trans rfl; have X0k7 : v0.cell? ⟨w.heap.size, 7, none⟩ = some (.int .i64 nx) := (X0.cell 7).trans rfl
    go_wp2_with fail
    refine (spec_maGood _ _ _ _ l _ _ _ _ _ _ hn ((hr.below hb).mono hb.size)).mono ?_; rintro e w1 ⟨rfl, b1⟩
    clear X0k0 X0k1 X0k2 X0k3 X0k4 X0k5 X0k6 X0k7
    (replace X0 := X0.below b1 X0.lt; replace hb := hb.trans (b1.mono hb.size); have hy := X0.lt; clear b1)
    rewrite [HO.out]
    go_wp2
    go_returns
    exact ⟨rfl, hb⟩
end Go.Proofs.Ytpfjbecpfdgnpaa
namespace Go.Proofs.Ytpfjbecpfdgnpaa
open Go.ChangeShapes Go.WideShapes Go.ChangeAt Go.RowKit Go.Joins Go.Deep
set_option linter.unusedSimpArgs false
set_option linter.unusedVariables false
set_option maxRecDepth 100000
set_option maxHeartbeats 4000000
def okStp (R C : Int) (l : List (Int × Int)) (p q bl rd nx : Int) : Bool := okM R C l p q bl rd nx && canM bl rd nx
def stepO (R C : Int) (l : List (Int × Int)) (p q bl rd nx : Int) : MSt := if okStp R C l p q bl rd nx then stepM R C p q ⟨l, bl, rd, nx, [], []⟩ else noM
def endS (R C : Int) (l : List (Int × Int)) (p q bl rd nx : Int) : Int × Int × Int := if okStp R C l p q bl rd nx then ((marO R C l (colM p q nx)).e, (marO R C l (colM p q nx)).row, (marO R C l (colM p q nx)).col) else (0, 0, 0)
theorem stepO_len (R C : Int) (l : List (Int × Int)) (p q bl rd nx : Int) (hn : l.length ≤ 1048576) : (stepO R C l p q bl rd nx).l.length ≤ 1048576 := by
  unfold stepO
  split
  · show (marO R C l (colM p q nx)).cells.length ≤ _
    rw [marO_len]
    exact hn
  · exact Nat.zero_le _
/-- A machine of the call's own, the end of a marble, and whether it succeeds. -/
def PostAF (w : World) (R C : Int) (p q : Int) (s : MSt) (f : Int × Int × Int) (ok : Bool) (e : Ending) (w' : World) : Prop :=
  ∃ A' cap', e = .returned (.tuple #[.agg #[.int .i64 R, .int .i64 C, .slice A' s.l.length cap', .int .i64 p, .int .i64 q, .int .i64 s.bl, .int .i64 s.rd, .int .i64 s.nx], .agg #[.int .i64 f.1, .int .i64 f.2.1, .int .i64 f.2.2], .bool ok]) ∧ Own w' A' 27 (flat s.l) ∧ New w A' ∧ Below w.heap.size w w'
theorem PostAF.no {w w' : World} {R C : Int} {l : List (Int × Int)} {p q bl rd nx : Int} {ok : Bool} {sF : MSt} {f : Int × Int × Int} (h : okStp R C l p q bl rd nx = false) (HN : Hid (okStp R C l p q bl rd nx = ok)) (HF : Hid (stepO R C l p q bl rd nx = sF)) (HE : Hid (endS R C l p q bl rd nx = f)) (b : Below w.heap.size w w') :
    PostAF w (selI ok R) (selI ok C) (selI ok p) (selI ok q) sF f ok (.returned (.tuple #[(.agg #[.int .i64 0, .int .i64 0, .slice none 0 0, .int .i64 0, .int .i64 0, .int .i64 0, .int .i64 0, .int .i64 0]), .agg #[.int .i64 0, .int .i64 0, .int .i64 0], .bool false])) w' := by
  obtain rfl : ok = false := HN.out.symm.trans h
  obtain rfl : sF = noM := HF.out.symm.trans (by unfold stepO; rw [h]; rfl)
  obtain rfl : f = (0, 0, 0) := HE.out.symm.trans (by unfold endS; rw [h]; rfl)
  exact ⟨none, 0, rfl, Own.none_, New.none_, b⟩
theorem PostAF.yes {w w' : World} {R C : Int} {l : List (Int × Int)} {p q bl rd nx x y z : Int} {n c5 : Nat} {ok : Bool} {sF : MSt} {f : Int × Int × Int} {F : FlR} {A5 : Option Addr} (h : okStp R C l p q bl rd nx = true) (HN : Hid (okStp R C l p q bl rd nx = ok)) (HF : Hid (stepO R C l p q bl rd nx = sF)) (HE : Hid (endS R C l p q bl rd nx = f)) (hF : marO R C l (colM p q nx) = F) (hx : x = if nx = 0 then bl - 1 else bl) (hy : y = if nx = 0 then rd else rd - 1) (hz : z = nextM C F) (hn : l.length = n)
    (O : Own w' A5 27 (flat F.cells)) (N : New w A5) (b : Below w.heap.size w w') :
    PostAF w (selI ok R) (selI ok C) (selI ok p) (selI ok q) sF f ok (.returned (.tuple #[.agg #[.int .i64 R, .int .i64 C, .slice A5 n c5, .int .i64 p, .int .i64 q, .int .i64 x, .int .i64 y, .int .i64 z], .agg #[.int .i64 F.e, .int .i64 F.row, .int .i64 F.col], .bool true])) w' := by
  subst hF hx hy hz hn
  obtain rfl : ok = true := HN.out.symm.trans h
  obtain rfl : sF = stepM R C p q ⟨l, bl, rd, nx, [], []⟩ := HF.out.symm.trans (by unfold stepO; rw [h]; rfl)
  obtain rfl : f = ((marO R C l (colM p q nx)).e, (marO R C l (colM p q nx)).row, (marO R C l (colM p q nx)).col) := HE.out.symm.trans (by unfold endS; rw [h]; rfl)
  refine ⟨A5, c5, ?_, O, N, b⟩
  rw [show (stepM R C p q ⟨l, bl, rd, nx, [], []⟩).l.length = l.length from marO_len _ _ _ _]
  rfl
theorem spec_StepMachine (R C : Int) (A : Option Addr) (cap : Nat) (l : List (Int × Int)) (p q bl rd nx : Int) (w : World) (hn : l.length ≤ 1048576) (hr : Rd w w.heap.size A (flat l)) :
    Calls Try.prog 41 #[.agg #[.int .i64 R, .int .i64 C, .slice A l.length cap, .int .i64 p, .int .i64 q, .int .i64 bl, .int .i64 rd, .int .i64 nx]] w (PostAF w (selI (okStp R C l p q bl rd nx) R) (selI (okStp R C l p q bl rd nx) C) (selI (okStp R C l p q bl rd nx) p) (selI (okStp R C l p q bl rd nx) q) (stepO R C l p q bl rd nx) (endS R C l p q bl rd nx) (okStp R C l p q bl rd nx)) := by
  obtain ⟨ok, hN⟩ : ∃ ok, okStp R C l p q bl rd nx = ok := ⟨_, rfl⟩
  obtain ⟨sF, hF⟩ : ∃ s, stepO R C l p q bl rd nx = s := ⟨_, rfl⟩
  obtain ⟨f9, hE⟩ : ∃ f, endS R C l p q bl rd nx = f := ⟨_, rfl⟩
  rewrite [hN, hF, hE]
  have HN := Lib.hid hN
  have HF := Lib.hid hF
  have HE := Lib.hid hE
  clear hN hF hE
  rcases Bool.eq_false_or_eq_true (okM R C l p q bl rd nx) with ho | ho
  · have HO := Lib.hid ho
    rcases Bool.eq_false_or_eq_true (canM bl rd nx) with hc | hc
    · have HCn := Lib.hid hc
      obtain ⟨r, c, rfl, rfl, hG, hg, hp, hq⟩ := okM_ints ho
      obtain ⟨_, _, hpos⟩ := goodB_parts hg
      obtain ⟨b, o, rfl, hbl, hcc⟩ := hr (by rw [flat_length]; omega)
      have hr' : Rd w w.heap.size (some ⟨b, o, none⟩) (flat l) := fun _ => ⟨b, o, rfl, hbl, hcc⟩
      obtain ⟨-, -, -, y2, -, y4, -, -⟩ := okM_parts ho
      obtain ⟨col, hcol, hlt⟩ : ∃ j : Nat, colM p q nx = (j : Int) ∧ j < c := by
        rcases colM_or p q nx with e | e
        · exact ⟨p.toNat, by rw [e]; omega, by omega⟩
        · exact ⟨q.toNat, by rw [e]; omega, by omega⟩
      have HQ := Lib.hid (fun w' h => spec_maStep r c b o cap l p q bl rd nx col w' hg h hc y2 y4 hcol hlt)
      have HY := Lib.hid (show okStp (r : Int) (c : Int) l p q bl rd nx = true by unfold okStp; rw [ho, hc]; rfl)
      obtain ⟨F, hF⟩ : ∃ F, marO (r : Int) (c : Int) l (colM p q nx) = F := ⟨_, rfl⟩
      obtain ⟨xb, hxb⟩ : ∃ x, x = if nx = 0 then bl - 1 else bl := ⟨_, rfl⟩
      obtain ⟨xr, hxr⟩ : ∃ x, x = if nx = 0 then rd else rd - 1 := ⟨_, rfl⟩
      obtain ⟨xn, hxn⟩ : ∃ x, x = nextM (c : Int) F := ⟨_, rfl⟩
      rw [hF, ← hxb, ← hxr, ← hxn] at HQ
      have HHF := Lib.hid hF
      have HHb := Lib.hid hxb
      have HHr := Lib.hid hxr
      have HHn := Lib.hid hxn
      have HLn := Lib.hid (show F.cells.length = l.length by rw [← hF]; exact marO_len _ _ _ _)
      clear hF hxb hxr hxn hr hG hg hp hq hbl hcc ho hc hcol hlt y2 y4
      go_enter Try.func41, Try.ntmps41
      obtain ⟨v0, hv0, X0, X1, X2, B0, hz0⟩ := three_boxes w [.int .i64 (r : Int), .int .i64 (c : Int), .slice (some ⟨b, o, none⟩) l.length cap, .int .i64 p, .int .i64 q, .int .i64 bl, .int .i64 rd, .int .i64 nx] 56 [.int .i64 0, .int .i64 0, .slice none 0 0, .int .i64 0, .int .i64 0, .int .i64 0, .int .i64 0, .int .i64 0] 56 [.int .i64 0, .int .i64 0, .int .i64 0] 61; have HV := Lib.hid hv0; have hx : w.heap.size + 1 + 1 < v0.heap.size := (by omega); have hz : w.heap.size + 1 < v0.heap.size := (by omega); have hy : w.heap.size < v0.heap.size := (by omega); have hb0 := B0.size; clear hv0 hz0; go_wp2_with fail; rewrite [show ((w.alloc (.cells ([.int .i64 (r : Int), .int .i64 (c : Int), .slice (some ⟨b, o, none⟩) l.length cap, .int .i64 p, .int .i64 q, .int .i64 bl, .int .i64 rd, .int .i64 nx] : List Value).toArray 56)).alloc (.cells ([.int .i64 0, .int .i64 0, .slice none 0 0, .int .i64 0, .int .i64 0, .int .i64 0, .int .i64 0, .int .i64 0] : List Value).toArray 56)).alloc (.cells ([.int .i64 0, .int .i64 0, .int .i64 0] : List Value).toArray 61) = v0 from HV.out]; clear HV
      refine (spec_maGood _ _ _ _ l _ _ _ _ _ _ hn ((hr'.below B0).mono B0.size)).mono ?_; rintro e w1 ⟨rfl, b1⟩
      rewrite [HO.out]
      replace X0 := X0.below b1 X0.lt; replace X1 := X1.below b1 X1.lt; replace X2 := X2.below b1 X2.lt; replace B0 := B0.trans (b1.mono B0.size); have hy := X0.lt; have hz := X1.lt; have hx := X2.lt; have hb0 := B0.size; clear b1
      have X0k0 : w1.cell? ⟨w.heap.size, 0, none⟩ = some (.int .i64 (r : Int)) := (X0.cell 0).trans rfl; have X0k1 : w1.cell? ⟨w.heap.size, 1, none⟩ = some (.int .i64 (c : Int)) := (X0.cell 1).trans rfl; have X0k2 : w1.cell? ⟨w.heap.size, 2, none⟩ = some (.slice (some ⟨b, o, none⟩) l.length cap) := (X0.cell 2).trans rfl; have X0k3 : w1.cell? ⟨w.heap.size, 3, none⟩ = some (.int .i64 p) := (X0.cell 3).trans rfl; have X0k4 : w1.cell? ⟨w.heap.size, 4, none⟩ = some (.int .i64 q) := (X0.cell 4).trans rfl; have X0k5 : w1.cell? ⟨w.heap.size, 5, none⟩ = some (.int .i64 bl) := (X0.cell 5).trans rfl
      have X0k6 : w1.cell? ⟨w.heap.size, 6, none⟩ = some (.int .i64 rd) := (X0.cell 6).trans rfl; have X0k7 : w1.cell? ⟨w.heap.size, 7, none⟩ = some (.int .i64 nx) := (X0.cell 7).trans rfl
      go_wp2_with fail
      refine (spec_maCan _ _ _ _ l _ _ _ _ _ _).mono ?_; rintro e w2 ⟨rfl, b2⟩
      clear X0k0 X0k1 X0k2 X0k3 X0k4 X0k5 X0k6 X0k7
      rewrite [HCn.out]
      replace X0 := X0.below b2 X0.lt; replace X1 := X1.below b2 X1.lt; replace X2 := X2.below b2 X2.lt; replace B0 := B0.trans (b2.mono B0.size); have hy := X0.lt; have hz := X1.lt; have hx := X2.lt; have hb0 := B0.size; clear b2
      have X0k0 : w2.cell? ⟨w.heap.size, 0, none⟩ = some (.int .i64 (r : Int)) := (X0.cell 0).trans rfl; have X0k1 : w2.cell? ⟨w.heap.size, 1, none⟩ = some (.int .i64 (c : Int)) := (X0.cell 1).trans rfl; have X0k2 : w2.cell? ⟨w.heap.size, 2, none⟩ = some (.slice (some ⟨b, o, none⟩) l.length cap) := (X0.cell 2).trans rfl; have X0k3 : w2.cell? ⟨w.heap.size, 3, none⟩ = some (.int .i64 p) := (X0.cell 3).trans rfl; have X0k4 : w2.cell? ⟨w.heap.size, 4, none⟩ = some (.int .i64 q) := (X0.cell 4).trans rfl; have X0k5 : w2.cell? ⟨w.heap.size, 5, none⟩ = some (.int .i64 bl) := (X0.cell 5).trans rfl
      have X0k6 : w2.cell? ⟨w.heap.size, 6, none⟩ = some (.int .i64 rd) := (X0.cell 6).trans rfl; have X0k7 : w2.cell? ⟨w.heap.size, 7, none⟩ = some (.int .i64 nx) := (X0.cell 7).trans rfl
      go_wp2_with fail
      refine (HQ.out _ ((hr'.below B0).mono B0.size)).mono ?_; rintro e w3 hP
      obtain ⟨A5, c5, rfl, O5, n5, b3⟩ := hP
      clear HQ
      clear X0k0 X0k1 X0k2 X0k3 X0k4 X0k5 X0k6 X0k7
      have N5 : New w A5 := fun a ha => Nat.le_trans B0.size (n5 a ha)
      replace X0 := X0.below b3 X0.lt; replace X1 := X1.below b3 X1.lt; replace X2 := X2.below b3 X2.lt; replace B0 := B0.trans (b3.mono B0.size); have hy := X0.lt; have hz := X1.lt; have hx := X2.lt; have hb0 := B0.size; clear b3
      clear n5 X0
      obtain ⟨fe, fr, fc, sl, fw⟩ := F
      go_upto_region 4 with (fail)
      obtain ⟨v6, hv6⟩ : ∃ v6, v6 = (w3.alloc (.cells #[.int .i64 (r : Int), .int .i64 (c : Int), .slice A5 l.length c5, .int .i64 p, .int .i64 q, .int .i64 xb, .int .i64 xr, .int .i64 xn] 56)).alloc (.cells #[.int .i64 fe, .int .i64 fr, .int .i64 fc] 61) := ⟨_, rfl⟩
      have Xm : Whole v6 w3.heap.size 56 [.int .i64 (r : Int), .int .i64 (c : Int), .slice A5 l.length c5, .int .i64 p, .int .i64 q, .int .i64 xb, .int .i64 xr, .int .i64 xn] := by rw [hv6]; exact newW.alloc _
      have Xf : Whole v6 (w3.heap.size + 1) 61 [.int .i64 fe, .int .i64 fr, .int .i64 fc] := by rw [hv6]; exact newW1
      have b6 : Below w3.heap.size w3 v6 := by rw [hv6]; exact ((Below.refl _ _).alloc (Nat.le_refl _) _).alloc (by rw [World.size_alloc]; omega) _
      rewrite [← hv6]
      clear hv6
      replace X1 := X1.below b6 X1.lt
      replace X2 := X2.below b6 X2.lt
      replace O5 := O5.keep b6
      replace B0 := B0.trans (b6.mono B0.size)
      have hgm : w.heap.size + 1 + 1 < w3.heap.size := by omega
      generalize w3.heap.size = gm at *
      obtain ⟨gf, hgf⟩ : ∃ gf, gm + 1 = gf := ⟨_, rfl⟩
      have hgf2 : gm < gf := by omega
      rewrite [hgf]
      rw [hgf] at Xf
      clear b6 hy hz hx hb0 hgf
      have q1 : gm ≠ w.heap.size + 1 := by omega
      have q2 : gm ≠ w.heap.size + 1 + 1 := by omega
      have q3 : gf ≠ w.heap.size + 1 := by omega
      have q4 : gf ≠ w.heap.size + 1 + 1 := by omega
      have q5 := q1.symm
      have q6 := q2.symm
      have q7 := q3.symm
      have q8 := q4.symm
      have h1l := X1.lt
      have h2l := X2.lt
      have hml := Xm.lt
      have hfl := Xf.lt
      have n21 : w.heap.size + 1 + 1 ≠ w.heap.size + 1 := by omega
      have n12 : w.heap.size + 1 ≠ w.heap.size + 1 + 1 := by omega
      have Xmk0 : v6.cell? ⟨gm, 0, none⟩ = some (.int .i64 (r : Int)) := (Xm.cell 0).trans rfl; have Xmk1 : v6.cell? ⟨gm, 1, none⟩ = some (.int .i64 (c : Int)) := (Xm.cell 1).trans rfl; have Xmk2 : v6.cell? ⟨gm, 2, none⟩ = some (.slice A5 l.length c5) := (Xm.cell 2).trans rfl; have Xmk3 : v6.cell? ⟨gm, 3, none⟩ = some (.int .i64 p) := (Xm.cell 3).trans rfl; have Xmk4 : v6.cell? ⟨gm, 4, none⟩ = some (.int .i64 q) := (Xm.cell 4).trans rfl; have Xmk5 : v6.cell? ⟨gm, 5, none⟩ = some (.int .i64 xb) := (Xm.cell 5).trans rfl
      have Xmk6 : v6.cell? ⟨gm, 6, none⟩ = some (.int .i64 xr) := (Xm.cell 6).trans rfl; have Xmk7 : v6.cell? ⟨gm, 7, none⟩ = some (.int .i64 xn) := (Xm.cell 7).trans rfl
      have X1k0 : v6.cell? ⟨w.heap.size + 1, 0, none⟩ = some (.int .i64 0) := (X1.cell 0).trans rfl; have X1k1 : v6.cell? ⟨w.heap.size + 1, 1, none⟩ = some (.int .i64 0) := (X1.cell 1).trans rfl; have X1k2 : v6.cell? ⟨w.heap.size + 1, 2, none⟩ = some (.slice none 0 0) := (X1.cell 2).trans rfl; have X1k3 : v6.cell? ⟨w.heap.size + 1, 3, none⟩ = some (.int .i64 0) := (X1.cell 3).trans rfl; have X1k4 : v6.cell? ⟨w.heap.size + 1, 4, none⟩ = some (.int .i64 0) := (X1.cell 4).trans rfl; have X1k5 : v6.cell? ⟨w.heap.size + 1, 5, none⟩ = some (.int .i64 0) := (X1.cell 5).trans rfl
      have X1k6 : v6.cell? ⟨w.heap.size + 1, 6, none⟩ = some (.int .i64 0) := (X1.cell 6).trans rfl; have X1k7 : v6.cell? ⟨w.heap.size + 1, 7, none⟩ = some (.int .i64 0) := (X1.cell 7).trans rfl
      have X1f0 := X1.frozen 0; have X1f1 := X1.frozen 1; have X1f2 := X1.frozen 2; have X1f3 := X1.frozen 3; have X1f4 := X1.frozen 4; have X1f5 := X1.frozen 5; have X1f6 := X1.frozen 6; have X1f7 := X1.frozen 7
      have X2k0 : v6.cell? ⟨w.heap.size + 1 + 1, 0, none⟩ = some (.int .i64 0) := (X2.cell 0).trans rfl; have X2k1 : v6.cell? ⟨w.heap.size + 1 + 1, 1, none⟩ = some (.int .i64 0) := (X2.cell 1).trans rfl; have X2k2 : v6.cell? ⟨w.heap.size + 1 + 1, 2, none⟩ = some (.int .i64 0) := (X2.cell 2).trans rfl
      have X2f0 := X2.frozen 0; have X2f1 := X2.frozen 1; have X2f2 := X2.frozen 2
      have Xfk0 : v6.cell? ⟨gf, 0, none⟩ = some (.int .i64 fe) := (Xf.cell 0).trans rfl; have Xfk1 : v6.cell? ⟨gf, 1, none⟩ = some (.int .i64 fr) := (Xf.cell 1).trans rfl; have Xfk2 : v6.cell? ⟨gf, 2, none⟩ = some (.int .i64 fc) := (Xf.cell 2).trans rfl
      go_region
      go_wp2
      rewrite [mset_fold]
      obtain ⟨v9, hv9⟩ : ∃ v9, v9 = ((((mset v6 (w.heap.size + 1) (.int .i64 (r : Int)) (.int .i64 (c : Int)) (.slice A5 l.length c5) (.int .i64 p) (.int .i64 q) (.int .i64 xb) (.int .i64 xr) (.int .i64 xn)).setCell ⟨w.heap.size + 1 + 1, 0, none⟩ (.int .i64 fe)).setCell ⟨w.heap.size + 1 + 1, 1, none⟩ (.int .i64 fr)).setCell ⟨w.heap.size + 1 + 1, 2, none⟩ (.int .i64 fc)).drew := ⟨_, rfl⟩
      have Z1 : Whole v9 (w.heap.size + 1) 56 [.int .i64 (r : Int), .int .i64 (c : Int), .slice A5 l.length c5, .int .i64 p, .int .i64 q, .int .i64 xb, .int .i64 xr, .int .i64 xn] := by rw [hv9]; exact whole_drew (three_far (X1.mset _ _ _ _ _ _ _ _) n21)
      have Z2 : Whole v9 (w.heap.size + 1 + 1) 61 [.int .i64 fe, .int .i64 fr, .int .i64 fc] := by rw [hv9]; exact whole_drew (whole_three (X2.mset_far n12))
      have O9 : Own v9 A5 27 (flat sl) := by rw [hv9]; exact own_drew (own_three (own_mset O5 X1 (by decide)) (X2.mset_far n12) (by decide))
      have B9 : Below w.heap.size w v9 := by rw [hv9]; exact ((((below_mset B0 (by omega)).setCell (p := ⟨w.heap.size + 1 + 1, 0, none⟩) (by show w.heap.size ≤ w.heap.size + 1 + 1; omega) _).setCell (p := ⟨w.heap.size + 1 + 1, 1, none⟩) (by show w.heap.size ≤ w.heap.size + 1 + 1; omega) _).setCell (p := ⟨w.heap.size + 1 + 1, 2, none⟩) (by show w.heap.size ≤ w.heap.size + 1 + 1; omega) _).drew
      rewrite [← hv9]
      clear Xmk0 Xmk1 Xmk2 Xmk3 Xmk4 Xmk5 Xmk6 Xmk7
      clear X1k0 X1k1 X1k2 X1k3 X1k4 X1k5 X1k6 X1k7
      clear X2k0 X2k1 X2k2
      clear Xfk0 Xfk1 Xfk2
      clear X1f0 X1f1 X1f2 X1f3 X1f4 X1f5 X1f6 X1f7 X2f0 X2f1 X2f2 Xm Xf
      clear hv9 X1 X2 O5 B0
      have Z1k0 : v9.cell? ⟨w.heap.size + 1, 0, none⟩ = some (.int .i64 (r : Int)) := (Z1.cell 0).trans rfl; have Z1k1 : v9.cell? ⟨w.heap.size + 1, 1, none⟩ = some (.int .i64 (c : Int)) := (Z1.cell 1).trans rfl; have Z1k2 : v9.cell? ⟨w.heap.size + 1, 2, none⟩ = some (.slice A5 l.length c5) := (Z1.cell 2).trans rfl; have Z1k3 : v9.cell? ⟨w.heap.size + 1, 3, none⟩ = some (.int .i64 p) := (Z1.cell 3).trans rfl; have Z1k4 : v9.cell? ⟨w.heap.size + 1, 4, none⟩ = some (.int .i64 q) := (Z1.cell 4).trans rfl; have Z1k5 : v9.cell? ⟨w.heap.size + 1, 5, none⟩ = some (.int .i64 xb) := (Z1.cell 5).trans rfl
      have Z1k6 : v9.cell? ⟨w.heap.size + 1, 6, none⟩ = some (.int .i64 xr) := (Z1.cell 6).trans rfl; have Z1k7 : v9.cell? ⟨w.heap.size + 1, 7, none⟩ = some (.int .i64 xn) := (Z1.cell 7).trans rfl
      have Z2k0 : v9.cell? ⟨w.heap.size + 1 + 1, 0, none⟩ = some (.int .i64 fe) := (Z2.cell 0).trans rfl; have Z2k1 : v9.cell? ⟨w.heap.size + 1 + 1, 1, none⟩ = some (.int .i64 fr) := (Z2.cell 1).trans rfl; have Z2k2 : v9.cell? ⟨w.heap.size + 1 + 1, 2, none⟩ = some (.int .i64 fc) := (Z2.cell 2).trans rfl
      refine bodyPost_ret (v := .tuple #[.agg #[.int .i64 (r : Int), .int .i64 (c : Int), .slice A5 l.length c5, .int .i64 p, .int .i64 q, .int .i64 xb, .int .i64 xr, .int .i64 xn], .agg #[.int .i64 fe, .int .i64 fr, .int .i64 fc], .bool true]) ?_ rfl ?_; (focus (simp [results, Try.results41, go_sem, *]; done))
      exact PostAF.yes (F := ⟨fe, fr, fc, sl, fw⟩) HY.out HN HF HE HHF.out HHb.out HHr.out HHn.out rfl O9 N5 B9
    · have HCn := Lib.hid hc
      clear hc ho
      go_enter Try.func41, Try.ntmps41
      obtain ⟨v0, hv0, X0, X1, X2, B0, hz0⟩ := three_boxes w [.int .i64 R, .int .i64 C, .slice A l.length cap, .int .i64 p, .int .i64 q, .int .i64 bl, .int .i64 rd, .int .i64 nx] 56 [.int .i64 0, .int .i64 0, .slice none 0 0, .int .i64 0, .int .i64 0, .int .i64 0, .int .i64 0, .int .i64 0] 56 [.int .i64 0, .int .i64 0, .int .i64 0] 61; have HV := Lib.hid hv0; have hx : w.heap.size + 1 + 1 < v0.heap.size := (by omega); have hz : w.heap.size + 1 < v0.heap.size := (by omega); have hy : w.heap.size < v0.heap.size := (by omega); have hb0 := B0.size; clear hv0 hz0; go_wp2_with fail; rewrite [show ((w.alloc (.cells ([.int .i64 R, .int .i64 C, .slice A l.length cap, .int .i64 p, .int .i64 q, .int .i64 bl, .int .i64 rd, .int .i64 nx] : List Value).toArray 56)).alloc (.cells ([.int .i64 0, .int .i64 0, .slice none 0 0, .int .i64 0, .int .i64 0, .int .i64 0, .int .i64 0, .int .i64 0] : List Value).toArray 56)).alloc (.cells ([.int .i64 0, .int .i64 0, .int .i64 0] : List Value).toArray 61) = v0 from HV.out]; clear HV
      refine (spec_maGood _ _ _ _ l _ _ _ _ _ _ hn ((hr.below B0).mono B0.size)).mono ?_; rintro e w1 ⟨rfl, b1⟩
      rewrite [HO.out]
      replace X0 := X0.below b1 X0.lt; replace X1 := X1.below b1 X1.lt; replace X2 := X2.below b1 X2.lt; replace B0 := B0.trans (b1.mono B0.size); have hy := X0.lt; have hz := X1.lt; have hx := X2.lt; have hb0 := B0.size; clear b1
      have X0k0 : w1.cell? ⟨w.heap.size, 0, none⟩ = some (.int .i64 R) := (X0.cell 0).trans rfl; have X0k1 : w1.cell? ⟨w.heap.size, 1, none⟩ = some (.int .i64 C) := (X0.cell 1).trans rfl; have X0k2 : w1.cell? ⟨w.heap.size, 2, none⟩ = some (.slice A l.length cap) := (X0.cell 2).trans rfl; have X0k3 : w1.cell? ⟨w.heap.size, 3, none⟩ = some (.int .i64 p) := (X0.cell 3).trans rfl; have X0k4 : w1.cell? ⟨w.heap.size, 4, none⟩ = some (.int .i64 q) := (X0.cell 4).trans rfl; have X0k5 : w1.cell? ⟨w.heap.size, 5, none⟩ = some (.int .i64 bl) := (X0.cell 5).trans rfl
      have X0k6 : w1.cell? ⟨w.heap.size, 6, none⟩ = some (.int .i64 rd) := (X0.cell 6).trans rfl; have X0k7 : w1.cell? ⟨w.heap.size, 7, none⟩ = some (.int .i64 nx) := (X0.cell 7).trans rfl
      go_wp2_with fail
      refine (spec_maCan _ _ _ _ l _ _ _ _ _ _).mono ?_; rintro e w2 ⟨rfl, b2⟩
      clear X0k0 X0k1 X0k2 X0k3 X0k4 X0k5 X0k6 X0k7
      rewrite [HCn.out]
      replace X0 := X0.below b2 X0.lt; replace X1 := X1.below b2 X1.lt; replace X2 := X2.below b2 X2.lt; replace B0 := B0.trans (b2.mono B0.size); have hy := X0.lt; have hz := X1.lt; have hx := X2.lt; have hb0 := B0.size; clear b2
      have n21 : w.heap.size + 1 + 1 ≠ w.heap.size + 1 := by omega
      have n12 : w.heap.size + 1 ≠ w.heap.size + 1 + 1 := by omega
      have X1k0 : w2.cell? ⟨w.heap.size + 1, 0, none⟩ = some (.int .i64 0) := (X1.cell 0).trans rfl; have X1k1 : w2.cell? ⟨w.heap.size + 1, 1, none⟩ = some (.int .i64 0) := (X1.cell 1).trans rfl; have X1k2 : w2.cell? ⟨w.heap.size + 1, 2, none⟩ = some (.slice none 0 0) := (X1.cell 2).trans rfl; have X1k3 : w2.cell? ⟨w.heap.size + 1, 3, none⟩ = some (.int .i64 0) := (X1.cell 3).trans rfl; have X1k4 : w2.cell? ⟨w.heap.size + 1, 4, none⟩ = some (.int .i64 0) := (X1.cell 4).trans rfl; have X1k5 : w2.cell? ⟨w.heap.size + 1, 5, none⟩ = some (.int .i64 0) := (X1.cell 5).trans rfl
      have X1k6 : w2.cell? ⟨w.heap.size + 1, 6, none⟩ = some (.int .i64 0) := (X1.cell 6).trans rfl; have X1k7 : w2.cell? ⟨w.heap.size + 1, 7, none⟩ = some (.int .i64 0) := (X1.cell 7).trans rfl
      have X1f0 := X1.frozen 0; have X1f1 := X1.frozen 1; have X1f2 := X1.frozen 2; have X1f3 := X1.frozen 3; have X1f4 := X1.frozen 4; have X1f5 := X1.frozen 5; have X1f6 := X1.frozen 6; have X1f7 := X1.frozen 7
      have X2k0 : w2.cell? ⟨w.heap.size + 1 + 1, 0, none⟩ = some (.int .i64 0) := (X2.cell 0).trans rfl; have X2k1 : w2.cell? ⟨w.heap.size + 1 + 1, 1, none⟩ = some (.int .i64 0) := (X2.cell 1).trans rfl; have X2k2 : w2.cell? ⟨w.heap.size + 1 + 1, 2, none⟩ = some (.int .i64 0) := (X2.cell 2).trans rfl
      have X2f0 := X2.frozen 0; have X2f1 := X2.frozen 1; have X2f2 := X2.frozen 2
      go_wp2
      rewrite [mset_fold]
      obtain ⟨v9, hv9⟩ : ∃ v9, v9 = (((mset w2 (w.heap.size + 1) (.int .i64 0) (.int .i64 0) (.slice none 0 0) (.int .i64 0) (.int .i64 0) (.int .i64 0) (.int .i64 0) (.int .i64 0)).setCell ⟨w.heap.size + 1 + 1, 0, none⟩ (.int .i64 0)).setCell ⟨w.heap.size + 1 + 1, 1, none⟩ (.int .i64 0)).setCell ⟨w.heap.size + 1 + 1, 2, none⟩ (.int .i64 0) := ⟨_, rfl⟩
      have Z1 : Whole v9 (w.heap.size + 1) 56 [.int .i64 0, .int .i64 0, .slice none 0 0, .int .i64 0, .int .i64 0, .int .i64 0, .int .i64 0, .int .i64 0] := by rw [hv9]; exact three_far (X1.mset _ _ _ _ _ _ _ _) n21
      have Z2 : Whole v9 (w.heap.size + 1 + 1) 61 [.int .i64 0, .int .i64 0, .int .i64 0] := by rw [hv9]; exact whole_three (X2.mset_far n12)
      have B9 : Below w.heap.size w v9 := by rw [hv9]; exact (((below_mset B0 (by omega)).setCell (p := ⟨w.heap.size + 1 + 1, 0, none⟩) (by show w.heap.size ≤ w.heap.size + 1 + 1; omega) _).setCell (p := ⟨w.heap.size + 1 + 1, 1, none⟩) (by show w.heap.size ≤ w.heap.size + 1 + 1; omega) _).setCell (p := ⟨w.heap.size + 1 + 1, 2, none⟩) (by show w.heap.size ≤ w.heap.size + 1 + 1; omega) _
      rewrite [← hv9]
      clear X1k0 X1k1 X1k2 X1k3 X1k4 X1k5 X1k6 X1k7
      clear X2k0 X2k1 X2k2
      clear X1f0 X1f1 X1f2 X1f3 X1f4 X1f5 X1f6 X1f7 X2f0 X2f1 X2f2 hv9 X1 X2
      have Z1k0 : v9.cell? ⟨w.heap.size + 1, 0, none⟩ = some (.int .i64 0) := (Z1.cell 0).trans rfl; have Z1k1 : v9.cell? ⟨w.heap.size + 1, 1, none⟩ = some (.int .i64 0) := (Z1.cell 1).trans rfl; have Z1k2 : v9.cell? ⟨w.heap.size + 1, 2, none⟩ = some (.slice none 0 0) := (Z1.cell 2).trans rfl; have Z1k3 : v9.cell? ⟨w.heap.size + 1, 3, none⟩ = some (.int .i64 0) := (Z1.cell 3).trans rfl; have Z1k4 : v9.cell? ⟨w.heap.size + 1, 4, none⟩ = some (.int .i64 0) := (Z1.cell 4).trans rfl; have Z1k5 : v9.cell? ⟨w.heap.size + 1, 5, none⟩ = some (.int .i64 0) := (Z1.cell 5).trans rfl
      have Z1k6 : v9.cell? ⟨w.heap.size + 1, 6, none⟩ = some (.int .i64 0) := (Z1.cell 6).trans rfl; have Z1k7 : v9.cell? ⟨w.heap.size + 1, 7, none⟩ = some (.int .i64 0) := (Z1.cell 7).trans rfl
      have Z2k0 : v9.cell? ⟨w.heap.size + 1 + 1, 0, none⟩ = some (.int .i64 0) := (Z2.cell 0).trans rfl; have Z2k1 : v9.cell? ⟨w.heap.size + 1 + 1, 1, none⟩ = some (.int .i64 0) := (Z2.cell 1).trans rfl; have Z2k2 : v9.cell? ⟨w.heap.size + 1 + 1, 2, none⟩ = some (.int .i64 0) := (Z2.cell 2).trans rfl
      refine bodyPost_ret (v := .tuple #[(.agg #[.int .i64 0, .int .i64 0, .slice none 0 0, .int .i64 0, .int .i64 0, .int .i64 0, .int .i64 0, .int .i64 0]), .agg #[.int .i64 0, .int .i64 0, .int .i64 0], .bool false]) ?_ rfl ?_; (focus (simp [results, Try.results41, go_sem, *]; done))
      exact PostAF.no (by unfold okStp; rw [HO.out, HCn.out]; rfl) HN HF HE B9
  · have HO := Lib.hid ho
    clear ho
    go_enter Try.func41, Try.ntmps41
    obtain ⟨v0, hv0, X0, X1, X2, B0, hz0⟩ := three_boxes w [.int .i64 R, .int .i64 C, .slice A l.length cap, .int .i64 p, .int .i64 q, .int .i64 bl, .int .i64 rd, .int .i64 nx] 56 [.int .i64 0, .int .i64 0, .slice none 0 0, .int .i64 0, .int .i64 0, .int .i64 0, .int .i64 0, .int .i64 0] 56 [.int .i64 0, .int .i64 0, .int .i64 0] 61; have HV := Lib.hid hv0; have hx : w.heap.size + 1 + 1 < v0.heap.size := (by omega); have hz : w.heap.size + 1 < v0.heap.size := (by omega); have hy : w.heap.size < v0.heap.size := (by omega); have hb0 := B0.size; clear hv0 hz0; go_wp2_with fail; rewrite [show ((w.alloc (.cells ([.int .i64 R, .int .i64 C, .slice A l.length cap, .int .i64 p, .int .i64 q, .int .i64 bl, .int .i64 rd, .int .i64 nx] : List Value).toArray 56)).alloc (.cells ([.int .i64 0, .int .i64 0, .slice none 0 0, .int .i64 0, .int .i64 0, .int .i64 0, .int .i64 0, .int .i64 0] : List Value).toArray 56)).alloc (.cells ([.int .i64 0, .int .i64 0, .int .i64 0] : List Value).toArray 61) = v0 from HV.out]; clear HV
    refine (spec_maGood _ _ _ _ l _ _ _ _ _ _ hn ((hr.below B0).mono B0.size)).mono ?_; rintro e w1 ⟨rfl, b1⟩
    rewrite [HO.out]
    replace X0 := X0.below b1 X0.lt; replace X1 := X1.below b1 X1.lt; replace X2 := X2.below b1 X2.lt; replace B0 := B0.trans (b1.mono B0.size); have hy := X0.lt; have hz := X1.lt; have hx := X2.lt; have hb0 := B0.size; clear b1
    have n21 : w.heap.size + 1 + 1 ≠ w.heap.size + 1 := by omega
    have n12 : w.heap.size + 1 ≠ w.heap.size + 1 + 1 := by omega
    have X1k0 : w1.cell? ⟨w.heap.size + 1, 0, none⟩ = some (.int .i64 0) := (X1.cell 0).trans rfl; have X1k1 : w1.cell? ⟨w.heap.size + 1, 1, none⟩ = some (.int .i64 0) := (X1.cell 1).trans rfl; have X1k2 : w1.cell? ⟨w.heap.size + 1, 2, none⟩ = some (.slice none 0 0) := (X1.cell 2).trans rfl; have X1k3 : w1.cell? ⟨w.heap.size + 1, 3, none⟩ = some (.int .i64 0) := (X1.cell 3).trans rfl; have X1k4 : w1.cell? ⟨w.heap.size + 1, 4, none⟩ = some (.int .i64 0) := (X1.cell 4).trans rfl; have X1k5 : w1.cell? ⟨w.heap.size + 1, 5, none⟩ = some (.int .i64 0) := (X1.cell 5).trans rfl
    have X1k6 : w1.cell? ⟨w.heap.size + 1, 6, none⟩ = some (.int .i64 0) := (X1.cell 6).trans rfl; have X1k7 : w1.cell? ⟨w.heap.size + 1, 7, none⟩ = some (.int .i64 0) := (X1.cell 7).trans rfl
    have X1f0 := X1.frozen 0; have X1f1 := X1.frozen 1; have X1f2 := X1.frozen 2; have X1f3 := X1.frozen 3; have X1f4 := X1.frozen 4; have X1f5 := X1.frozen 5; have X1f6 := X1.frozen 6; have X1f7 := X1.frozen 7
    have X2k0 : w1.cell? ⟨w.heap.size + 1 + 1, 0, none⟩ = some (.int .i64 0) := (X2.cell 0).trans rfl; have X2k1 : w1.cell? ⟨w.heap.size + 1 + 1, 1, none⟩ = some (.int .i64 0) := (X2.cell 1).trans rfl; have X2k2 : w1.cell? ⟨w.heap.size + 1 + 1, 2, none⟩ = some (.int .i64 0) := (X2.cell 2).trans rfl
    have X2f0 := X2.frozen 0; have X2f1 := X2.frozen 1; have X2f2 := X2.frozen 2
    go_wp2
    rewrite [mset_fold]
    obtain ⟨v9, hv9⟩ : ∃ v9, v9 = (((mset w1 (w.heap.size + 1) (.int .i64 0) (.int .i64 0) (.slice none 0 0) (.int .i64 0) (.int .i64 0) (.int .i64 0) (.int .i64 0) (.int .i64 0)).setCell ⟨w.heap.size + 1 + 1, 0, none⟩ (.int .i64 0)).setCell ⟨w.heap.size + 1 + 1, 1, none⟩ (.int .i64 0)).setCell ⟨w.heap.size + 1 + 1, 2, none⟩ (.int .i64 0) := ⟨_, rfl⟩
    have Z1 : Whole v9 (w.heap.size + 1) 56 [.int .i64 0, .int .i64 0, .slice none 0 0, .int .i64 0, .int .i64 0, .int .i64 0, .int .i64 0, .int .i64 0] := by rw [hv9]; exact three_far (X1.mset _ _ _ _ _ _ _ _) n21
    have Z2 : Whole v9 (w.heap.size + 1 + 1) 61 [.int .i64 0, .int .i64 0, .int .i64 0] := by rw [hv9]; exact whole_three (X2.mset_far n12)
    have B9 : Below w.heap.size w v9 := by rw [hv9]; exact (((below_mset B0 (by omega)).setCell (p := ⟨w.heap.size + 1 + 1, 0, none⟩) (by show w.heap.size ≤ w.heap.size + 1 + 1; omega) _).setCell (p := ⟨w.heap.size + 1 + 1, 1, none⟩) (by show w.heap.size ≤ w.heap.size + 1 + 1; omega) _).setCell (p := ⟨w.heap.size + 1 + 1, 2, none⟩) (by show w.heap.size ≤ w.heap.size + 1 + 1; omega) _
    rewrite [← hv9]
    clear X1k0 X1k1 X1k2 X1k3 X1k4 X1k5 X1k6 X1k7
    clear X2k0 X2k1 X2k2
    clear X1f0 X1f1 X1f2 X1f3 X1f4 X1f5 X1f6 X1f7 X2f0 X2f1 X2f2 hv9 X1 X2
    have Z1k0 : v9.cell? ⟨w.heap.size + 1, 0, none⟩ = some (.int .i64 0) := (Z1.cell 0).trans rfl; have Z1k1 : v9.cell? ⟨w.heap.size + 1, 1, none⟩ = some (.int .i64 0) := (Z1.cell 1).trans rfl; have Z1k2 : v9.cell? ⟨w.heap.size + 1, 2, none⟩ = some (.slice none 0 0) := (Z1.cell 2).trans rfl; have Z1k3 : v9.cell? ⟨w.heap.size + 1, 3, none⟩ = some (.int .i64 0) := (Z1.cell 3).trans rfl; have Z1k4 : v9.cell? ⟨w.heap.size + 1, 4, none⟩ = some (.int .i64 0) := (Z1.cell 4).trans rfl; have Z1k5 : v9.cell? ⟨w.heap.size + 1, 5, none⟩ = some (.int .i64 0) := (Z1.cell 5).trans rfl
    have Z1k6 : v9.cell? ⟨w.heap.size + 1, 6, none⟩ = some (.int .i64 0) := (Z1.cell 6).trans rfl; have Z1k7 : v9.cell? ⟨w.heap.size + 1, 7, none⟩ = some (.int .i64 0) := (Z1.cell 7).trans rfl
    have Z2k0 : v9.cell? ⟨w.heap.size + 1 + 1, 0, none⟩ = some (.int .i64 0) := (Z2.cell 0).trans rfl; have Z2k1 : v9.cell? ⟨w.heap.size + 1 + 1, 1, none⟩ = some (.int .i64 0) := (Z2.cell 1).trans rfl; have Z2k2 : v9.cell? ⟨w.heap.size + 1 + 1, 2, none⟩ = some (.int .i64 0) := (Z2.cell 2).trans rfl
    refine bodyPost_ret (v := .tuple #[(.agg #[.int .i64 0, .int .i64 0, .slice none 0 0, .int .i64 0, .int .i64 0, .int .i64 0, .int .i64 0, .int .i64 0]), .agg #[.int .i64 0, .int .i64 0, .int .i64 0], .bool false]) ?_ rfl ?_; (focus (simp [results, Try.results41, go_sem, *]; done))
    exact PostAF.no (by unfold okStp; rw [HO.out]; rfl) HN HF HE B9
end Go.Proofs.Ytpfjbecpfdgnpaa
namespace Go.Proofs.Ytpfjbecpfdgnpaa
open Go.ChangeShapes Go.WideShapes Go.ChangeAt Go.RowKit Go.Joins Go.Deep
set_option linter.unusedSimpArgs false
set_option linter.unusedVariables false
set_option maxRecDepth 100000
set_option maxHeartbeats 4000000
theorem impl_fall1 (a b c : Int) (w : World) : Calls Try.prog 191 #[.agg #[.int .i64 a, .int .i64 b, .int .i64 c]] w fun e w' => e = .returned (.agg #[.int .i64 a, .int .i64 b, .int .i64 c]) ∧ Below w.heap.size w w' := by
  go_enter Try.func191, Try.ntmps191
  go_wp2
  refine bodyPost_ret (v := .agg #[.int .i64 a, .int .i64 b, .int .i64 c]) ?_ rfl ?_; (focus (simp [results, Try.results191, go_sem, *]; done))
  exact ⟨rfl, by (repeat' (first | (with_reducible exact Below.refl _ _) | (with_reducible assumption) | (with_reducible refine Below.alloc ?_ ?_ _) | (with_reducible refine Below.setCell ?_ ?_ _) | (with_reducible refine Below.drew ?_) | (with_reducible refine below_drewN ?_ _) | (with_reducible refine Below.trans ?_ (Below.mono (by assumption) ?_)) | (with_reducible exact Nat.le_refl _) | (simp; done) | omega | (simp at *; omega)))⟩
theorem impl_fall2 (a b c : Int) (w : World) : Calls Try.prog 192 #[.agg #[.int .i64 a, .int .i64 b, .int .i64 c]] w fun e w' => e = .returned (.agg #[.int .i64 a, .int .i64 b, .int .i64 c]) ∧ Below w.heap.size w w' := by
  go_enter Try.func192, Try.ntmps192
  go_wp2
  refine bodyPost_ret (v := .agg #[.int .i64 a, .int .i64 b, .int .i64 c]) ?_ rfl ?_; (focus (simp [results, Try.results192, go_sem, *]; done))
  exact ⟨rfl, by (repeat' (first | (with_reducible exact Below.refl _ _) | (with_reducible assumption) | (with_reducible refine Below.alloc ?_ ?_ _) | (with_reducible refine Below.setCell ?_ ?_ _) | (with_reducible refine Below.drew ?_) | (with_reducible refine below_drewN ?_ _) | (with_reducible refine Below.trans ?_ (Below.mono (by assumption) ?_)) | (with_reducible exact Nat.le_refl _) | (simp; done) | omega | (simp at *; omega)))⟩
theorem relS_one (R C p q : Int) (l : List (Int × Int)) (bl rd nx : Int) : relS (stepM R C p q ⟨l, bl, rd, nx, [], []⟩) = [(nx, (marO R C l (colM p q nx)).e, (marO R C l (colM p q nx)).row, (marO R C l (colM p q nx)).col)] := rfl
theorem impl_StepMachine (R C : Int) (A : Option Addr) (cap : Nat) (l : List (Int × Int)) (p q bl rd nx : Int) (w : World) (hn : l.length ≤ 1048576) (hr : Rd w w.heap.size A (flat l)) :
    Calls Try.prog 42 #[.agg #[.int .i64 R, .int .i64 C, .slice A l.length cap, .int .i64 p, .int .i64 q, .int .i64 bl, .int .i64 rd, .int .i64 nx]] w (PostAF w (selI (okStp R C l p q bl rd nx) R) (selI (okStp R C l p q bl rd nx) C) (selI (okStp R C l p q bl rd nx) p) (selI (okStp R C l p q bl rd nx) q) (stepO R C l p q bl rd nx) (endS R C l p q bl rd nx) (okStp R C l p q bl rd nx)) := by
  obtain ⟨ok, hN⟩ : ∃ ok, okStp R C l p q bl rd nx = ok := ⟨_, rfl⟩
  obtain ⟨sF, hF⟩ : ∃ s, stepO R C l p q bl rd nx = s := ⟨_, rfl⟩
  obtain ⟨f9, hE⟩ : ∃ f, endS R C l p q bl rd nx = f := ⟨_, rfl⟩
  rewrite [hN, hF, hE]
  have HN := Lib.hid hN
  have HF := Lib.hid hF
  have HE := Lib.hid hE
  clear hN hF hE
  rcases Bool.eq_false_or_eq_true (okM R C l p q bl rd nx) with ho | ho
  · have HO := Lib.hid ho
    obtain ⟨r, c, rfl, rfl, hG, hg, hp, hq⟩ := okM_ints ho
    obtain ⟨_, _, hpos⟩ := goodB_parts hg
    obtain ⟨b, o, rfl, hbl, hcc⟩ := hr (by rw [flat_length]; omega)
    have hr' : Rd w w.heap.size (some ⟨b, o, none⟩) (flat l) := fun _ => ⟨b, o, rfl, hbl, hcc⟩
    have HQ := fun w' h => impl_runSteps_yes r c b o cap l p q bl rd nx 1 w' ho (by omega) h
    rcases Bool.eq_false_or_eq_true (canM bl rd nx) with hc | hc
    · have HCn := Lib.hid hc
      have e1 : runM (r : Int) (c : Int) p q 1 ⟨l, bl, rd, nx, [], []⟩ = stepM (r : Int) (c : Int) p q ⟨l, bl, rd, nx, [], []⟩ := by rw [runM_go (n := 0) hc]; rfl
      rw [e1] at HQ
      have HY := Lib.hid (show okStp (r : Int) (c : Int) l p q bl rd nx = true by unfold okStp; rw [ho, hc]; rfl)
      unfold PostS at HQ
      rw [relS_one] at HQ
      obtain ⟨F, hF⟩ : ∃ F, marO (r : Int) (c : Int) l (colM p q nx) = F := ⟨_, rfl⟩
      obtain ⟨xb, hxb⟩ : ∃ x, x = if nx = 0 then bl - 1 else bl := ⟨_, rfl⟩
      obtain ⟨xr, hxr⟩ : ∃ x, x = if nx = 0 then rd else rd - 1 := ⟨_, rfl⟩
      obtain ⟨xn, hxn⟩ : ∃ x, x = nextM (c : Int) F := ⟨_, rfl⟩
      have HHF := Lib.hid hF
      have HHb := Lib.hid hxb
      have HHr := Lib.hid hxr
      have HHn := Lib.hid hxn
      have HLn := Lib.hid (show F.cells.length = l.length by rw [← hF]; exact marO_len _ _ _ _)
      rw [show (stepM (r : Int) (c : Int) p q ⟨l, bl, rd, nx, [], []⟩).l = F.cells by rw [← hF]; rfl, show (stepM (r : Int) (c : Int) p q ⟨l, bl, rd, nx, [], []⟩).bl = xb by rw [hxb]; rfl, show (stepM (r : Int) (c : Int) p q ⟨l, bl, rd, nx, [], []⟩).rd = xr by rw [hxr]; rfl, show (stepM (r : Int) (c : Int) p q ⟨l, bl, rd, nx, [], []⟩).nx = xn by rw [hxn, ← hF]; rfl, hF] at HQ
      have HQ' := Lib.hid HQ
      clear HQ e1 hF hxb hxr hxn hr hG hg hp hq hbl hcc ho hc
      obtain ⟨fe, fr, fc, sl, fw⟩ := F
      go_enter Try.func42, Try.ntmps42
      obtain ⟨v0, hv0, X0, X1, X2, B0, hz0⟩ := three_boxes w [.int .i64 (r : Int), .int .i64 (c : Int), .slice (some ⟨b, o, none⟩) l.length cap, .int .i64 p, .int .i64 q, .int .i64 bl, .int .i64 rd, .int .i64 nx] 56 [.int .i64 0, .int .i64 0, .slice none 0 0, .int .i64 0, .int .i64 0, .int .i64 0, .int .i64 0, .int .i64 0] 56 [.int .i64 0, .int .i64 0, .int .i64 0] 61; have HV := Lib.hid hv0; have hx : w.heap.size + 1 + 1 < v0.heap.size := (by omega); have hz : w.heap.size + 1 < v0.heap.size := (by omega); have hy : w.heap.size < v0.heap.size := (by omega); have hb0 := B0.size; clear hv0 hz0; go_wp2_with fail; rewrite [show ((w.alloc (.cells ([.int .i64 (r : Int), .int .i64 (c : Int), .slice (some ⟨b, o, none⟩) l.length cap, .int .i64 p, .int .i64 q, .int .i64 bl, .int .i64 rd, .int .i64 nx] : List Value).toArray 56)).alloc (.cells ([.int .i64 0, .int .i64 0, .slice none 0 0, .int .i64 0, .int .i64 0, .int .i64 0, .int .i64 0, .int .i64 0] : List Value).toArray 56)).alloc (.cells ([.int .i64 0, .int .i64 0, .int .i64 0] : List Value).toArray 61) = v0 from HV.out]; clear HV
      refine (HQ'.out _ ((hr'.below B0).mono B0.size)).mono ?_; rintro e w3 hP
      obtain ⟨A5, c5, v2, rfl, O5, n5, h2, b3⟩ := hP
      clear HQ'
      have N5 : New w A5 := fun a ha => Nat.le_trans B0.size (n5 a ha)
      obtain ⟨A6, c6, rfl, O6, N6⟩ := own_slice h2
      have e2 : [(nx, fe, fr, fc)].length = 1 := rfl
      obtain ⟨gr, rest, rfl, Xr⟩ := O6 (by rw [flatR_len, e2]; omega)
      have hgr : w.heap.size + 1 + 1 < gr := by have h : v0.heap.size ≤ gr := N6 _ rfl; omega
      replace X0 := X0.below b3 X0.lt; replace X1 := X1.below b3 X1.lt; replace X2 := X2.below b3 X2.lt; replace B0 := B0.trans (b3.mono B0.size); have hy := X0.lt; have hz := X1.lt; have hx := X2.lt; have hb0 := B0.size; clear b3
      clear n5 X0 h2
      clear O6 N6
      have ef : flatR [(nx, fe, fr, fc)] = [.int .i64 nx, endV (fe, fr, fc)] := rfl
      rw [ef] at Xr
      go_upto_region 2 with (fail)
      obtain ⟨v6, hv6⟩ : ∃ v6, v6 = w3.alloc (.cells #[.int .i64 (r : Int), .int .i64 (c : Int), .slice A5 sl.length c5, .int .i64 p, .int .i64 q, .int .i64 xb, .int .i64 xr, .int .i64 xn] 56) := ⟨_, rfl⟩
      have Xm : Whole v6 w3.heap.size 56 [.int .i64 (r : Int), .int .i64 (c : Int), .slice A5 sl.length c5, .int .i64 p, .int .i64 q, .int .i64 xb, .int .i64 xr, .int .i64 xn] := by rw [hv6]; exact newW
      have b6 : Below w3.heap.size w3 v6 := by rw [hv6]; exact (Below.refl _ _).alloc (Nat.le_refl _) _
      rewrite [← hv6]
      clear hv6
      replace X1 := X1.below b6 X1.lt
      replace X2 := X2.below b6 X2.lt
      replace Xr := Xr.below b6 Xr.lt
      replace O5 := O5.keep b6
      replace B0 := B0.trans (b6.mono B0.size)
      have hgm : w.heap.size + 1 + 1 < w3.heap.size := by omega
      generalize w3.heap.size = gm at *
      clear b6 hy hz hx hb0
      have h1l := X1.lt
      have h2l := X2.lt
      have hml := Xm.lt
      have hrl := Xr.lt
      have n21 : w.heap.size + 1 + 1 ≠ w.heap.size + 1 := by omega
      have n12 : w.heap.size + 1 ≠ w.heap.size + 1 + 1 := by omega
      have q1 : gm ≠ w.heap.size + 1 := by omega
      have q2 : gm ≠ w.heap.size + 1 + 1 := by omega
      have q5 := q1.symm
      have q6 := q2.symm
      have q3 : gr ≠ w.heap.size + 1 := by omega
      have q4 : gr ≠ w.heap.size + 1 + 1 := by omega
      have q7 := q3.symm
      have q8 := q4.symm
      go_upto_region 4 with (fail)
      by_cases hE : fe = 1
      · subst hE
        rw [endV_in rfl] at Xr
        have Xrk1 : v6.cell? ⟨gr, 1, none⟩ = some (.iface 139 (.agg #[.int .i64 1, .int .i64 fr, .int .i64 fc])) := (Xr.cell 1).trans rfl
        have Xmk0 : v6.cell? ⟨gm, 0, none⟩ = some (.int .i64 (r : Int)) := (Xm.cell 0).trans rfl; have Xmk1 : v6.cell? ⟨gm, 1, none⟩ = some (.int .i64 (c : Int)) := (Xm.cell 1).trans rfl; have Xmk2 : v6.cell? ⟨gm, 2, none⟩ = some (.slice A5 sl.length c5) := (Xm.cell 2).trans rfl; have Xmk3 : v6.cell? ⟨gm, 3, none⟩ = some (.int .i64 p) := (Xm.cell 3).trans rfl; have Xmk4 : v6.cell? ⟨gm, 4, none⟩ = some (.int .i64 q) := (Xm.cell 4).trans rfl; have Xmk5 : v6.cell? ⟨gm, 5, none⟩ = some (.int .i64 xb) := (Xm.cell 5).trans rfl
        have Xmk6 : v6.cell? ⟨gm, 6, none⟩ = some (.int .i64 xr) := (Xm.cell 6).trans rfl; have Xmk7 : v6.cell? ⟨gm, 7, none⟩ = some (.int .i64 xn) := (Xm.cell 7).trans rfl
        go_region_with (go_at_call 191; refine (impl_fall1 _ _ _ _).mono ?_; rintro e w7 ⟨rfl, b7⟩; have b8 : Below v6.heap.size v6 w7 := (by (repeat' (first | (with_reducible exact Below.refl _ _) | (with_reducible assumption) | (with_reducible refine Below.alloc ?_ ?_ _) | (with_reducible refine Below.setCell ?_ ?_ _) | (with_reducible refine Below.drew ?_) | (with_reducible refine below_drewN ?_ _) | (with_reducible refine Below.trans ?_ (Below.mono (by assumption) ?_)) | go_size))); have Xm7 := Xm.below b8 hml; have X17 := X1.below b8 h1l; have X27 := X2.below b8 h2l; have z1 := X17.lt; have z2 := X27.lt; have zm := Xm7.lt; have Xm7k0 : w7.cell? ⟨gm, 0, none⟩ = some (.int .i64 (r : Int)) := (Xm7.cell 0).trans rfl; have Xm7k1 : w7.cell? ⟨gm, 1, none⟩ = some (.int .i64 (c : Int)) := (Xm7.cell 1).trans rfl; have Xm7k2 : w7.cell? ⟨gm, 2, none⟩ = some (.slice A5 sl.length c5) := (Xm7.cell 2).trans rfl; have Xm7k3 : w7.cell? ⟨gm, 3, none⟩ = some (.int .i64 p) := (Xm7.cell 3).trans rfl; have Xm7k4 : w7.cell? ⟨gm, 4, none⟩ = some (.int .i64 q) := (Xm7.cell 4).trans rfl; have Xm7k5 : w7.cell? ⟨gm, 5, none⟩ = some (.int .i64 xb) := (Xm7.cell 5).trans rfl; have Xm7k6 : w7.cell? ⟨gm, 6, none⟩ = some (.int .i64 xr) := (Xm7.cell 6).trans rfl; have Xm7k7 : w7.cell? ⟨gm, 7, none⟩ = some (.int .i64 xn) := (Xm7.cell 7).trans rfl; have X17k0 : w7.cell? ⟨w.heap.size + 1, 0, none⟩ = some (.int .i64 0) := (X17.cell 0).trans rfl; have X17k1 : w7.cell? ⟨w.heap.size + 1, 1, none⟩ = some (.int .i64 0) := (X17.cell 1).trans rfl; have X17k2 : w7.cell? ⟨w.heap.size + 1, 2, none⟩ = some (.slice none 0 0) := (X17.cell 2).trans rfl; have X17k3 : w7.cell? ⟨w.heap.size + 1, 3, none⟩ = some (.int .i64 0) := (X17.cell 3).trans rfl; have X17k4 : w7.cell? ⟨w.heap.size + 1, 4, none⟩ = some (.int .i64 0) := (X17.cell 4).trans rfl; have X17k5 : w7.cell? ⟨w.heap.size + 1, 5, none⟩ = some (.int .i64 0) := (X17.cell 5).trans rfl; have X17k6 : w7.cell? ⟨w.heap.size + 1, 6, none⟩ = some (.int .i64 0) := (X17.cell 6).trans rfl; have X17k7 : w7.cell? ⟨w.heap.size + 1, 7, none⟩ = some (.int .i64 0) := (X17.cell 7).trans rfl; have X17f0 := X17.frozen 0; have X17f1 := X17.frozen 1; have X17f2 := X17.frozen 2; have X17f3 := X17.frozen 3; have X17f4 := X17.frozen 4; have X17f5 := X17.frozen 5; have X17f6 := X17.frozen 6; have X17f7 := X17.frozen 7; have X27k0 : w7.cell? ⟨w.heap.size + 1 + 1, 0, none⟩ = some (.int .i64 0) := (X27.cell 0).trans rfl; have X27k1 : w7.cell? ⟨w.heap.size + 1 + 1, 1, none⟩ = some (.int .i64 0) := (X27.cell 1).trans rfl; have X27k2 : w7.cell? ⟨w.heap.size + 1 + 1, 2, none⟩ = some (.int .i64 0) := (X27.cell 2).trans rfl; have X27f0 := X27.frozen 0; have X27f1 := X27.frozen 1; have X27f2 := X27.frozen 2)
        all_goals (have B7 : Below w.heap.size w w7 := B0.trans (b8.mono B0.size); have O7 := O5.keep b8; go_wp2; rewrite [mset_fold]; obtain ⟨v9, hv9⟩ : ∃ v9, v9 = ((((mset w7 (w.heap.size + 1) (.int .i64 (r : Int)) (.int .i64 (c : Int)) (.slice A5 sl.length c5) (.int .i64 p) (.int .i64 q) (.int .i64 xb) (.int .i64 xr) (.int .i64 xn)).setCell ⟨w.heap.size + 1 + 1, 0, none⟩ (.int .i64 1)).setCell ⟨w.heap.size + 1 + 1, 1, none⟩ (.int .i64 fr)).setCell ⟨w.heap.size + 1 + 1, 2, none⟩ (.int .i64 fc)) := ⟨_, rfl⟩; have Z1 : Whole v9 (w.heap.size + 1) 56 [.int .i64 (r : Int), .int .i64 (c : Int), .slice A5 sl.length c5, .int .i64 p, .int .i64 q, .int .i64 xb, .int .i64 xr, .int .i64 xn] := (by rw [hv9]; exact three_far (X17.mset _ _ _ _ _ _ _ _) n21); have Z2 : Whole v9 (w.heap.size + 1 + 1) 61 [.int .i64 1, .int .i64 fr, .int .i64 fc] := (by rw [hv9]; exact whole_three (X27.mset_far n12)); have O9 : Own v9 A5 27 (flat sl) := (by rw [hv9]; exact own_three (own_mset O7 X17 (by decide)) (X27.mset_far n12) (by decide)); have B9 : Below w.heap.size w v9 := (by rw [hv9]; exact (((below_mset B7 (by omega)).setCell (p := ⟨w.heap.size + 1 + 1, 0, none⟩) (by show w.heap.size ≤ w.heap.size + 1 + 1; omega) _).setCell (p := ⟨w.heap.size + 1 + 1, 1, none⟩) (by show w.heap.size ≤ w.heap.size + 1 + 1; omega) _).setCell (p := ⟨w.heap.size + 1 + 1, 2, none⟩) (by show w.heap.size ≤ w.heap.size + 1 + 1; omega) _); rewrite [← hv9]; clear Xm7k0 Xm7k1 Xm7k2 Xm7k3 Xm7k4 Xm7k5 Xm7k6 Xm7k7; clear X17k0 X17k1 X17k2 X17k3 X17k4 X17k5 X17k6 X17k7; clear X27k0 X27k1 X27k2; clear Xmk0 Xmk1 Xmk2 Xmk3 Xmk4 Xmk5 Xmk6 Xmk7; clear X17f0 X17f1 X17f2 X17f3 X17f4 X17f5 X17f6 X17f7 X27f0 X27f1 X27f2 hv9 X17 X27 O7 B7 Xrk1 X1 X2 Xm Xm7 O5 B0; have Z1k0 : v9.cell? ⟨w.heap.size + 1, 0, none⟩ = some (.int .i64 (r : Int)) := (Z1.cell 0).trans rfl; have Z1k1 : v9.cell? ⟨w.heap.size + 1, 1, none⟩ = some (.int .i64 (c : Int)) := (Z1.cell 1).trans rfl; have Z1k2 : v9.cell? ⟨w.heap.size + 1, 2, none⟩ = some (.slice A5 sl.length c5) := (Z1.cell 2).trans rfl; have Z1k3 : v9.cell? ⟨w.heap.size + 1, 3, none⟩ = some (.int .i64 p) := (Z1.cell 3).trans rfl; have Z1k4 : v9.cell? ⟨w.heap.size + 1, 4, none⟩ = some (.int .i64 q) := (Z1.cell 4).trans rfl; have Z1k5 : v9.cell? ⟨w.heap.size + 1, 5, none⟩ = some (.int .i64 xb) := (Z1.cell 5).trans rfl; have Z1k6 : v9.cell? ⟨w.heap.size + 1, 6, none⟩ = some (.int .i64 xr) := (Z1.cell 6).trans rfl; have Z1k7 : v9.cell? ⟨w.heap.size + 1, 7, none⟩ = some (.int .i64 xn) := (Z1.cell 7).trans rfl; have Z2k0 : v9.cell? ⟨w.heap.size + 1 + 1, 0, none⟩ = some (.int .i64 1) := (Z2.cell 0).trans rfl; have Z2k1 : v9.cell? ⟨w.heap.size + 1 + 1, 1, none⟩ = some (.int .i64 fr) := (Z2.cell 1).trans rfl; have Z2k2 : v9.cell? ⟨w.heap.size + 1 + 1, 2, none⟩ = some (.int .i64 fc) := (Z2.cell 2).trans rfl; refine bodyPost_ret (v := .tuple #[.agg #[.int .i64 (r : Int), .int .i64 (c : Int), .slice A5 sl.length c5, .int .i64 p, .int .i64 q, .int .i64 xb, .int .i64 xr, .int .i64 xn], .agg #[.int .i64 1, .int .i64 fr, .int .i64 fc], .bool true]) ?_ rfl ?_; (focus (simp [results, Try.results42, go_sem, *]; done)); exact PostAF.yes (F := ⟨1, fr, fc, sl, fw⟩) HY.out HN HF HE HHF.out HHb.out HHr.out HHn.out HLn.out.symm O9 N5 B9)
      · rw [endV_out hE] at Xr
        have Xrk1 : v6.cell? ⟨gr, 1, none⟩ = some (.iface 156 (.agg #[.int .i64 fe, .int .i64 fr, .int .i64 fc])) := (Xr.cell 1).trans rfl
        have Xmk0 : v6.cell? ⟨gm, 0, none⟩ = some (.int .i64 (r : Int)) := (Xm.cell 0).trans rfl; have Xmk1 : v6.cell? ⟨gm, 1, none⟩ = some (.int .i64 (c : Int)) := (Xm.cell 1).trans rfl; have Xmk2 : v6.cell? ⟨gm, 2, none⟩ = some (.slice A5 sl.length c5) := (Xm.cell 2).trans rfl; have Xmk3 : v6.cell? ⟨gm, 3, none⟩ = some (.int .i64 p) := (Xm.cell 3).trans rfl; have Xmk4 : v6.cell? ⟨gm, 4, none⟩ = some (.int .i64 q) := (Xm.cell 4).trans rfl; have Xmk5 : v6.cell? ⟨gm, 5, none⟩ = some (.int .i64 xb) := (Xm.cell 5).trans rfl
        have Xmk6 : v6.cell? ⟨gm, 6, none⟩ = some (.int .i64 xr) := (Xm.cell 6).trans rfl; have Xmk7 : v6.cell? ⟨gm, 7, none⟩ = some (.int .i64 xn) := (Xm.cell 7).trans rfl
        go_region_with (go_at_call 192; refine (impl_fall2 _ _ _ _).mono ?_; rintro e w7 ⟨rfl, b7⟩; have b8 : Below v6.heap.size v6 w7 := (by (repeat' (first | (with_reducible exact Below.refl _ _) | (with_reducible assumption) | (with_reducible refine Below.alloc ?_ ?_ _) | (with_reducible refine Below.setCell ?_ ?_ _) | (with_reducible refine Below.drew ?_) | (with_reducible refine below_drewN ?_ _) | (with_reducible refine Below.trans ?_ (Below.mono (by assumption) ?_)) | go_size))); have Xm7 := Xm.below b8 hml; have X17 := X1.below b8 h1l; have X27 := X2.below b8 h2l; have z1 := X17.lt; have z2 := X27.lt; have zm := Xm7.lt; have Xm7k0 : w7.cell? ⟨gm, 0, none⟩ = some (.int .i64 (r : Int)) := (Xm7.cell 0).trans rfl; have Xm7k1 : w7.cell? ⟨gm, 1, none⟩ = some (.int .i64 (c : Int)) := (Xm7.cell 1).trans rfl; have Xm7k2 : w7.cell? ⟨gm, 2, none⟩ = some (.slice A5 sl.length c5) := (Xm7.cell 2).trans rfl; have Xm7k3 : w7.cell? ⟨gm, 3, none⟩ = some (.int .i64 p) := (Xm7.cell 3).trans rfl; have Xm7k4 : w7.cell? ⟨gm, 4, none⟩ = some (.int .i64 q) := (Xm7.cell 4).trans rfl; have Xm7k5 : w7.cell? ⟨gm, 5, none⟩ = some (.int .i64 xb) := (Xm7.cell 5).trans rfl; have Xm7k6 : w7.cell? ⟨gm, 6, none⟩ = some (.int .i64 xr) := (Xm7.cell 6).trans rfl; have Xm7k7 : w7.cell? ⟨gm, 7, none⟩ = some (.int .i64 xn) := (Xm7.cell 7).trans rfl; have X17k0 : w7.cell? ⟨w.heap.size + 1, 0, none⟩ = some (.int .i64 0) := (X17.cell 0).trans rfl; have X17k1 : w7.cell? ⟨w.heap.size + 1, 1, none⟩ = some (.int .i64 0) := (X17.cell 1).trans rfl; have X17k2 : w7.cell? ⟨w.heap.size + 1, 2, none⟩ = some (.slice none 0 0) := (X17.cell 2).trans rfl; have X17k3 : w7.cell? ⟨w.heap.size + 1, 3, none⟩ = some (.int .i64 0) := (X17.cell 3).trans rfl; have X17k4 : w7.cell? ⟨w.heap.size + 1, 4, none⟩ = some (.int .i64 0) := (X17.cell 4).trans rfl; have X17k5 : w7.cell? ⟨w.heap.size + 1, 5, none⟩ = some (.int .i64 0) := (X17.cell 5).trans rfl; have X17k6 : w7.cell? ⟨w.heap.size + 1, 6, none⟩ = some (.int .i64 0) := (X17.cell 6).trans rfl; have X17k7 : w7.cell? ⟨w.heap.size + 1, 7, none⟩ = some (.int .i64 0) := (X17.cell 7).trans rfl; have X17f0 := X17.frozen 0; have X17f1 := X17.frozen 1; have X17f2 := X17.frozen 2; have X17f3 := X17.frozen 3; have X17f4 := X17.frozen 4; have X17f5 := X17.frozen 5; have X17f6 := X17.frozen 6; have X17f7 := X17.frozen 7; have X27k0 : w7.cell? ⟨w.heap.size + 1 + 1, 0, none⟩ = some (.int .i64 0) := (X27.cell 0).trans rfl; have X27k1 : w7.cell? ⟨w.heap.size + 1 + 1, 1, none⟩ = some (.int .i64 0) := (X27.cell 1).trans rfl; have X27k2 : w7.cell? ⟨w.heap.size + 1 + 1, 2, none⟩ = some (.int .i64 0) := (X27.cell 2).trans rfl; have X27f0 := X27.frozen 0; have X27f1 := X27.frozen 1; have X27f2 := X27.frozen 2)
        all_goals (have B7 : Below w.heap.size w w7 := B0.trans (b8.mono B0.size); have O7 := O5.keep b8; go_wp2; rewrite [mset_fold]; obtain ⟨v9, hv9⟩ : ∃ v9, v9 = ((((mset w7 (w.heap.size + 1) (.int .i64 (r : Int)) (.int .i64 (c : Int)) (.slice A5 sl.length c5) (.int .i64 p) (.int .i64 q) (.int .i64 xb) (.int .i64 xr) (.int .i64 xn)).setCell ⟨w.heap.size + 1 + 1, 0, none⟩ (.int .i64 fe)).setCell ⟨w.heap.size + 1 + 1, 1, none⟩ (.int .i64 fr)).setCell ⟨w.heap.size + 1 + 1, 2, none⟩ (.int .i64 fc)) := ⟨_, rfl⟩; have Z1 : Whole v9 (w.heap.size + 1) 56 [.int .i64 (r : Int), .int .i64 (c : Int), .slice A5 sl.length c5, .int .i64 p, .int .i64 q, .int .i64 xb, .int .i64 xr, .int .i64 xn] := (by rw [hv9]; exact three_far (X17.mset _ _ _ _ _ _ _ _) n21); have Z2 : Whole v9 (w.heap.size + 1 + 1) 61 [.int .i64 fe, .int .i64 fr, .int .i64 fc] := (by rw [hv9]; exact whole_three (X27.mset_far n12)); have O9 : Own v9 A5 27 (flat sl) := (by rw [hv9]; exact own_three (own_mset O7 X17 (by decide)) (X27.mset_far n12) (by decide)); have B9 : Below w.heap.size w v9 := (by rw [hv9]; exact (((below_mset B7 (by omega)).setCell (p := ⟨w.heap.size + 1 + 1, 0, none⟩) (by show w.heap.size ≤ w.heap.size + 1 + 1; omega) _).setCell (p := ⟨w.heap.size + 1 + 1, 1, none⟩) (by show w.heap.size ≤ w.heap.size + 1 + 1; omega) _).setCell (p := ⟨w.heap.size + 1 + 1, 2, none⟩) (by show w.heap.size ≤ w.heap.size + 1 + 1; omega) _); rewrite [← hv9]; clear Xm7k0 Xm7k1 Xm7k2 Xm7k3 Xm7k4 Xm7k5 Xm7k6 Xm7k7; clear X17k0 X17k1 X17k2 X17k3 X17k4 X17k5 X17k6 X17k7; clear X27k0 X27k1 X27k2; clear Xmk0 Xmk1 Xmk2 Xmk3 Xmk4 Xmk5 Xmk6 Xmk7; clear X17f0 X17f1 X17f2 X17f3 X17f4 X17f5 X17f6 X17f7 X27f0 X27f1 X27f2 hv9 X17 X27 O7 B7 Xrk1 X1 X2 Xm Xm7 O5 B0; have Z1k0 : v9.cell? ⟨w.heap.size + 1, 0, none⟩ = some (.int .i64 (r : Int)) := (Z1.cell 0).trans rfl; have Z1k1 : v9.cell? ⟨w.heap.size + 1, 1, none⟩ = some (.int .i64 (c : Int)) := (Z1.cell 1).trans rfl; have Z1k2 : v9.cell? ⟨w.heap.size + 1, 2, none⟩ = some (.slice A5 sl.length c5) := (Z1.cell 2).trans rfl; have Z1k3 : v9.cell? ⟨w.heap.size + 1, 3, none⟩ = some (.int .i64 p) := (Z1.cell 3).trans rfl; have Z1k4 : v9.cell? ⟨w.heap.size + 1, 4, none⟩ = some (.int .i64 q) := (Z1.cell 4).trans rfl; have Z1k5 : v9.cell? ⟨w.heap.size + 1, 5, none⟩ = some (.int .i64 xb) := (Z1.cell 5).trans rfl; have Z1k6 : v9.cell? ⟨w.heap.size + 1, 6, none⟩ = some (.int .i64 xr) := (Z1.cell 6).trans rfl; have Z1k7 : v9.cell? ⟨w.heap.size + 1, 7, none⟩ = some (.int .i64 xn) := (Z1.cell 7).trans rfl; have Z2k0 : v9.cell? ⟨w.heap.size + 1 + 1, 0, none⟩ = some (.int .i64 fe) := (Z2.cell 0).trans rfl; have Z2k1 : v9.cell? ⟨w.heap.size + 1 + 1, 1, none⟩ = some (.int .i64 fr) := (Z2.cell 1).trans rfl; have Z2k2 : v9.cell? ⟨w.heap.size + 1 + 1, 2, none⟩ = some (.int .i64 fc) := (Z2.cell 2).trans rfl; refine bodyPost_ret (v := .tuple #[.agg #[.int .i64 (r : Int), .int .i64 (c : Int), .slice A5 sl.length c5, .int .i64 p, .int .i64 q, .int .i64 xb, .int .i64 xr, .int .i64 xn], .agg #[.int .i64 fe, .int .i64 fr, .int .i64 fc], .bool true]) ?_ rfl ?_; (focus (simp [results, Try.results42, go_sem, *]; done)); exact PostAF.yes (F := ⟨fe, fr, fc, sl, fw⟩) HY.out HN HF HE HHF.out HHb.out HHr.out HHn.out HLn.out.symm O9 N5 B9)
    · have HCn := Lib.hid hc
      have e1 : runM (r : Int) (c : Int) p q 1 ⟨l, bl, rd, nx, [], []⟩ = ⟨l, bl, rd, nx, [], []⟩ := runM_stop hc
      rw [e1] at HQ
      have HQ' := Lib.hid HQ
      clear HQ e1 hr hG hg hp hq hbl hcc ho hc
      go_enter Try.func42, Try.ntmps42
      obtain ⟨v0, hv0, X0, X1, X2, B0, hz0⟩ := three_boxes w [.int .i64 (r : Int), .int .i64 (c : Int), .slice (some ⟨b, o, none⟩) l.length cap, .int .i64 p, .int .i64 q, .int .i64 bl, .int .i64 rd, .int .i64 nx] 56 [.int .i64 0, .int .i64 0, .slice none 0 0, .int .i64 0, .int .i64 0, .int .i64 0, .int .i64 0, .int .i64 0] 56 [.int .i64 0, .int .i64 0, .int .i64 0] 61; have HV := Lib.hid hv0; have hx : w.heap.size + 1 + 1 < v0.heap.size := (by omega); have hz : w.heap.size + 1 < v0.heap.size := (by omega); have hy : w.heap.size < v0.heap.size := (by omega); have hb0 := B0.size; clear hv0 hz0; go_wp2_with fail; rewrite [show ((w.alloc (.cells ([.int .i64 (r : Int), .int .i64 (c : Int), .slice (some ⟨b, o, none⟩) l.length cap, .int .i64 p, .int .i64 q, .int .i64 bl, .int .i64 rd, .int .i64 nx] : List Value).toArray 56)).alloc (.cells ([.int .i64 0, .int .i64 0, .slice none 0 0, .int .i64 0, .int .i64 0, .int .i64 0, .int .i64 0, .int .i64 0] : List Value).toArray 56)).alloc (.cells ([.int .i64 0, .int .i64 0, .int .i64 0] : List Value).toArray 61) = v0 from HV.out]; clear HV
      refine (HQ'.out _ ((hr'.below B0).mono B0.size)).mono ?_; rintro e w3 hP
      obtain ⟨A5, c5, v2, rfl, O5, n5, h2, b3⟩ := hP
      clear HQ' O5 n5
      obtain ⟨A6, c6, rfl, -, -⟩ := own_slice h2
      have e2 : (relS ⟨l, bl, rd, nx, [], []⟩).length = 0 := rfl
      rewrite [e2]
      replace X0 := X0.below b3 X0.lt; replace X1 := X1.below b3 X1.lt; replace X2 := X2.below b3 X2.lt; replace B0 := B0.trans (b3.mono B0.size); have hy := X0.lt; have hz := X1.lt; have hx := X2.lt; have hb0 := B0.size; clear b3
      clear X0 h2
      go_upto_region 2 with (fail)
      obtain ⟨v6, hv6⟩ : ∃ v6, v6 = w3.alloc (.cells #[.int .i64 (r : Int), .int .i64 (c : Int), .slice A5 l.length c5, .int .i64 p, .int .i64 q, .int .i64 bl, .int .i64 rd, .int .i64 nx] 56) := ⟨_, rfl⟩
      have b6 : Below w3.heap.size w3 v6 := by rw [hv6]; exact (Below.refl _ _).alloc (Nat.le_refl _) _
      rewrite [← hv6]
      clear hv6
      replace X1 := X1.below b6 X1.lt
      replace X2 := X2.below b6 X2.lt
      replace B0 := B0.trans (b6.mono B0.size)
      clear b6 hy hz hx hb0
      have h1l := X1.lt
      have h2l := X2.lt
      have n21 : w.heap.size + 1 + 1 ≠ w.heap.size + 1 := by omega
      have n12 : w.heap.size + 1 ≠ w.heap.size + 1 + 1 := by omega
      have X1k0 : v6.cell? ⟨w.heap.size + 1, 0, none⟩ = some (.int .i64 0) := (X1.cell 0).trans rfl; have X1k1 : v6.cell? ⟨w.heap.size + 1, 1, none⟩ = some (.int .i64 0) := (X1.cell 1).trans rfl; have X1k2 : v6.cell? ⟨w.heap.size + 1, 2, none⟩ = some (.slice none 0 0) := (X1.cell 2).trans rfl; have X1k3 : v6.cell? ⟨w.heap.size + 1, 3, none⟩ = some (.int .i64 0) := (X1.cell 3).trans rfl; have X1k4 : v6.cell? ⟨w.heap.size + 1, 4, none⟩ = some (.int .i64 0) := (X1.cell 4).trans rfl; have X1k5 : v6.cell? ⟨w.heap.size + 1, 5, none⟩ = some (.int .i64 0) := (X1.cell 5).trans rfl
      have X1k6 : v6.cell? ⟨w.heap.size + 1, 6, none⟩ = some (.int .i64 0) := (X1.cell 6).trans rfl; have X1k7 : v6.cell? ⟨w.heap.size + 1, 7, none⟩ = some (.int .i64 0) := (X1.cell 7).trans rfl
      have X1f0 := X1.frozen 0; have X1f1 := X1.frozen 1; have X1f2 := X1.frozen 2; have X1f3 := X1.frozen 3; have X1f4 := X1.frozen 4; have X1f5 := X1.frozen 5; have X1f6 := X1.frozen 6; have X1f7 := X1.frozen 7
      have X2k0 : v6.cell? ⟨w.heap.size + 1 + 1, 0, none⟩ = some (.int .i64 0) := (X2.cell 0).trans rfl; have X2k1 : v6.cell? ⟨w.heap.size + 1 + 1, 1, none⟩ = some (.int .i64 0) := (X2.cell 1).trans rfl; have X2k2 : v6.cell? ⟨w.heap.size + 1 + 1, 2, none⟩ = some (.int .i64 0) := (X2.cell 2).trans rfl
      have X2f0 := X2.frozen 0; have X2f1 := X2.frozen 1; have X2f2 := X2.frozen 2
      go_wp2
      rewrite [mset_fold]
      obtain ⟨v9, hv9⟩ : ∃ v9, v9 = (((mset v6 (w.heap.size + 1) (.int .i64 0) (.int .i64 0) (.slice none 0 0) (.int .i64 0) (.int .i64 0) (.int .i64 0) (.int .i64 0) (.int .i64 0)).setCell ⟨w.heap.size + 1 + 1, 0, none⟩ (.int .i64 0)).setCell ⟨w.heap.size + 1 + 1, 1, none⟩ (.int .i64 0)).setCell ⟨w.heap.size + 1 + 1, 2, none⟩ (.int .i64 0) := ⟨_, rfl⟩
      have Z1 : Whole v9 (w.heap.size + 1) 56 [.int .i64 0, .int .i64 0, .slice none 0 0, .int .i64 0, .int .i64 0, .int .i64 0, .int .i64 0, .int .i64 0] := by rw [hv9]; exact three_far (X1.mset _ _ _ _ _ _ _ _) n21
      have Z2 : Whole v9 (w.heap.size + 1 + 1) 61 [.int .i64 0, .int .i64 0, .int .i64 0] := by rw [hv9]; exact whole_three (X2.mset_far n12)
      have B9 : Below w.heap.size w v9 := by rw [hv9]; exact (((below_mset B0 (by omega)).setCell (p := ⟨w.heap.size + 1 + 1, 0, none⟩) (by show w.heap.size ≤ w.heap.size + 1 + 1; omega) _).setCell (p := ⟨w.heap.size + 1 + 1, 1, none⟩) (by show w.heap.size ≤ w.heap.size + 1 + 1; omega) _).setCell (p := ⟨w.heap.size + 1 + 1, 2, none⟩) (by show w.heap.size ≤ w.heap.size + 1 + 1; omega) _
      rewrite [← hv9]
      clear X1k0 X1k1 X1k2 X1k3 X1k4 X1k5 X1k6 X1k7
      clear X2k0 X2k1 X2k2
      clear X1f0 X1f1 X1f2 X1f3 X1f4 X1f5 X1f6 X1f7 X2f0 X2f1 X2f2 hv9 X1 X2
      have Z1k0 : v9.cell? ⟨w.heap.size + 1, 0, none⟩ = some (.int .i64 0) := (Z1.cell 0).trans rfl; have Z1k1 : v9.cell? ⟨w.heap.size + 1, 1, none⟩ = some (.int .i64 0) := (Z1.cell 1).trans rfl; have Z1k2 : v9.cell? ⟨w.heap.size + 1, 2, none⟩ = some (.slice none 0 0) := (Z1.cell 2).trans rfl; have Z1k3 : v9.cell? ⟨w.heap.size + 1, 3, none⟩ = some (.int .i64 0) := (Z1.cell 3).trans rfl; have Z1k4 : v9.cell? ⟨w.heap.size + 1, 4, none⟩ = some (.int .i64 0) := (Z1.cell 4).trans rfl; have Z1k5 : v9.cell? ⟨w.heap.size + 1, 5, none⟩ = some (.int .i64 0) := (Z1.cell 5).trans rfl
      have Z1k6 : v9.cell? ⟨w.heap.size + 1, 6, none⟩ = some (.int .i64 0) := (Z1.cell 6).trans rfl; have Z1k7 : v9.cell? ⟨w.heap.size + 1, 7, none⟩ = some (.int .i64 0) := (Z1.cell 7).trans rfl
      have Z2k0 : v9.cell? ⟨w.heap.size + 1 + 1, 0, none⟩ = some (.int .i64 0) := (Z2.cell 0).trans rfl; have Z2k1 : v9.cell? ⟨w.heap.size + 1 + 1, 1, none⟩ = some (.int .i64 0) := (Z2.cell 1).trans rfl; have Z2k2 : v9.cell? ⟨w.heap.size + 1 + 1, 2, none⟩ = some (.int .i64 0) := (Z2.cell 2).trans rfl
      refine bodyPost_ret (v := .tuple #[(.agg #[.int .i64 0, .int .i64 0, .slice none 0 0, .int .i64 0, .int .i64 0, .int .i64 0, .int .i64 0, .int .i64 0]), .agg #[.int .i64 0, .int .i64 0, .int .i64 0], .bool false]) ?_ rfl ?_; (focus (simp [results, Try.results42, go_sem, *]; done))
      exact PostAF.no (by unfold okStp; rw [HO.out, HCn.out]; rfl) HN HF HE B9
  · have HO := Lib.hid ho
    have HQ' := Lib.hid (fun w' h => impl_runSteps_no R C A cap l p q bl rd nx 1 w' ho hn h)
    clear ho
    go_enter Try.func42, Try.ntmps42
    obtain ⟨v0, hv0, X0, X1, X2, B0, hz0⟩ := three_boxes w [.int .i64 R, .int .i64 C, .slice A l.length cap, .int .i64 p, .int .i64 q, .int .i64 bl, .int .i64 rd, .int .i64 nx] 56 [.int .i64 0, .int .i64 0, .slice none 0 0, .int .i64 0, .int .i64 0, .int .i64 0, .int .i64 0, .int .i64 0] 56 [.int .i64 0, .int .i64 0, .int .i64 0] 61; have HV := Lib.hid hv0; have hx : w.heap.size + 1 + 1 < v0.heap.size := (by omega); have hz : w.heap.size + 1 < v0.heap.size := (by omega); have hy : w.heap.size < v0.heap.size := (by omega); have hb0 := B0.size; clear hv0 hz0; go_wp2_with fail; rewrite [show ((w.alloc (.cells ([.int .i64 R, .int .i64 C, .slice A l.length cap, .int .i64 p, .int .i64 q, .int .i64 bl, .int .i64 rd, .int .i64 nx] : List Value).toArray 56)).alloc (.cells ([.int .i64 0, .int .i64 0, .slice none 0 0, .int .i64 0, .int .i64 0, .int .i64 0, .int .i64 0, .int .i64 0] : List Value).toArray 56)).alloc (.cells ([.int .i64 0, .int .i64 0, .int .i64 0] : List Value).toArray 61) = v0 from HV.out]; clear HV
    refine (HQ'.out _ ((hr.below B0).mono B0.size)).mono ?_; rintro e w3 ⟨rfl, b3⟩
    clear HQ'
    replace X0 := X0.below b3 X0.lt; replace X1 := X1.below b3 X1.lt; replace X2 := X2.below b3 X2.lt; replace B0 := B0.trans (b3.mono B0.size); have hy := X0.lt; have hz := X1.lt; have hx := X2.lt; have hb0 := B0.size; clear b3
    clear X0
    go_upto_region 2 with (fail)
    obtain ⟨v6, hv6⟩ : ∃ v6, v6 = w3.alloc (.cells #[.int .i64 0, .int .i64 0, .slice none 0 0, .int .i64 0, .int .i64 0, .int .i64 0, .int .i64 0, .int .i64 0] 56) := ⟨_, rfl⟩
    have b6 : Below w3.heap.size w3 v6 := by rw [hv6]; exact (Below.refl _ _).alloc (Nat.le_refl _) _
    rewrite [← hv6]
    clear hv6
    replace X1 := X1.below b6 X1.lt
    replace X2 := X2.below b6 X2.lt
    replace B0 := B0.trans (b6.mono B0.size)
    clear b6 hy hz hx hb0
    have h1l := X1.lt
    have h2l := X2.lt
    have n21 : w.heap.size + 1 + 1 ≠ w.heap.size + 1 := by omega
    have n12 : w.heap.size + 1 ≠ w.heap.size + 1 + 1 := by omega
    have X1k0 : v6.cell? ⟨w.heap.size + 1, 0, none⟩ = some (.int .i64 0) := (X1.cell 0).trans rfl; have X1k1 : v6.cell? ⟨w.heap.size + 1, 1, none⟩ = some (.int .i64 0) := (X1.cell 1).trans rfl; have X1k2 : v6.cell? ⟨w.heap.size + 1, 2, none⟩ = some (.slice none 0 0) := (X1.cell 2).trans rfl; have X1k3 : v6.cell? ⟨w.heap.size + 1, 3, none⟩ = some (.int .i64 0) := (X1.cell 3).trans rfl; have X1k4 : v6.cell? ⟨w.heap.size + 1, 4, none⟩ = some (.int .i64 0) := (X1.cell 4).trans rfl; have X1k5 : v6.cell? ⟨w.heap.size + 1, 5, none⟩ = some (.int .i64 0) := (X1.cell 5).trans rfl
    have X1k6 : v6.cell? ⟨w.heap.size + 1, 6, none⟩ = some (.int .i64 0) := (X1.cell 6).trans rfl; have X1k7 : v6.cell? ⟨w.heap.size + 1, 7, none⟩ = some (.int .i64 0) := (X1.cell 7).trans rfl
    have X1f0 := X1.frozen 0; have X1f1 := X1.frozen 1; have X1f2 := X1.frozen 2; have X1f3 := X1.frozen 3; have X1f4 := X1.frozen 4; have X1f5 := X1.frozen 5; have X1f6 := X1.frozen 6; have X1f7 := X1.frozen 7
    have X2k0 : v6.cell? ⟨w.heap.size + 1 + 1, 0, none⟩ = some (.int .i64 0) := (X2.cell 0).trans rfl; have X2k1 : v6.cell? ⟨w.heap.size + 1 + 1, 1, none⟩ = some (.int .i64 0) := (X2.cell 1).trans rfl; have X2k2 : v6.cell? ⟨w.heap.size + 1 + 1, 2, none⟩ = some (.int .i64 0) := (X2.cell 2).trans rfl
    have X2f0 := X2.frozen 0; have X2f1 := X2.frozen 1; have X2f2 := X2.frozen 2
    go_wp2
    rewrite [mset_fold]
    obtain ⟨v9, hv9⟩ : ∃ v9, v9 = (((mset v6 (w.heap.size + 1) (.int .i64 0) (.int .i64 0) (.slice none 0 0) (.int .i64 0) (.int .i64 0) (.int .i64 0) (.int .i64 0) (.int .i64 0)).setCell ⟨w.heap.size + 1 + 1, 0, none⟩ (.int .i64 0)).setCell ⟨w.heap.size + 1 + 1, 1, none⟩ (.int .i64 0)).setCell ⟨w.heap.size + 1 + 1, 2, none⟩ (.int .i64 0) := ⟨_, rfl⟩
    have Z1 : Whole v9 (w.heap.size + 1) 56 [.int .i64 0, .int .i64 0, .slice none 0 0, .int .i64 0, .int .i64 0, .int .i64 0, .int .i64 0, .int .i64 0] := by rw [hv9]; exact three_far (X1.mset _ _ _ _ _ _ _ _) n21
    have Z2 : Whole v9 (w.heap.size + 1 + 1) 61 [.int .i64 0, .int .i64 0, .int .i64 0] := by rw [hv9]; exact whole_three (X2.mset_far n12)
    have B9 : Below w.heap.size w v9 := by rw [hv9]; exact (((below_mset B0 (by omega)).setCell (p := ⟨w.heap.size + 1 + 1, 0, none⟩) (by show w.heap.size ≤ w.heap.size + 1 + 1; omega) _).setCell (p := ⟨w.heap.size + 1 + 1, 1, none⟩) (by show w.heap.size ≤ w.heap.size + 1 + 1; omega) _).setCell (p := ⟨w.heap.size + 1 + 1, 2, none⟩) (by show w.heap.size ≤ w.heap.size + 1 + 1; omega) _
    rewrite [← hv9]
    clear X1k0 X1k1 X1k2 X1k3 X1k4 X1k5 X1k6 X1k7
    clear X2k0 X2k1 X2k2
    clear X1f0 X1f1 X1f2 X1f3 X1f4 X1f5 X1f6 X1f7 X2f0 X2f1 X2f2 hv9 X1 X2
    have Z1k0 : v9.cell? ⟨w.heap.size + 1, 0, none⟩ = some (.int .i64 0) := (Z1.cell 0).trans rfl; have Z1k1 : v9.cell? ⟨w.heap.size + 1, 1, none⟩ = some (.int .i64 0) := (Z1.cell 1).trans rfl; have Z1k2 : v9.cell? ⟨w.heap.size + 1, 2, none⟩ = some (.slice none 0 0) := (Z1.cell 2).trans rfl; have Z1k3 : v9.cell? ⟨w.heap.size + 1, 3, none⟩ = some (.int .i64 0) := (Z1.cell 3).trans rfl; have Z1k4 : v9.cell? ⟨w.heap.size + 1, 4, none⟩ = some (.int .i64 0) := (Z1.cell 4).trans rfl; have Z1k5 : v9.cell? ⟨w.heap.size + 1, 5, none⟩ = some (.int .i64 0) := (Z1.cell 5).trans rfl
    have Z1k6 : v9.cell? ⟨w.heap.size + 1, 6, none⟩ = some (.int .i64 0) := (Z1.cell 6).trans rfl; have Z1k7 : v9.cell? ⟨w.heap.size + 1, 7, none⟩ = some (.int .i64 0) := (Z1.cell 7).trans rfl
    have Z2k0 : v9.cell? ⟨w.heap.size + 1 + 1, 0, none⟩ = some (.int .i64 0) := (Z2.cell 0).trans rfl; have Z2k1 : v9.cell? ⟨w.heap.size + 1 + 1, 1, none⟩ = some (.int .i64 0) := (Z2.cell 1).trans rfl; have Z2k2 : v9.cell? ⟨w.heap.size + 1 + 1, 2, none⟩ = some (.int .i64 0) := (Z2.cell 2).trans rfl
    refine bodyPost_ret (v := .tuple #[(.agg #[.int .i64 0, .int .i64 0, .slice none 0 0, .int .i64 0, .int .i64 0, .int .i64 0, .int .i64 0, .int .i64 0]), .agg #[.int .i64 0, .int .i64 0, .int .i64 0], .bool false]) ?_ rfl ?_; (focus (simp [results, Try.results42, go_sem, *]; done))
    exact PostAF.no (by unfold okStp; rw [HO.out]; rfl) HN HF HE B9
end Go.Proofs.Ytpfjbecpfdgnpaa
