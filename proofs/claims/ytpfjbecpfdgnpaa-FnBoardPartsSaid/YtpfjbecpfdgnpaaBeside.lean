/- BesideBoards, program and model. -/
import Derived.Test.YtpfjbecpfdgnpaaStack
import Derived.Test.YtpfjbecpfdgnpaaBoxes
import Derived.Test.YtpfjbecpfdgnpaaRowOf
namespace Go.Proofs.Ytpfjbecpfdgnpaa
open Go.ChangeShapes Go.WideShapes Go.ChangeAt Go.RowKit Go.Joins Go.Deep
set_option linter.unusedSimpArgs false
set_option linter.unusedVariables false
set_option maxRecDepth 100000
set_option maxHeartbeats 1000000
def rowsB (C : Int) (l : List (Int × Int)) (C' : Int) (m : List (Int × Int)) (k : Nat) : List (Int × Int) := (List.range k).flatMap fun i => rowL C l i ++ rowL C' m i
theorem rowsB_succ (C : Int) (l : List (Int × Int)) (C' : Int) (m : List (Int × Int)) (k : Nat) : rowsB C l C' m (k + 1) = rowsB C l C' m k ++ rowL C l k ++ rowL C' m k := by
  unfold rowsB
  rw [List.range_succ, List.flatMap_append]
  simp
theorem rowsB_len {R C C' : Int} {l m : List (Int × Int)} (hg : goodB R C l = true) (hg' : goodB R C' m = true) {k : Nat} (hk : (k : Int) ≤ R) : (rowsB C l C' m k).length = k * (C.toNat + C'.toNat) := by
  induction k with
  | zero => simp [rowsB]
  | succ k ih =>
    have hk' : (k : Int) < R := by omega
    rw [rowsB_succ, List.length_append, List.length_append, ih (by omega), rowL_len hg hk', rowL_len hg' hk', Nat.succ_mul]
    omega
theorem rowsB_all {R C C' : Int} {l m : List (Int × Int)} (hg : goodB R C l = true) (hg' : goodB R C' m = true) {k : Nat} (hk : (k : Int) ≤ R) : ∀ c ∈ rowsB C l C' m k, good c.1 c.2 = true := by
  intro c hc
  unfold rowsB at hc
  rw [List.mem_flatMap] at hc
  obtain ⟨i, hi, hc⟩ := hc
  rw [List.mem_range] at hi
  have h1 := rowL_good (k := i) hg (by omega)
  have h2 := rowL_good (k := i) hg' (by omega)
  unfold goodL at h1 h2
  rw [Bool.and_eq_true, List.all_eq_true] at h1 h2
  rcases List.mem_append.1 hc with h | h
  · exact h1.2 c h
  · exact h2.2 c h
theorem rowsB_small {R C C' : Int} {l m : List (Int × Int)} (hg : goodB R C l = true) (hg' : goodB R C' m = true) {k : Nat} (hk : (k : Int) ≤ R) : (rowsB C l C' m k).length ≤ 180 := by
  rw [rowsB_len hg hg' hk]
  obtain ⟨s1, s2, s3, s4⟩ := sizeB_iff.1 (goodB_iff.1 hg).1
  obtain ⟨t1, t2, t3, t4⟩ := sizeB_iff.1 (goodB_iff.1 hg').1
  have h1 : k ≤ 10 := by omega
  have h2 : C.toNat + C'.toNat ≤ 18 := by omega
  calc k * (C.toNat + C'.toNat) ≤ 10 * 18 := Nat.mul_le_mul h1 h2
    _ = 180 := rfl
def okBeside (R C : Int) (l : List (Int × Int)) (R' C' : Int) (m : List (Int × Int)) : Bool := goodB R C l && goodB R' C' m && decide (R = R' ∧ C + C' ≤ 9)
def besideL (R C : Int) (l : List (Int × Int)) (R' C' : Int) (m : List (Int × Int)) : List (Int × Int) := if okBeside R C l R' C' m then rowsB C l C' m R.toNat else []
theorem besideL_len (R C : Int) (l : List (Int × Int)) (R' C' : Int) (m : List (Int × Int)) : (besideL R C l R' C' m).length ≤ 1048576 := by
  unfold besideL
  rcases Bool.eq_false_or_eq_true (okBeside R C l R' C' m) with h | h
  · rw [h, if_pos rfl]
    unfold okBeside at h
    simp only [Bool.and_eq_true, decide_eq_true_eq] at h
    obtain ⟨⟨h1, h2⟩, rfl, _⟩ := h
    have h3 := (sizeB_iff.1 (goodB_iff.1 h1).1).1
    have := rowsB_small h1 h2 (k := R.toNat) (by omega)
    omega
  · rw [h]; simp
theorem good_beside {R C C' : Int} {l m : List (Int × Int)} (hg : goodB R C l = true) (hg' : goodB R C' m = true) (hc : C + C' ≤ 9) : goodB R (C + C') (rowsB C l C' m R.toNat) = true := by
  obtain ⟨s1, s2, s3, s4⟩ := sizeB_iff.1 (goodB_iff.1 hg).1
  obtain ⟨t1, t2, t3, t4⟩ := sizeB_iff.1 (goodB_iff.1 hg').1
  refine goodB_iff.2 ⟨sizeB_iff.2 (by omega), ?_, rowsB_all hg hg' (by omega)⟩
  rw [rowsB_len hg hg' (by omega)]
  obtain ⟨n, rfl⟩ : ∃ n : Nat, C = (n : Int) := ⟨C.toNat, by omega⟩
  obtain ⟨n', rfl⟩ : ∃ n : Nat, C' = (n : Int) := ⟨C'.toNat, by omega⟩
  obtain ⟨r, rfl⟩ : ∃ r : Nat, R = (r : Int) := ⟨R.toNat, by omega⟩
  simp only [Int.toNat_natCast]
  push_cast
  rfl
theorem bad_beside {R C C' : Int} {l : List (Int × Int)} (hc : ¬ C + C' ≤ 9) : goodB R (C + C') l = false := goodB_size (by unfold sizeB; simp; omega)
theorem run_make0 (n : Nat) (hn : n ≤ 1048576) (w : World) :
    (Instr.makeSlice 23 (.int .i64 0) (.int .i64 (n : Int))).run Try.prog w = .ok (.slice (some ⟨w.heap.size, 0, none⟩) 0 n) (w.alloc (.cells (zrow (2 * n)).toArray 27)) := by
  obtain ⟨i0, hi, hz0, hz1, hz2⟩ := info_parts cellInfo
  have h := run_make (P := Try.prog) w 23 27 i0 _ Try.underlying23 hi hz0 .i64 .i64 0 (n : Int) (by omega) (by omega) (by rw [hz2]; omega) (by omega)
  rw [hz1] at h
  simp only [Int.toNat_natCast] at h
  rw [h, made_cells]
  rfl
theorem made_row (w : World) (n : Nat) (hn : n ≤ maxLen) : (w.alloc (.cells (zrow (2 * n)).toArray 27)).ownsRow w.heap.size 27 2 (.slice (some ⟨w.heap.size, 0, none⟩) 0 n) 0 [] :=
  ⟨rfl, .inr ⟨w.heap.size, n, (zrow (2 * n)).toArray, rfl, Nat.le_refl _, heap_alloc_new w _, Nat.zero_le _, hn, by simp [zrow]; omega, by rw [Nat.zero_mul, List.take_zero]⟩⟩
theorem impl_BesideBoards_bad1 (R C : Int) (A : Option Addr) (cap : Nat) (l : List (Int × Int)) (R' C' : Int) (A' : Option Addr) (cap' : Nat) (m : List (Int × Int)) (w : World) (hg : goodB R C l = false) (hn : l.length ≤ 1048576) (hr : Rd w w.heap.size A (flat l)) (hm : m.length ≤ 1048576) (hr' : Rd w w.heap.size A' (flat m)) : Calls Try.prog 21 #[.agg #[.int .i64 R, .int .i64 C, .slice A l.length cap], .agg #[.int .i64 R', .int .i64 C', .slice A' m.length cap']] w (PostB w 0 0 [] false) := by
  have HG := Lib.hid hg
  clear hg
  go_enter Try.func21, Try.ntmps21
  obtain ⟨v0, hv0, X0, X1, X2, B0, hz0⟩ := three_boxes w [.int .i64 R, .int .i64 C, .slice A l.length cap] 25 [.int .i64 R', .int .i64 C', .slice A' m.length cap'] 25 [.int .i64 0, .int .i64 0, .slice none 0 0] 25; have HV := Lib.hid hv0; have hx : w.heap.size + 1 + 1 < v0.heap.size := (by omega); have hz : w.heap.size + 1 < v0.heap.size := (by omega); have hy : w.heap.size < v0.heap.size := (by omega); have hb0 := B0.size; clear hv0 hz0; go_wp2_with fail; rewrite [show ((w.alloc (.cells ([.int .i64 R, .int .i64 C, .slice A l.length cap] : List Value).toArray 25)).alloc (.cells ([.int .i64 R', .int .i64 C', .slice A' m.length cap'] : List Value).toArray 25)).alloc (.cells ([.int .i64 0, .int .i64 0, .slice none 0 0] : List Value).toArray 25) = v0 from HV.out]; clear HV
  refine (impl_IsBoard _ _ _ _ l _ hn ((hr.below B0).mono B0.size)).mono ?_; rintro e w1 ⟨rfl, b1⟩
  rewrite [HG.out]
  replace X0 := X0.below b1 X0.lt; replace X1 := X1.below b1 X1.lt; replace X2 := X2.below b1 X2.lt; replace B0 := B0.trans (b1.mono B0.size); have hy := X0.lt; have hz := X1.lt; have hx := X2.lt; have hb0 := B0.size; clear b1
  have X2k0 : w1.cell? ⟨w.heap.size + 1 + 1, 0, none⟩ = some (.int .i64 0) := (X2.cell 0).trans rfl; have X2k1 : w1.cell? ⟨w.heap.size + 1 + 1, 1, none⟩ = some (.int .i64 0) := (X2.cell 1).trans rfl; have X2k2 : w1.cell? ⟨w.heap.size + 1 + 1, 2, none⟩ = some (.slice none 0 0) := (X2.cell 2).trans rfl
  have X2f0 := X2.frozen 0; have X2f1 := X2.frozen 1; have X2f2 := X2.frozen 2
  go_wp2
  refine bodyPost_ret (v := .tuple #[.agg #[.int .i64 0, .int .i64 0, .slice none 0 0], .bool false]) ?_ rfl ?_; (focus (simp [results, Try.results21, go_sem, *]; done))
  exact PostB.none_ (by (repeat' (first | (with_reducible exact Below.refl _ _) | (with_reducible assumption) | (with_reducible refine Below.alloc ?_ ?_ _) | (with_reducible refine Below.setCell ?_ ?_ _) | (with_reducible refine Below.drew ?_) | (with_reducible refine below_drewN ?_ _) | (with_reducible refine Below.trans ?_ (Below.mono (by assumption) ?_)) | (with_reducible exact Nat.le_refl _) | (simp; done) | omega | (simp at *; omega))))
theorem impl_BesideBoards_bad2 (R C : Int) (A : Option Addr) (cap : Nat) (l : List (Int × Int)) (R' C' : Int) (A' : Option Addr) (cap' : Nat) (m : List (Int × Int)) (w : World) (hg : goodB R C l = true) (hg' : goodB R' C' m = false) (hn : l.length ≤ 1048576) (hr : Rd w w.heap.size A (flat l)) (hm : m.length ≤ 1048576) (hr' : Rd w w.heap.size A' (flat m)) : Calls Try.prog 21 #[.agg #[.int .i64 R, .int .i64 C, .slice A l.length cap], .agg #[.int .i64 R', .int .i64 C', .slice A' m.length cap']] w (PostB w 0 0 [] false) := by
  have HG := Lib.hid hg
  have HG' := Lib.hid hg'
  clear hg hg'
  go_enter Try.func21, Try.ntmps21
  obtain ⟨v0, hv0, X0, X1, X2, B0, hz0⟩ := three_boxes w [.int .i64 R, .int .i64 C, .slice A l.length cap] 25 [.int .i64 R', .int .i64 C', .slice A' m.length cap'] 25 [.int .i64 0, .int .i64 0, .slice none 0 0] 25; have HV := Lib.hid hv0; have hx : w.heap.size + 1 + 1 < v0.heap.size := (by omega); have hz : w.heap.size + 1 < v0.heap.size := (by omega); have hy : w.heap.size < v0.heap.size := (by omega); have hb0 := B0.size; clear hv0 hz0; go_wp2_with fail; rewrite [show ((w.alloc (.cells ([.int .i64 R, .int .i64 C, .slice A l.length cap] : List Value).toArray 25)).alloc (.cells ([.int .i64 R', .int .i64 C', .slice A' m.length cap'] : List Value).toArray 25)).alloc (.cells ([.int .i64 0, .int .i64 0, .slice none 0 0] : List Value).toArray 25) = v0 from HV.out]; clear HV
  refine (impl_IsBoard _ _ _ _ l _ hn ((hr.below B0).mono B0.size)).mono ?_; rintro e w1 ⟨rfl, b1⟩
  rewrite [HG.out]
  replace X0 := X0.below b1 X0.lt; replace X1 := X1.below b1 X1.lt; replace X2 := X2.below b1 X2.lt; replace B0 := B0.trans (b1.mono B0.size); have hy := X0.lt; have hz := X1.lt; have hx := X2.lt; have hb0 := B0.size; clear b1
  have X1k0 : w1.cell? ⟨w.heap.size + 1, 0, none⟩ = some (.int .i64 R') := (X1.cell 0).trans rfl; have X1k1 : w1.cell? ⟨w.heap.size + 1, 1, none⟩ = some (.int .i64 C') := (X1.cell 1).trans rfl; have X1k2 : w1.cell? ⟨w.heap.size + 1, 2, none⟩ = some (.slice A' m.length cap') := (X1.cell 2).trans rfl
  go_wp2_with fail
  refine (impl_IsBoard _ _ _ _ m _ hm ((hr'.below B0).mono B0.size)).mono ?_; rintro e w2 ⟨rfl, b2⟩
  rewrite [HG'.out]
  clear X1k0 X1k1 X1k2
  replace X0 := X0.below b2 X0.lt; replace X1 := X1.below b2 X1.lt; replace X2 := X2.below b2 X2.lt; replace B0 := B0.trans (b2.mono B0.size); have hy := X0.lt; have hz := X1.lt; have hx := X2.lt; have hb0 := B0.size; clear b2
  have X2k0 : w2.cell? ⟨w.heap.size + 1 + 1, 0, none⟩ = some (.int .i64 0) := (X2.cell 0).trans rfl; have X2k1 : w2.cell? ⟨w.heap.size + 1 + 1, 1, none⟩ = some (.int .i64 0) := (X2.cell 1).trans rfl; have X2k2 : w2.cell? ⟨w.heap.size + 1 + 1, 2, none⟩ = some (.slice none 0 0) := (X2.cell 2).trans rfl
  have X2f0 := X2.frozen 0; have X2f1 := X2.frozen 1; have X2f2 := X2.frozen 2
  go_wp2
  refine bodyPost_ret (v := .tuple #[.agg #[.int .i64 0, .int .i64 0, .slice none 0 0], .bool false]) ?_ rfl ?_; (focus (simp [results, Try.results21, go_sem, *]; done))
  exact PostB.none_ (by (repeat' (first | (with_reducible exact Below.refl _ _) | (with_reducible assumption) | (with_reducible refine Below.alloc ?_ ?_ _) | (with_reducible refine Below.setCell ?_ ?_ _) | (with_reducible refine Below.drew ?_) | (with_reducible refine below_drewN ?_ _) | (with_reducible refine Below.trans ?_ (Below.mono (by assumption) ?_)) | (with_reducible exact Nat.le_refl _) | (simp; done) | omega | (simp at *; omega))))
theorem impl_BesideBoards_rows (R C : Int) (A : Option Addr) (cap : Nat) (l : List (Int × Int)) (R' C' : Int) (A' : Option Addr) (cap' : Nat) (m : List (Int × Int)) (w : World) (hg : goodB R C l = true) (hg' : goodB R' C' m = true) (hc : ¬ R = R') (hn : l.length ≤ 1048576) (hr : Rd w w.heap.size A (flat l)) (hm : m.length ≤ 1048576) (hr' : Rd w w.heap.size A' (flat m)) : Calls Try.prog 21 #[.agg #[.int .i64 R, .int .i64 C, .slice A l.length cap], .agg #[.int .i64 R', .int .i64 C', .slice A' m.length cap']] w (PostB w 0 0 [] false) := by
  have HG := Lib.hid hg; have HG' := Lib.hid hg'; clear hg hg'
  have hcb : (R != R') = true := by simpa using hc
  clear hc
  go_enter Try.func21, Try.ntmps21
  obtain ⟨v0, hv0, X0, X1, X2, B0, hz0⟩ := three_boxes w [.int .i64 R, .int .i64 C, .slice A l.length cap] 25 [.int .i64 R', .int .i64 C', .slice A' m.length cap'] 25 [.int .i64 0, .int .i64 0, .slice none 0 0] 25; have HV := Lib.hid hv0; have hx : w.heap.size + 1 + 1 < v0.heap.size := (by omega); have hz : w.heap.size + 1 < v0.heap.size := (by omega); have hy : w.heap.size < v0.heap.size := (by omega); have hb0 := B0.size; clear hv0 hz0; go_wp2_with fail; rewrite [show ((w.alloc (.cells ([.int .i64 R, .int .i64 C, .slice A l.length cap] : List Value).toArray 25)).alloc (.cells ([.int .i64 R', .int .i64 C', .slice A' m.length cap'] : List Value).toArray 25)).alloc (.cells ([.int .i64 0, .int .i64 0, .slice none 0 0] : List Value).toArray 25) = v0 from HV.out]; clear HV
  refine (impl_IsBoard _ _ _ _ l _ hn ((hr.below B0).mono B0.size)).mono ?_; rintro e w1 ⟨rfl, b1⟩; rewrite [HG.out]; replace X0 := X0.below b1 X0.lt; replace X1 := X1.below b1 X1.lt; replace X2 := X2.below b1 X2.lt; replace B0 := B0.trans (b1.mono B0.size); have hy := X0.lt; have hz := X1.lt; have hx := X2.lt; have hb0 := B0.size; clear b1; have X1k0 : w1.cell? ⟨w.heap.size + 1, 0, none⟩ = some (.int .i64 R') := (X1.cell 0).trans rfl; have X1k1 : w1.cell? ⟨w.heap.size + 1, 1, none⟩ = some (.int .i64 C') := (X1.cell 1).trans rfl; have X1k2 : w1.cell? ⟨w.heap.size + 1, 2, none⟩ = some (.slice A' m.length cap') := (X1.cell 2).trans rfl; go_wp2_with fail; refine (impl_IsBoard _ _ _ _ m _ hm ((hr'.below B0).mono B0.size)).mono ?_; rintro e w2 ⟨rfl, b2⟩; rewrite [HG'.out]; clear X1k0 X1k1 X1k2; replace X0 := X0.below b2 X0.lt; replace X1 := X1.below b2 X1.lt; replace X2 := X2.below b2 X2.lt; replace B0 := B0.trans (b2.mono B0.size); have hy := X0.lt; have hz := X1.lt; have hx := X2.lt; have hb0 := B0.size; clear b2; have X1k0 : w2.cell? ⟨w.heap.size + 1, 0, none⟩ = some (.int .i64 R') := (X1.cell 0).trans rfl; have X1k1 : w2.cell? ⟨w.heap.size + 1, 1, none⟩ = some (.int .i64 C') := (X1.cell 1).trans rfl; have X1k2 : w2.cell? ⟨w.heap.size + 1, 2, none⟩ = some (.slice A' m.length cap') := (X1.cell 2).trans rfl; have X0k0 : w2.cell? ⟨w.heap.size, 0, none⟩ = some (.int .i64 R) := (X0.cell 0).trans rfl; have X0k1 : w2.cell? ⟨w.heap.size, 1, none⟩ = some (.int .i64 C) := (X0.cell 1).trans rfl; have X0k2 : w2.cell? ⟨w.heap.size, 2, none⟩ = some (.slice A l.length cap) := (X0.cell 2).trans rfl
  have X2k0 : w2.cell? ⟨w.heap.size + 1 + 1, 0, none⟩ = some (.int .i64 0) := (X2.cell 0).trans rfl; have X2k1 : w2.cell? ⟨w.heap.size + 1 + 1, 1, none⟩ = some (.int .i64 0) := (X2.cell 1).trans rfl; have X2k2 : w2.cell? ⟨w.heap.size + 1 + 1, 2, none⟩ = some (.slice none 0 0) := (X2.cell 2).trans rfl
  have X2f0 := X2.frozen 0; have X2f1 := X2.frozen 1; have X2f2 := X2.frozen 2
  go_wp2
  refine bodyPost_ret (v := .tuple #[.agg #[.int .i64 0, .int .i64 0, .slice none 0 0], .bool false]) ?_ rfl ?_; (focus (simp [results, Try.results21, go_sem, *]; done))
  exact PostB.none_ (by (repeat' (first | (with_reducible exact Below.refl _ _) | (with_reducible assumption) | (with_reducible refine Below.alloc ?_ ?_ _) | (with_reducible refine Below.setCell ?_ ?_ _) | (with_reducible refine Below.drew ?_) | (with_reducible refine below_drewN ?_ _) | (with_reducible refine Below.trans ?_ (Below.mono (by assumption) ?_)) | (with_reducible exact Nat.le_refl _) | (simp; done) | omega | (simp at *; omega))))
theorem impl_BesideBoards_wide (R C : Int) (A : Option Addr) (cap : Nat) (l : List (Int × Int)) (R' C' : Int) (A' : Option Addr) (cap' : Nat) (m : List (Int × Int)) (w : World) (hg : goodB R C l = true) (hg' : goodB R C' m = true) (hc : ¬ C + C' ≤ 9) (hn : l.length ≤ 1048576) (hr : Rd w w.heap.size A (flat l)) (hm : m.length ≤ 1048576) (hr' : Rd w w.heap.size A' (flat m)) : Calls Try.prog 21 #[.agg #[.int .i64 R, .int .i64 C, .slice A l.length cap], .agg #[.int .i64 R, .int .i64 C', .slice A' m.length cap']] w (PostB w 0 0 [] false) := by
  obtain ⟨_, _, s3, s4⟩ := sizeB_iff.1 (goodB_iff.1 hg).1
  obtain ⟨_, _, t3, t4⟩ := sizeB_iff.1 (goodB_iff.1 hg').1
  have HG := Lib.hid hg; have HG' := Lib.hid hg'; clear hg hg'
  have hcb : 9 < C + C' := by omega
  clear hc
  go_enter Try.func21, Try.ntmps21
  obtain ⟨v0, hv0, X0, X1, X2, B0, hz0⟩ := three_boxes w [.int .i64 R, .int .i64 C, .slice A l.length cap] 25 [.int .i64 R, .int .i64 C', .slice A' m.length cap'] 25 [.int .i64 0, .int .i64 0, .slice none 0 0] 25; have HV := Lib.hid hv0; have hx : w.heap.size + 1 + 1 < v0.heap.size := (by omega); have hz : w.heap.size + 1 < v0.heap.size := (by omega); have hy : w.heap.size < v0.heap.size := (by omega); have hb0 := B0.size; clear hv0 hz0; go_wp2_with fail; rewrite [show ((w.alloc (.cells ([.int .i64 R, .int .i64 C, .slice A l.length cap] : List Value).toArray 25)).alloc (.cells ([.int .i64 R, .int .i64 C', .slice A' m.length cap'] : List Value).toArray 25)).alloc (.cells ([.int .i64 0, .int .i64 0, .slice none 0 0] : List Value).toArray 25) = v0 from HV.out]; clear HV
  refine (impl_IsBoard _ _ _ _ l _ hn ((hr.below B0).mono B0.size)).mono ?_; rintro e w1 ⟨rfl, b1⟩; rewrite [HG.out]; replace X0 := X0.below b1 X0.lt; replace X1 := X1.below b1 X1.lt; replace X2 := X2.below b1 X2.lt; replace B0 := B0.trans (b1.mono B0.size); have hy := X0.lt; have hz := X1.lt; have hx := X2.lt; have hb0 := B0.size; clear b1; have X1k0 : w1.cell? ⟨w.heap.size + 1, 0, none⟩ = some (.int .i64 R) := (X1.cell 0).trans rfl; have X1k1 : w1.cell? ⟨w.heap.size + 1, 1, none⟩ = some (.int .i64 C') := (X1.cell 1).trans rfl; have X1k2 : w1.cell? ⟨w.heap.size + 1, 2, none⟩ = some (.slice A' m.length cap') := (X1.cell 2).trans rfl; go_wp2_with fail; refine (impl_IsBoard _ _ _ _ m _ hm ((hr'.below B0).mono B0.size)).mono ?_; rintro e w2 ⟨rfl, b2⟩; rewrite [HG'.out]; clear X1k0 X1k1 X1k2; replace X0 := X0.below b2 X0.lt; replace X1 := X1.below b2 X1.lt; replace X2 := X2.below b2 X2.lt; replace B0 := B0.trans (b2.mono B0.size); have hy := X0.lt; have hz := X1.lt; have hx := X2.lt; have hb0 := B0.size; clear b2; have X1k0 : w2.cell? ⟨w.heap.size + 1, 0, none⟩ = some (.int .i64 R) := (X1.cell 0).trans rfl; have X1k1 : w2.cell? ⟨w.heap.size + 1, 1, none⟩ = some (.int .i64 C') := (X1.cell 1).trans rfl; have X1k2 : w2.cell? ⟨w.heap.size + 1, 2, none⟩ = some (.slice A' m.length cap') := (X1.cell 2).trans rfl; have X0k0 : w2.cell? ⟨w.heap.size, 0, none⟩ = some (.int .i64 R) := (X0.cell 0).trans rfl; have X0k1 : w2.cell? ⟨w.heap.size, 1, none⟩ = some (.int .i64 C) := (X0.cell 1).trans rfl; have X0k2 : w2.cell? ⟨w.heap.size, 2, none⟩ = some (.slice A l.length cap) := (X0.cell 2).trans rfl
  have X2k0 : w2.cell? ⟨w.heap.size + 1 + 1, 0, none⟩ = some (.int .i64 0) := (X2.cell 0).trans rfl; have X2k1 : w2.cell? ⟨w.heap.size + 1 + 1, 1, none⟩ = some (.int .i64 0) := (X2.cell 1).trans rfl; have X2k2 : w2.cell? ⟨w.heap.size + 1 + 1, 2, none⟩ = some (.slice none 0 0) := (X2.cell 2).trans rfl
  have X2f0 := X2.frozen 0; have X2f1 := X2.frozen 1; have X2f2 := X2.frozen 2
  go_wp2
  refine bodyPost_ret (v := .tuple #[.agg #[.int .i64 0, .int .i64 0, .slice none 0 0], .bool false]) ?_ rfl ?_; (focus (simp [results, Try.results21, go_sem, *]; done))
  exact PostB.none_ (by (repeat' (first | (with_reducible exact Below.refl _ _) | (with_reducible assumption) | (with_reducible refine Below.alloc ?_ ?_ _) | (with_reducible refine Below.setCell ?_ ?_ _) | (with_reducible refine Below.drew ?_) | (with_reducible refine below_drewN ?_ _) | (with_reducible refine Below.trans ?_ (Below.mono (by assumption) ?_)) | (with_reducible exact Nat.le_refl _) | (simp; done) | omega | (simp at *; omega))))
theorem impl_BesideBoards_yes (R C : Int) (A : Option Addr) (cap : Nat) (l : List (Int × Int)) (R' C' : Int) (A' : Option Addr) (cap' : Nat) (m : List (Int × Int)) (w : World) (hg : goodB R C l = true) (hg' : goodB R C' m = true) (hc : C + C' ≤ 9) (hn : l.length ≤ 1048576) (hr : Rd w w.heap.size A (flat l)) (hm : m.length ≤ 1048576) (hr' : Rd w w.heap.size A' (flat m)) (hcap : l.length ≤ cap) (hcap' : m.length ≤ cap') : Calls Try.prog 21 #[.agg #[.int .i64 R, .int .i64 C, .slice A l.length cap], .agg #[.int .i64 R, .int .i64 C', .slice A' m.length cap']] w (PostB w R (C + C') (rowsB C l C' m R.toNat) true) := by
  obtain ⟨i0, hi, hz0, hz1, hz2⟩ := info_parts cellInfo
  obtain ⟨s1, s2, s3, s4⟩ := sizeB_iff.1 (goodB_iff.1 hg).1
  obtain ⟨_, _, t3, t4⟩ := sizeB_iff.1 (goodB_iff.1 hg').1
  obtain ⟨_, hl90, hlp⟩ := goodB_parts hg
  obtain ⟨_, hm90, hmp⟩ := goodB_parts hg'
  obtain ⟨b, o, rfl, hbl, hcc⟩ := hr (by rw [flat_length]; omega)
  obtain ⟨b', o', rfl, hbl', hcc'⟩ := hr' (by rw [flat_length]; omega)
  have hra : Rd w w.heap.size (some ⟨b, o, none⟩) (flat l) := fun _ => ⟨b, o, rfl, hbl, hcc⟩
  have hrb : Rd w w.heap.size (some ⟨b', o', none⟩) (flat m) := fun _ => ⟨b', o', rfl, hbl', hcc'⟩
  clear hr hr' hcc hcc'
  have hmk := run_make0 (l.length + m.length) (by omega)
  rw [Int.natCast_add] at hmk
  have hnc : ¬ 9 < C + C' := by omega
  have HG := Lib.hid hg; have HG' := Lib.hid hg'; clear hg hg'
  go_enter Try.func21, Try.ntmps21
  obtain ⟨v0, hv0, X0, X1, X2, B0, hz0⟩ := three_boxes w [.int .i64 R, .int .i64 C, .slice (some ⟨b, o, none⟩) l.length cap] 25 [.int .i64 R, .int .i64 C', .slice (some ⟨b', o', none⟩) m.length cap'] 25 [.int .i64 0, .int .i64 0, .slice none 0 0] 25; have HV := Lib.hid hv0; have hx : w.heap.size + 1 + 1 < v0.heap.size := (by omega); have hz : w.heap.size + 1 < v0.heap.size := (by omega); have hy : w.heap.size < v0.heap.size := (by omega); have hb0 := B0.size; clear hv0 hz0; go_wp2_with fail; rewrite [show ((w.alloc (.cells ([.int .i64 R, .int .i64 C, .slice (some ⟨b, o, none⟩) l.length cap] : List Value).toArray 25)).alloc (.cells ([.int .i64 R, .int .i64 C', .slice (some ⟨b', o', none⟩) m.length cap'] : List Value).toArray 25)).alloc (.cells ([.int .i64 0, .int .i64 0, .slice none 0 0] : List Value).toArray 25) = v0 from HV.out]; clear HV
  refine (impl_IsBoard _ _ _ _ l _ hn ((hra.below B0).mono B0.size)).mono ?_; rintro e w1 ⟨rfl, b1⟩; rewrite [HG.out]; replace X0 := X0.below b1 X0.lt; replace X1 := X1.below b1 X1.lt; replace X2 := X2.below b1 X2.lt; replace B0 := B0.trans (b1.mono B0.size); have hy := X0.lt; have hz := X1.lt; have hx := X2.lt; have hb0 := B0.size; clear b1; have X1k0 : w1.cell? ⟨w.heap.size + 1, 0, none⟩ = some (.int .i64 R) := (X1.cell 0).trans rfl; have X1k1 : w1.cell? ⟨w.heap.size + 1, 1, none⟩ = some (.int .i64 C') := (X1.cell 1).trans rfl; have X1k2 : w1.cell? ⟨w.heap.size + 1, 2, none⟩ = some (.slice (some ⟨b', o', none⟩) m.length cap') := (X1.cell 2).trans rfl; go_wp2_with fail; refine (impl_IsBoard _ _ _ _ m _ hm ((hrb.below B0).mono B0.size)).mono ?_; rintro e w2 ⟨rfl, b2⟩; rewrite [HG'.out]; clear X1k0 X1k1 X1k2; replace X0 := X0.below b2 X0.lt; replace X1 := X1.below b2 X1.lt; replace X2 := X2.below b2 X2.lt; replace B0 := B0.trans (b2.mono B0.size); have hy := X0.lt; have hz := X1.lt; have hx := X2.lt; have hb0 := B0.size; clear b2; have X1k0 : w2.cell? ⟨w.heap.size + 1, 0, none⟩ = some (.int .i64 R) := (X1.cell 0).trans rfl; have X1k1 : w2.cell? ⟨w.heap.size + 1, 1, none⟩ = some (.int .i64 C') := (X1.cell 1).trans rfl; have X1k2 : w2.cell? ⟨w.heap.size + 1, 2, none⟩ = some (.slice (some ⟨b', o', none⟩) m.length cap') := (X1.cell 2).trans rfl; have X0k0 : w2.cell? ⟨w.heap.size, 0, none⟩ = some (.int .i64 R) := (X0.cell 0).trans rfl; have X0k1 : w2.cell? ⟨w.heap.size, 1, none⟩ = some (.int .i64 C) := (X0.cell 1).trans rfl; have X0k2 : w2.cell? ⟨w.heap.size, 2, none⟩ = some (.slice (some ⟨b, o, none⟩) l.length cap) := (X0.cell 2).trans rfl
  go_wp2
  clear X0k0 X0k1 X0k2 X1k0 X1k1 X1k2
  go_loopw [6, 42] (fun v i wr => ∃ k : Nat, (k : Int) ≤ R ∧ i = .int .i64 k ∧ wr.ownsRow w.heap.size 27 2 v (rowsB C l C' m k).length (flat (rowsB C l C' m k)) ∧ Whole wr w.heap.size 25 [.int .i64 R, .int .i64 C, .slice (some ⟨b, o, none⟩) l.length cap] ∧ Whole wr (w.heap.size + 1) 25 [.int .i64 R, .int .i64 C', .slice (some ⟨b', o', none⟩) m.length cap'] ∧ Whole wr (w.heap.size + 1 + 1) 25 [.int .i64 0, .int .i64 0, .slice none 0 0] ∧ Below w.heap.size w wr) (fun _ i _ => R.toNat - (intOf i).toNat)
  case atStart =>
    have hmr := made_row w2 (l.length + m.length) (by unfold maxLen; omega)
    refine ⟨0, by omega, rfl, ?_, X0.alloc _, X1.alloc _, X2.alloc _, by (repeat' (first | (with_reducible exact Below.refl _ _) | (with_reducible assumption) | (with_reducible refine Below.alloc ?_ ?_ _) | (with_reducible refine Below.setCell ?_ ?_ _) | (with_reducible refine Below.drew ?_) | (with_reducible refine below_drewN ?_ _) | (with_reducible refine Below.trans ?_ (Below.mono (by assumption) ?_)) | (with_reducible exact Nat.le_refl _) | (simp; done) | omega | (simp at *; omega)))⟩
    exact ⟨hmr.1, hmr.2.imp id (fun ⟨g, c, cur, e, h1, h2⟩ => ⟨g, c, cur, e, Nat.le_trans hb0 h1, h2⟩)⟩
  case round =>
    obtain ⟨k, hk, rfl, hown, h0, h1, h2, hb⟩ := hrel
    by_cases hlt : (k : Int) < R
    · have HS := Lib.hid (rowsB_succ C l C' m k)
      have hsm := rowsB_small HG.out HG'.out hk
      have hl1 : (rowL C l k).length ≤ 9 := by rw [rowL_len HG.out hlt]; exact (row_facts HG.out hlt).2.2.2.2.1
      have hm1 : (rowL C' m k).length ≤ 9 := by rw [rowL_len HG'.out hlt]; exact (row_facts HG'.out hlt).2.2.2.2.1
      have hlpos : 0 < (rowL C l k).length := by rw [rowL_len HG.out hlt]; exact (row_facts HG.out hlt).2.2.2.2.2.1
      have hmpos : 0 < (rowL C' m k).length := by rw [rowL_len HG'.out hlt]; exact (row_facts HG'.out hlt).2.2.2.2.2.1
      have hrla := Lib.hid (rowL_rd HG.out hlt hra)
      have hrlb := Lib.hid (rowL_rd HG'.out hlt hrb)
      have hs := hb.size
      have h0k0 : wr.cell? ⟨w.heap.size, 0, none⟩ = some (.int .i64 R) := (h0.cell 0).trans rfl; have h0k1 : wr.cell? ⟨w.heap.size, 1, none⟩ = some (.int .i64 C) := (h0.cell 1).trans rfl; have h0k2 : wr.cell? ⟨w.heap.size, 2, none⟩ = some (.slice (some ⟨b, o, none⟩) l.length cap) := (h0.cell 2).trans rfl
      go_wp2_with fail
      refine (impl_rowCells _ _ _ _ _ l k _ HG.out hlt hcap).mono ?_; rintro e w3 ⟨rfl, b3⟩
      clear h0k0 h0k1 h0k2
      replace h0 := h0.below b3 h0.lt
      replace h1 := h1.below b3 h1.lt
      replace h2 := h2.below b3 h2.lt
      have hown3 := row_keep hown b3
      have B3 := hb.trans (b3.mono hs)
      have hs3 := B3.size
      clear b3 hown hb hs
      go_wp2_with (first | (at_builtin; refine wpList_append_own _ rfl (.tmp 45) (.tmp 48) 23 rfl w.heap.size 27 i0 _ 2 16 Try.underlying23 hi hz0 hz1 hz2 rfl (by omega) _ (rowsB C l C' m k).length (flat (rowsB C l C' m k)) rfl hown3 ⟨b, o + k * C.toNat * 2, none⟩ (rowL C l k).length (cap - k * C.toNat) (flat (rowL C l k)) rfl (by rw [flat_length]; omega) (rd_news hrla.out B3) (flat_one _) (by unfold maxLen; omega) (by omega) hs3 ?_) | fail)
      intro v4 w4 hown4 hg4 _
      have B4 : Below w.heap.size w w4 := row_below hown3 B3 hs3 hg4
      replace h0 := h0.grown hg4 (row_apart hown3 h0 (by decide))
      replace h1 := h1.grown hg4 (row_apart hown3 h1 (by decide))
      replace h2 := h2.grown hg4 (row_apart hown3 h2 (by decide))
      have hs4 := B4.size
      rw [← flat_append] at hown4
      have hz1' := h1.lt
      clear hg4 hown3 B3
      have h1k0 : w4.cell? ⟨w.heap.size + 1, 0, none⟩ = some (.int .i64 R) := (h1.cell 0).trans rfl; have h1k1 : w4.cell? ⟨w.heap.size + 1, 1, none⟩ = some (.int .i64 C') := (h1.cell 1).trans rfl; have h1k2 : w4.cell? ⟨w.heap.size + 1, 2, none⟩ = some (.slice (some ⟨b', o', none⟩) m.length cap') := (h1.cell 2).trans rfl
      obtain ⟨A4, c4, rfl⟩ := slice_of_row hown4
      go_wp2_with fail
      refine (impl_rowCells _ _ _ _ _ m k _ HG'.out hlt hcap').mono ?_; rintro e w5 ⟨rfl, b5⟩
      clear h1k0 h1k1 h1k2
      replace h0 := h0.below b5 h0.lt
      replace h1 := h1.below b5 h1.lt
      replace h2 := h2.below b5 h2.lt
      have hown5 := row_keep hown4 b5
      have B5 := B4.trans (b5.mono hs4)
      have hs5 := B5.size
      clear b5 hown4 B4
      go_wp2_with (first | (at_builtin; refine wpList_append_own _ rfl (.tmp 50) (.tmp 53) 23 rfl w.heap.size 27 i0 _ 2 16 Try.underlying23 hi hz0 hz1 hz2 rfl (by omega) _ ((rowsB C l C' m k).length + (rowL C l k).length) (flat (rowsB C l C' m k ++ rowL C l k)) rfl hown5 ⟨b', o' + k * C'.toNat * 2, none⟩ (rowL C' m k).length (cap' - k * C'.toNat) (flat (rowL C' m k)) rfl (by rw [flat_length]; omega) (rd_news hrlb.out B5) (flat_one _) (by unfold maxLen; omega) (by omega) hs5 ?_) | fail)
      intro v6 w6 hown6 hg6 _
      have B6 : Below w.heap.size w w6 := row_below hown5 B5 hs5 hg6
      replace h0 := h0.grown hg6 (row_apart hown5 h0 (by decide))
      replace h1 := h1.grown hg6 (row_apart hown5 h1 (by decide))
      replace h2 := h2.grown hg6 (row_apart hown5 h2 (by decide))
      rw [← flat_append, ← List.length_append, ← List.length_append, ← HS.out] at hown6
      clear hg6 hown5 B5
      go_wp2
      go_roundw
      case rel => exact ⟨k + 1, by omega, by go_num, hown6, h0, h1, h2, B6⟩
      case measure => simp [intOf]; omega
    · obtain rfl : R = (k : Int) := by omega
      obtain ⟨A5, c5, rfl⟩ := slice_of_row hown
      have ho := own_of_row hown
      have hap : 0 < (flat (rowsB C l C' m k)).length → ∀ a, A5 = some a → w.heap.size + 1 + 1 ≠ a.block := fun hx a ha => (own_apart ho.1 h2 (by decide) hx ha).symm
      have hz0' := h0.lt
      have hz1' := h1.lt
      have h0k0 : wr.cell? ⟨w.heap.size, 0, none⟩ = some (.int .i64 (k : Int)) := (h0.cell 0).trans rfl; have h0k1 : wr.cell? ⟨w.heap.size, 1, none⟩ = some (.int .i64 C) := (h0.cell 1).trans rfl; have h0k2 : wr.cell? ⟨w.heap.size, 2, none⟩ = some (.slice (some ⟨b, o, none⟩) l.length cap) := (h0.cell 2).trans rfl
      have h1k0 : wr.cell? ⟨w.heap.size + 1, 0, none⟩ = some (.int .i64 (k : Int)) := (h1.cell 0).trans rfl; have h1k1 : wr.cell? ⟨w.heap.size + 1, 1, none⟩ = some (.int .i64 C') := (h1.cell 1).trans rfl; have h1k2 : wr.cell? ⟨w.heap.size + 1, 2, none⟩ = some (.slice (some ⟨b', o', none⟩) m.length cap') := (h1.cell 2).trans rfl
      have h2k0 : wr.cell? ⟨w.heap.size + 1 + 1, 0, none⟩ = some (.int .i64 0) := (h2.cell 0).trans rfl; have h2k1 : wr.cell? ⟨w.heap.size + 1 + 1, 1, none⟩ = some (.int .i64 0) := (h2.cell 1).trans rfl; have h2k2 : wr.cell? ⟨w.heap.size + 1 + 1, 2, none⟩ = some (.slice none 0 0) := (h2.cell 2).trans rfl
      have h2f0 := h2.frozen 0; have h2f1 := h2.frozen 1; have h2f2 := h2.frozen 2
      clear hown
      go_wp2
      refine bodyPost_ret (v := .tuple #[.agg #[.int .i64 (k : Int), .int .i64 (C + C'), .slice A5 (rowsB C l C' m k).length c5], .bool true]) ?_ rfl ?_; (focus (simp [results, Try.results21, go_sem, *]; done))
      exact PostB.mk (((ho.1.set_far2 _ _ hap).set_far2 _ _ hap).set_far2 _ _ hap) ho.2 (by (repeat' (first | (with_reducible exact Below.refl _ _) | (with_reducible assumption) | (with_reducible refine Below.alloc ?_ ?_ _) | (with_reducible refine Below.setCell ?_ ?_ _) | (with_reducible refine Below.drew ?_) | (with_reducible refine below_drewN ?_ _) | (with_reducible refine Below.trans ?_ (Below.mono (by assumption) ?_)) | (with_reducible exact Nat.le_refl _) | (simp; done) | omega | (simp at *; omega))))
end Go.Proofs.Ytpfjbecpfdgnpaa
