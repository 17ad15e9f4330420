/- Contracts of the program and of the model, walked, part 6 of 8. No condition but what each says. -/
import Derived.Test.YtlambflmabecfaaM5
import Derived.Test.YtlambflmabecfaaM4
import Derived.Test.YtlambflmabecfaaM2
namespace Go.Proofs.Ytlambflmabecfaa
open Go.ChangeShapes Go.WideShapes Go.ChangeAt Go.RowKit Go.Joins Go.Deep
set_option linter.unusedSimpArgs false
set_option linter.unusedVariables false
set_option maxRecDepth 100000
set_option maxHeartbeats 1000000
def endV (f : Int × Int × Int) : Value := .iface (if f.1 = 1 then 118 else 119) (.agg #[.int .i64 f.1, .int .i64 f.2.1, .int .i64 f.2.2])
theorem endV_in {a b c : Int} (h : a = 1) : endV (a, b, c) = .iface 118 (.agg #[.int .i64 a, .int .i64 b, .int .i64 c]) := by
  unfold endV
  rw [if_pos h]
theorem endV_out {a b c : Int} (h : a ≠ 1) : endV (a, b, c) = .iface 119 (.agg #[.int .i64 a, .int .i64 b, .int .i64 c]) := by
  unfold endV
  rw [if_neg h]
def flatR (l : List (Int × Int × Int × Int)) : List Value := l.flatMap fun x => [.int .i64 x.1, endV x.2]
theorem flatR_len (l : List (Int × Int × Int × Int)) : (flatR l).length = 2 * l.length := by
  induction l with
  | nil => rfl
  | cons c l ih =>
    have h : (flatR (c :: l)).length = (flatR l).length + 1 + 1 := rfl
    rw [h, ih, List.length_cons]
    omega
theorem flatR_app (l m : List (Int × Int × Int × Int)) : flatR (l ++ m) = flatR l ++ flatR m := by simp [flatR]
theorem flatR_at (l : List (Int × Int × Int × Int)) (k : Nat) (h : k < l.length) : (flatR l)[k * 2]? = some (.int .i64 l[k].1) ∧ (flatR l)[k * 2 + 1]? = some (endV l[k].2) := by
  induction l generalizing k with
  | nil => simp at h
  | cons c l ih =>
    cases k with
    | zero => exact ⟨rfl, rfl⟩
    | succ k =>
      have := ih k (by simpa using h)
      have e1 : (flatR (c :: l))[(k + 1) * 2]? = (flatR l)[k * 2]? := by rw [show (k + 1) * 2 = k * 2 + 1 + 1 by omega]; rfl
      have e2 : (flatR (c :: l))[(k + 1) * 2 + 1]? = (flatR l)[k * 2 + 1]? := by rw [show (k + 1) * 2 + 1 = k * 2 + 1 + 1 + 1 by omega]; rfl
      rw [e1, e2]
      exact this
/-- The releases of a state. -/
def relS (s : MSt) : List (Int × Int × Int × Int) := s.cs.zip s.fs
theorem relS_len {s : MSt} (h : s.cs.length = s.fs.length) : (relS s).length = s.fs.length := by
  unfold relS
  rw [List.length_zip, h, Nat.min_self]
theorem relS_step (R C p q : Int) {s : MSt} (h : s.cs.length = s.fs.length) : relS (stepM R C p q s) = relS s ++ [(s.nx, (marO R C s.l (colM p q s.nx)).e, (marO R C s.l (colM p q s.nx)).row, (marO R C s.l (colM p q s.nx)).col)] := by
  unfold relS stepM
  rw [List.zip_append h]
  rfl
theorem relS_cs {s : MSt} (h : s.cs.length = s.fs.length) : (relS s).map (·.1) = s.cs := List.map_fst_zip (by omega)
theorem relS_fs {s : MSt} (h : s.cs.length = s.fs.length) : (relS s).map (·.2) = s.fs := List.map_snd_zip (by omega)
/-- Only the blocks g and k have turned, and what is new. -/
structure Gr2 (w w' : World) (g k : Nat) : Prop where
  os : w'.os = w.os
  tape : w'.tape = w.tape
  output : w'.output = w.output
  size : w.heap.size ≤ w'.heap.size
  block : ∀ i, i < w.heap.size → i ≠ g → i ≠ k → w'.heap[i]? = w.heap[i]?
theorem Gr2.refl (w : World) (g k : Nat) : Gr2 w w g k := ⟨rfl, rfl, rfl, Nat.le_refl _, fun _ _ _ _ => rfl⟩
theorem Gr2.trans {w v v' : World} {g k : Nat} (h : Gr2 w v g k) (h' : Gr2 v v' g k) : Gr2 w v' g k :=
  ⟨h'.os.trans h.os, h'.tape.trans h.tape, h'.output.trans h.output, Nat.le_trans h.size h'.size, fun i hi h1 h2 => (h'.block i (Nat.lt_of_lt_of_le hi h.size) h1 h2).trans (h.block i hi h1 h2)⟩
theorem Gr2.grown {w v v' : World} {g k : Nat} (h : Gr2 w v g k) (h' : v.grownBy v' (some k)) : Gr2 w v' g k :=
  h.trans ⟨h'.os, h'.tape, h'.output, h'.size, fun i hi _ h2 => h'.block i hi (fun e => h2 (by injection e))⟩
theorem Gr2.below {w v v' : World} {g k : Nat} (h : Gr2 w v g k) (b : Below v.heap.size v v') : Gr2 w v' g k :=
  h.grown (gb_below (gb_refl v k) b)
theorem Gr2.set {w v : World} {g k : Nat} (h : Gr2 w v g k) (j : Nat) (u : Value) : Gr2 w (v.setCell ⟨g, j, none⟩ u) g k :=
  h.trans ⟨rfl, rfl, rfl, by rw [World.size_setCell]; exact Nat.le_refl _, fun i hi h1 _ => Below.heap_setCell _ _ _ _ h1⟩
theorem Gr2.whole {w w' : World} {g k i : Nat} {t : TypeId} {xs : List Value} (h : Gr2 w w' g k) (X : Whole w i t xs) (h1 : i ≠ g) (h2 : i ≠ k) : Whole w' i t xs := (h.block i X.lt h1 h2).trans X
theorem Gr2.toBelow {w w' : World} {g k B : Nat} (h : Gr2 w w' g k) (hB : B ≤ w.heap.size) (h1 : B ≤ g) (h2 : B ≤ k) : Below B w w' := by
  exact ⟨h.os, h.tape, h.output, h.size, fun i hi => h.block i (by omega) (by omega) (by omega)⟩
theorem Gr2.row {w w' : World} {g k base size n : Nat} {e : TypeId} {v : Value} {xs : List Value} (h : Gr2 w w' g k) (hr : w.ownsRow base e size v n xs) (h1 : v.ownBlock ≠ some g) (h2 : v.ownBlock ≠ some k) : w'.ownsRow base e size v n xs := by
  refine ⟨hr.1, ?_⟩
  rcases hr.2 with h3 | ⟨j, cap, cur, rfl, h4, hh, h5⟩
  · exact .inl h3
  · refine .inr ⟨j, cap, cur, rfl, h4, ?_, h5⟩
    refine (h.block j ?_ (fun e' => h1 (by rw [e']; rfl)) (fun e' => h2 (by rw [e']; rfl))).trans hh
    exact Whole.lt hh
/-- Colours and ends of a run. -/
structure MOk2 (c : Nat) (s : MSt) : Prop where
  fs : ∀ f ∈ s.fs, okE c f
  cs : ∀ x ∈ s.cs, x = 0 ∨ x = 1
theorem MOk2.start (c : Nat) (l : List (Int × Int)) (bl rd nx : Int) : MOk2 c ⟨l, bl, rd, nx, [], []⟩ := ⟨fun _ h => absurd h (by simp), fun _ h => absurd h (by simp)⟩
theorem MOk2.step {r c : Nat} {p q : Int} {s : MSt} (h : MOk2 c s) (hp : 0 ≤ p ∧ p < c) (hq : 0 ≤ q ∧ q < c) (hc : canM s.bl s.rd s.nx = true) : MOk2 c (stepM (r : Int) (c : Int) p q s) := by
  obtain ⟨col, hcol, hlt⟩ : ∃ k : Nat, colM p q s.nx = (k : Int) ∧ k < c := by
    rcases colM_or p q s.nx with e | e
    · exact ⟨p.toNat, by rw [e]; omega, by omega⟩
    · exact ⟨q.toNat, by rw [e]; omega, by omega⟩
  rw [canM_iff] at hc
  refine ⟨fun f hf => ?_, fun x hx => ?_⟩
  · rcases List.mem_append.1 hf with h1 | h1
    · exact h.fs f h1
    · rw [List.mem_singleton.1 h1, hcol]
      exact flG_okE _ r c r 0 s.l col 0 [] hlt
  · rcases List.mem_append.1 hx with h1 | h1
    · exact h.cs x h1
    · rw [List.mem_singleton.1 h1]
      omega
theorem MOk2.run {r c : Nat} {p q : Int} (hp : 0 ≤ p ∧ p < c) (hq : 0 ≤ q ∧ q < c) : ∀ (n : Nat) (s : MSt), MOk2 c s → MOk2 c (runM (r : Int) (c : Int) p q n s)
  | 0, _, h => h
  | n + 1, s, h => by
    rcases Bool.eq_false_or_eq_true (canM s.bl s.rd s.nx) with hc | hc
    · rw [runM_go hc]
      exact MOk2.run hp hq n _ (h.step hp hq hc)
    · rw [runM_stop hc]
      exact h
theorem runM_more (R C p q : Int) : ∀ (n : Nat) (s : MSt), canM (runM R C p q n s).bl (runM R C p q n s).rd (runM R C p q n s).nx = false ∨ (runM R C p q n s).fs.length = s.fs.length + n
  | 0, s => .inr rfl
  | n + 1, s => by
    rcases Bool.eq_false_or_eq_true (canM s.bl s.rd s.nx) with hc | hc
    · rw [runM_go hc]
      rcases runM_more R C p q n (stepM R C p q s) with h | h
      · exact .inl h
      · refine .inr (h.trans ?_)
        show (s.fs ++ [_]).length + n = _
        rw [List.length_append, List.length_singleton]
        omega
    · rw [runM_stop hc]
      exact .inl hc
end Go.Proofs.Ytlambflmabecfaa
namespace Go.Proofs.Ytlambflmabecfaa
open Go.ChangeShapes Go.WideShapes Go.ChangeAt Go.RowKit Go.Joins Go.Deep
set_option linter.unusedSimpArgs false
set_option linter.unusedVariables false
set_option maxRecDepth 100000
set_option maxHeartbeats 2000000
theorem okM_ints {R C : Int} {l : List (Int × Int)} {p q bl rd nx : Int} (h : okM R C l p q bl rd nx = true) : ∃ r c : Nat, R = (r : Int) ∧ C = (c : Int) ∧ Geo r c l.length ∧ goodB (r : Int) (c : Int) l = true ∧ (0 ≤ p ∧ p < (c : Int)) ∧ (0 ≤ q ∧ q < (c : Int)) := by
  obtain ⟨h1, h2, -⟩ := okM_parts h
  obtain ⟨g1, g2⟩ := okF_parts h1
  obtain ⟨-, g3⟩ := okF_parts h2
  obtain ⟨r, c, rfl, rfl, hG⟩ := geo_of g1
  exact ⟨r, c, rfl, rfl, hG, g1, g2, g3⟩
theorem spec_maGood (R C : Int) (A : Option Addr) (cap : Nat) (l : List (Int × Int)) (p q bl rd nx : Int) (w : World) (hn : l.length ≤ 1048576) (hr : Rd w w.heap.size A (flat l)) :
    Calls Try.prog 41 #[.agg #[.int .i64 R, .int .i64 C, .slice A l.length cap, .int .i64 p, .int .i64 q, .int .i64 bl, .int .i64 rd, .int .i64 nx]] w fun e w' => e = .returned (.bool (okM R C l p q bl rd nx)) ∧ Below w.heap.size w w' := by
  have HE := Lib.hid (show okM R C l p q bl rd nx = (okF R C l p && okF R C l q && (decide (0 ≤ bl) && decide (bl ≤ 30)) && (decide (0 ≤ rd) && decide (rd ≤ 30)) && (decide (0 ≤ nx) && decide (nx ≤ 2))) from rfl)
  rewrite [HE.out]
  clear HE
  go_enter Try.func41, Try.ntmps41
  obtain ⟨v0, hv0⟩ : ∃ v, v = w.alloc (.cells #[.int .i64 R, .int .i64 C, .slice A l.length cap, .int .i64 p, .int .i64 q, .int .i64 bl, .int .i64 rd, .int .i64 nx] 41) := ⟨_, rfl⟩; have X0 : Whole v0 w.heap.size 41 [.int .i64 R, .int .i64 C, .slice A l.length cap, .int .i64 p, .int .i64 q, .int .i64 bl, .int .i64 rd, .int .i64 nx] := (by rw [hv0]; exact heap_alloc_new w _); have hb : Below w.heap.size w v0 := (by rw [hv0]; exact (Below.refl _ _).alloc (Nat.le_refl _) _); have HV := Lib.hid hv0.symm; clear hv0; go_upto_region 1 with (fail); rewrite [HV.out]; clear HV; have hy := X0.lt
  have X0k0 : v0.cell? ⟨w.heap.size, 0, none⟩ = some (.int .i64 R) := (X0.cell 0).trans rfl; have X0k1 : v0.cell? ⟨w.heap.size, 1, none⟩ = some (.int .i64 C) := (X0.cell 1).trans rfl; have X0k2 : v0.cell? ⟨w.heap.size, 2, none⟩ = some (.slice A l.length cap) := (X0.cell 2).trans rfl; have X0k3 : v0.cell? ⟨w.heap.size, 3, none⟩ = some (.int .i64 p) := (X0.cell 3).trans rfl; have X0k4 : v0.cell? ⟨w.heap.size, 4, none⟩ = some (.int .i64 q) := (X0.cell 4).trans rfl; have X0k5 : v0.cell? ⟨w.heap.size, 5, none⟩ = some (.int .i64 bl) := (X0.cell 5).trans rfl; have X0k6 : v0.cell? ⟨w.heap.size, 6, none⟩ = some (.int .i64 rd) := (X0.cell 6).trans rfl; have X0k7 : v0.cell? ⟨w.heap.size, 7, none⟩ = some (.int .i64 nx) := (X0.cell 7).trans rfl
  go_wp2_with fail
  refine (spec_flHas _ _ _ _ l _ _ hn ((hr.below hb).mono hb.size)).mono ?_; rintro e w1 ⟨rfl, b1⟩
  clear X0k0 X0k1 X0k2 X0k3 X0k4 X0k5 X0k6 X0k7
  (replace X0 := X0.below b1 X0.lt; replace hb := hb.trans (b1.mono hb.size); have hy := X0.lt; clear b1)
  rcases Bool.eq_false_or_eq_true (okF R C l p) with h1 | h1
  · rewrite [h1]
    have X0k0 : w1.cell? ⟨w.heap.size, 0, none⟩ = some (.int .i64 R) := (X0.cell 0).trans rfl; have X0k1 : w1.cell? ⟨w.heap.size, 1, none⟩ = some (.int .i64 C) := (X0.cell 1).trans rfl; have X0k2 : w1.cell? ⟨w.heap.size, 2, none⟩ = some (.slice A l.length cap) := (X0.cell 2).trans rfl; have X0k3 : w1.cell? ⟨w.heap.size, 3, none⟩ = some (.int .i64 p) := (X0.cell 3).trans rfl; have X0k4 : w1.cell? ⟨w.heap.size, 4, none⟩ = some (.int .i64 q) := (X0.cell 4).trans rfl; have X0k5 : w1.cell? ⟨w.heap.size, 5, none⟩ = some (.int .i64 bl) := (X0.cell 5).trans rfl; have X0k6 : w1.cell? ⟨w.heap.size, 6, none⟩ = some (.int .i64 rd) := (X0.cell 6).trans rfl; have X0k7 : w1.cell? ⟨w.heap.size, 7, none⟩ = some (.int .i64 nx) := (X0.cell 7).trans rfl
    go_wp2_with fail
    refine (spec_flHas _ _ _ _ l _ _ hn ((hr.below hb).mono hb.size)).mono ?_; rintro e w2 ⟨rfl, b2⟩
    clear X0k0 X0k1 X0k2 X0k3 X0k4 X0k5 X0k6 X0k7
    (replace X0 := X0.below b2 X0.lt; replace hb := hb.trans (b2.mono hb.size); have hy := X0.lt; clear b2)
    rcases Bool.eq_false_or_eq_true (okF R C l q) with h2 | h2
    · rewrite [h2]
      have X0k0 : w2.cell? ⟨w.heap.size, 0, none⟩ = some (.int .i64 R) := (X0.cell 0).trans rfl; have X0k1 : w2.cell? ⟨w.heap.size, 1, none⟩ = some (.int .i64 C) := (X0.cell 1).trans rfl; have X0k2 : w2.cell? ⟨w.heap.size, 2, none⟩ = some (.slice A l.length cap) := (X0.cell 2).trans rfl; have X0k3 : w2.cell? ⟨w.heap.size, 3, none⟩ = some (.int .i64 p) := (X0.cell 3).trans rfl; have X0k4 : w2.cell? ⟨w.heap.size, 4, none⟩ = some (.int .i64 q) := (X0.cell 4).trans rfl; have X0k5 : w2.cell? ⟨w.heap.size, 5, none⟩ = some (.int .i64 bl) := (X0.cell 5).trans rfl; have X0k6 : w2.cell? ⟨w.heap.size, 6, none⟩ = some (.int .i64 rd) := (X0.cell 6).trans rfl; have X0k7 : w2.cell? ⟨w.heap.size, 7, none⟩ = some (.int .i64 nx) := (X0.cell 7).trans rfl
      go_wp2_with fail
      refine (spec_l1In _ _ _ _).mono ?_; rintro e w3 ⟨rfl, rfl⟩
      rcases Bool.eq_false_or_eq_true (decide (0 ≤ bl) && decide (bl ≤ 30)) with h3 | h3
      · rewrite [h3]
        go_wp2_with fail
        refine (spec_l1In _ _ _ _).mono ?_; rintro e w4 ⟨rfl, rfl⟩
        rcases Bool.eq_false_or_eq_true (decide (0 ≤ rd) && decide (rd ≤ 30)) with h4 | h4
        · rewrite [h4]
          go_wp2_with fail
          refine (spec_l1In _ _ _ _).mono ?_; rintro e w5 ⟨rfl, rfl⟩
          go_wp2
          go_returns
          exact ⟨by rw [h1, h2, h3, h4]; rfl, hb⟩
        · rewrite [h4]
          go_wp2
          go_returns
          exact ⟨by rw [h1, h2, h3, h4]; rfl, hb⟩
      · rewrite [h3]
        go_wp2
        go_returns
        exact ⟨by rw [h1, h2, h3]; rfl, hb⟩
    · rewrite [h2]
      go_wp2
      go_returns
      exact ⟨by rw [h1, h2]; rfl, hb⟩
  · rewrite [h1]
    go_wp2
    go_returns
    exact ⟨by rw [h1]; rfl, hb⟩
theorem canM_split (bl rd nx : Int) : canM bl rd nx = (decide (nx = 0) && decide (0 < bl) || decide (nx = 1) && decide (0 < rd)) := by
  unfold canM
  rw [Bool.eq_iff_iff]
  simp
theorem spec_maCan (R C : Int) (A : Option Addr) (cap : Nat) (l : List (Int × Int)) (p q bl rd nx : Int) (w : World) :
    Calls Try.prog 64 #[.agg #[.int .i64 R, .int .i64 C, .slice A l.length cap, .int .i64 p, .int .i64 q, .int .i64 bl, .int .i64 rd, .int .i64 nx]] w fun e w' => e = .returned (.bool (canM bl rd nx)) ∧ Below w.heap.size w w' := by
  by_cases h0 : nx = 0
  · subst h0
    by_cases h1 : 0 < bl
    · have HE := Lib.hid (show canM bl rd 0 = true by rw [canM_iff]; exact .inl ⟨rfl, h1⟩)
      rewrite [HE.out]
      go_enter Try.func64, Try.ntmps64
      go_wp2
      go_returns
      exact ⟨rfl, by (repeat' (first | (with_reducible exact Below.refl _ _) | (with_reducible assumption) | (with_reducible refine Below.alloc ?_ ?_ _) | (with_reducible refine Below.setCell ?_ ?_ _) | (with_reducible refine Below.drew ?_) | (with_reducible refine below_drewN ?_ _) | (with_reducible refine Below.trans ?_ (Below.mono (by assumption) ?_)) | (with_reducible exact Nat.le_refl _) | (simp; done) | omega | (simp at *; omega)))⟩
    · have HE := Lib.hid (show canM bl rd 0 = false by rw [Bool.eq_false_iff]; intro h; rw [canM_iff] at h; omega)
      rewrite [HE.out]
      go_enter Try.func64, Try.ntmps64
      go_wp2
      go_returns
      exact ⟨rfl, by (repeat' (first | (with_reducible exact Below.refl _ _) | (with_reducible assumption) | (with_reducible refine Below.alloc ?_ ?_ _) | (with_reducible refine Below.setCell ?_ ?_ _) | (with_reducible refine Below.drew ?_) | (with_reducible refine below_drewN ?_ _) | (with_reducible refine Below.trans ?_ (Below.mono (by assumption) ?_)) | (with_reducible exact Nat.le_refl _) | (simp; done) | omega | (simp at *; omega)))⟩
  · have hb0 : (nx == 0) = false := by simpa using h0
    by_cases h2 : nx = 1
    · subst h2
      by_cases h1 : 0 < rd
      · have HE := Lib.hid (show canM bl rd 1 = true by rw [canM_iff]; exact .inr ⟨rfl, h1⟩)
        rewrite [HE.out]
        go_enter Try.func64, Try.ntmps64
        go_wp2
        go_returns
        exact ⟨rfl, by (repeat' (first | (with_reducible exact Below.refl _ _) | (with_reducible assumption) | (with_reducible refine Below.alloc ?_ ?_ _) | (with_reducible refine Below.setCell ?_ ?_ _) | (with_reducible refine Below.drew ?_) | (with_reducible refine below_drewN ?_ _) | (with_reducible refine Below.trans ?_ (Below.mono (by assumption) ?_)) | (with_reducible exact Nat.le_refl _) | (simp; done) | omega | (simp at *; omega)))⟩
      · have HE := Lib.hid (show canM bl rd 1 = false by rw [Bool.eq_false_iff]; intro h; rw [canM_iff] at h; omega)
        rewrite [HE.out]
        go_enter Try.func64, Try.ntmps64
        go_wp2
        go_returns
        exact ⟨rfl, by (repeat' (first | (with_reducible exact Below.refl _ _) | (with_reducible assumption) | (with_reducible refine Below.alloc ?_ ?_ _) | (with_reducible refine Below.setCell ?_ ?_ _) | (with_reducible refine Below.drew ?_) | (with_reducible refine below_drewN ?_ _) | (with_reducible refine Below.trans ?_ (Below.mono (by assumption) ?_)) | (with_reducible exact Nat.le_refl _) | (simp; done) | omega | (simp at *; omega)))⟩
    · have hb1 : (nx == 1) = false := by simpa using h2
      have HE := Lib.hid (show canM bl rd nx = false by rw [Bool.eq_false_iff]; intro h; rw [canM_iff] at h; omega)
      rewrite [HE.out]
      go_enter Try.func64, Try.ntmps64
      go_wp2
      go_returns
      exact ⟨rfl, by (repeat' (first | (with_reducible exact Below.refl _ _) | (with_reducible assumption) | (with_reducible refine Below.alloc ?_ ?_ _) | (with_reducible refine Below.setCell ?_ ?_ _) | (with_reducible refine Below.drew ?_) | (with_reducible refine below_drewN ?_ _) | (with_reducible refine Below.trans ?_ (Below.mono (by assumption) ?_)) | (with_reducible exact Nat.le_refl _) | (simp; done) | omega | (simp at *; omega)))⟩
end Go.Proofs.Ytlambflmabecfaa
namespace Go.Proofs.Ytlambflmabecfaa
open Go.ChangeShapes Go.WideShapes Go.ChangeAt Go.RowKit Go.Joins Go.Deep
set_option linter.unusedSimpArgs false
set_option linter.unusedVariables false
set_option maxRecDepth 100000
set_option maxHeartbeats 4000000
theorem whole_drew {w : World} {g : Nat} {t : TypeId} {xs : List Value} (h : Whole w g t xs) : Whole w.drew g t xs := h.below ((Below.refl _ _).drew) h.lt
theorem own_drew {w : World} {A : Option Addr} {t : TypeId} {xs : List Value} (h : Own w A t xs) : Own w.drew A t xs := h.keep ((Below.refl _ _).drew)
/-- The machine behind a step, and the end of its marble. -/
def PostT (w : World) (r c n : Nat) (p q bl rd nx : Int) (F : FlR) (e : Ending) (w' : World) : Prop :=
  ∃ A5 c5, e = .returned (.tuple #[.agg #[.int .i64 (r : Int), .int .i64 (c : Int), .slice A5 n c5, .int .i64 p, .int .i64 q, .int .i64 bl, .int .i64 rd, .int .i64 nx], .agg #[.int .i64 F.e, .int .i64 F.row, .int .i64 F.col]]) ∧ Own w' A5 104 (flat F.cells) ∧ New w A5 ∧ Below w.heap.size w w'
theorem spec_maStep (r c b o cap : Nat) (l : List (Int × Int)) (p q bl rd nx : Int) (col : Nat) (w : World) (hgd : goodB (r : Int) (c : Int) l = true) (hr : Rd w w.heap.size (some ⟨b, o, none⟩) (flat l)) (hc : canM bl rd nx = true) (hbl : bl ≤ 30) (hrd : rd ≤ 30) (hcol : colM p q nx = (col : Int)) (hlt : col < c) :
    Calls Try.prog 65 #[.agg #[.int .i64 (r : Int), .int .i64 (c : Int), .slice (some ⟨b, o, none⟩) l.length cap, .int .i64 p, .int .i64 q, .int .i64 bl, .int .i64 rd, .int .i64 nx]] w
      (PostT w r c l.length p q (if nx = 0 then bl - 1 else bl) (if nx = 0 then rd else rd - 1) (nextM (c : Int) (marO (r : Int) (c : Int) l (colM p q nx))) (marO (r : Int) (c : Int) l (colM p q nx))) := by
  obtain ⟨s1, s2, s3, s4⟩ := sizeB_iff.1 (goodB_iff.1 hgd).1
  rw [canM_iff] at hc
  by_cases h0 : nx = 0
  · have hb : 0 < bl := by omega
    subst h0
    obtain rfl : p = (col : Int) := hcol
    clear hc
    have m1 : IntKind.i64.wrap (bl - 1) = bl - 1 := IntWalk.i64_in _ (by omega)
    go_enter Try.func65, Try.ntmps65
    obtain ⟨v0, hv0, X0, X1, X2, B0, hz0⟩ := three_boxes w [.int .i64 (r : Int), .int .i64 (c : Int), .slice (some ⟨b, o, none⟩) l.length cap, .int .i64 (col : Int), .int .i64 q, .int .i64 bl, .int .i64 rd, .int .i64 0] 41 [.int .i64 0, .int .i64 0, .slice none 0 0, .int .i64 0, .int .i64 0, .int .i64 0, .int .i64 0, .int .i64 0] 41 [.int .i64 0, .int .i64 0, .int .i64 0] 59
    have HV := Lib.hid hv0
    have HZ := Lib.hid hz0
    clear hv0 hz0
    go_upto_region 1 with (fail)
    rewrite [show ((w.alloc (.cells ([.int .i64 (r : Int), .int .i64 (c : Int), .slice (some ⟨b, o, none⟩) l.length cap, .int .i64 (col : Int), .int .i64 q, .int .i64 bl, .int .i64 rd, .int .i64 0] : List Value).toArray 41)).alloc (.cells ([.int .i64 0, .int .i64 0, .slice none 0 0, .int .i64 0, .int .i64 0, .int .i64 0, .int .i64 0, .int .i64 0] : List Value).toArray 41)).alloc (.cells ([.int .i64 0, .int .i64 0, .int .i64 0] : List Value).toArray 59) = v0 from HV.out]
    clear HV
    have hy := X0.lt
    have X0k0 : v0.cell? ⟨w.heap.size, 0, none⟩ = some (.int .i64 (r : Int)) := (X0.cell 0).trans rfl; have X0k1 : v0.cell? ⟨w.heap.size, 1, none⟩ = some (.int .i64 (c : Int)) := (X0.cell 1).trans rfl; have X0k2 : v0.cell? ⟨w.heap.size, 2, none⟩ = some (.slice (some ⟨b, o, none⟩) l.length cap) := (X0.cell 2).trans rfl; have X0k3 : v0.cell? ⟨w.heap.size, 3, none⟩ = some (.int .i64 (col : Int)) := (X0.cell 3).trans rfl; have X0k4 : v0.cell? ⟨w.heap.size, 4, none⟩ = some (.int .i64 q) := (X0.cell 4).trans rfl; have X0k5 : v0.cell? ⟨w.heap.size, 5, none⟩ = some (.int .i64 bl) := (X0.cell 5).trans rfl
    have X0k6 : v0.cell? ⟨w.heap.size, 6, none⟩ = some (.int .i64 rd) := (X0.cell 6).trans rfl; have X0k7 : v0.cell? ⟨w.heap.size, 7, none⟩ = some (.int .i64 0) := (X0.cell 7).trans rfl
    go_wp2_with fail
    clear X0k0 X0k1 X0k2 X0k3 X0k4 X0k5 X0k6 X0k7
    obtain ⟨v5, hv5⟩ : ∃ v5, v5 = v0.alloc (.cells #[.int .i64 (r : Int), .int .i64 (c : Int), .slice (some ⟨b, o, none⟩) l.length cap, .int .i64 (col : Int), .int .i64 q, .int .i64 (bl - 1), .int .i64 rd, .int .i64 0] 41) := ⟨_, rfl⟩
    obtain ⟨g4, hg4⟩ : ∃ g4, g4 = v0.heap.size := ⟨_, rfl⟩
    have Y4 : Whole v5 g4 41 [.int .i64 (r : Int), .int .i64 (c : Int), .slice (some ⟨b, o, none⟩) l.length cap, .int .i64 (col : Int), .int .i64 q, .int .i64 (bl - 1), .int .i64 rd, .int .i64 0] := by rw [hv5, hg4]; exact newW
    have b5 : Below v0.heap.size v0 v5 := by rw [hv5]; exact (Below.refl _ _).alloc (Nat.le_refl _) _
    have n21 : w.heap.size + 1 + 1 ≠ w.heap.size + 1 := by omega
    have n12 : w.heap.size + 1 ≠ w.heap.size + 1 + 1 := by omega
    have hx0 : w.heap.size + 1 + 1 < g4 := by rw [hg4, HZ.out]; omega
    replace X0 := X0.below b5 X0.lt
    replace X1 := X1.below b5 X1.lt
    replace X2 := X2.below b5 X2.lt
    replace B0 := B0.trans (b5.mono B0.size)
    rewrite [← hv5]
    rewrite [← hg4]
    clear hv5 b5 HZ hg4
    have hy := X0.lt
    have X0k0 : v5.cell? ⟨w.heap.size, 0, none⟩ = some (.int .i64 (r : Int)) := (X0.cell 0).trans rfl; have X0k1 : v5.cell? ⟨w.heap.size, 1, none⟩ = some (.int .i64 (c : Int)) := (X0.cell 1).trans rfl; have X0k2 : v5.cell? ⟨w.heap.size, 2, none⟩ = some (.slice (some ⟨b, o, none⟩) l.length cap) := (X0.cell 2).trans rfl
    have hs := B0.size
    refine (spec_flRun r c b o cap l col _ hgd ((hr.below B0).mono hs) hlt).mono ?_; rintro e w3 ⟨A5, c5, rfl, O5, N5, b3⟩
    have HF := Lib.hid (show marO (r : Int) (c : Int) l (colM (col : Int) q 0) = marO (r : Int) (c : Int) l (col : Int) from rfl)
    have hok := flG_okE (numL c l) r c r 0 l col 0 [] hlt
    have hok' : okE c ((marO (r : Int) (c : Int) l (col : Int)).e, (marO (r : Int) (c : Int) l (col : Int)).row, (marO (r : Int) (c : Int) l (col : Int)).col) := hok
    clear hok
    generalize marO (r : Int) (c : Int) l (col : Int) = F at *
    clear X0k0 X0k1 X0k2
    have hn0 : New w A5 := fun a ha => Nat.le_trans hs (N5 a ha)
    have h4l := Y4.lt
    replace X0 := X0.below b3 X0.lt
    replace X1 := X1.below b3 X1.lt
    replace X2 := X2.below b3 X2.lt
    replace Y4 := Y4.below b3 Y4.lt
    replace B0 := B0.trans (b3.mono hs)
    have hs3 := b3.size
    clear b3 N5 hs
    obtain ⟨fe, fr, fc, fl, fw⟩ := F
    go_upto_region 8 with (fail)
    obtain ⟨v6, hv6⟩ : ∃ v6, v6 = (w3.alloc (.cells #[.int .i64 fe, .int .i64 fr, .int .i64 fc] 59)).alloc (.cells #[.int .i64 (r : Int), .int .i64 (c : Int), .slice A5 l.length c5] 39) := ⟨_, rfl⟩
    have Xf : Whole v6 w3.heap.size 59 [.int .i64 fe, .int .i64 fr, .int .i64 fc] := by rw [hv6]; exact newW.alloc _
    have Xb : Whole v6 (w3.heap.size + 1) 39 [.int .i64 (r : Int), .int .i64 (c : Int), .slice A5 l.length c5] := by rw [hv6]; exact newW1
    have b6 : Below w3.heap.size w3 v6 := by rw [hv6]; exact ((Below.refl _ _).alloc (Nat.le_refl _) _).alloc (by rw [World.size_alloc]; omega) _
    rewrite [← hv6]
    clear hv6
    have h4l3 := Y4.lt
    replace X0 := X0.below b6 X0.lt
    replace X1 := X1.below b6 X1.lt
    replace X2 := X2.below b6 X2.lt
    replace Y4 := Y4.below b6 Y4.lt
    replace O5 := O5.keep b6
    replace B0 := B0.trans (b6.mono B0.size)
    clear b6
    generalize w3.heap.size = gf at *
    have h4l := Y4.lt
    have hfl := Xf.lt
    have hbl2 := Xb.lt
    have hy := X0.lt
    have Xbk0 : v6.cell? ⟨gf + 1, 0, none⟩ = some (.int .i64 (r : Int)) := (Xb.cell 0).trans rfl; have Xbk1 : v6.cell? ⟨gf + 1, 1, none⟩ = some (.int .i64 (c : Int)) := (Xb.cell 1).trans rfl; have Xbk2 : v6.cell? ⟨gf + 1, 2, none⟩ = some (.slice A5 l.length c5) := (Xb.cell 2).trans rfl
    have Y4k0 : v6.cell? ⟨g4, 0, none⟩ = some (.int .i64 (r : Int)) := (Y4.cell 0).trans rfl; have Y4k1 : v6.cell? ⟨g4, 1, none⟩ = some (.int .i64 (c : Int)) := (Y4.cell 1).trans rfl; have Y4k2 : v6.cell? ⟨g4, 2, none⟩ = some (.slice (some ⟨b, o, none⟩) l.length cap) := (Y4.cell 2).trans rfl; have Y4k3 : v6.cell? ⟨g4, 3, none⟩ = some (.int .i64 (col : Int)) := (Y4.cell 3).trans rfl; have Y4k4 : v6.cell? ⟨g4, 4, none⟩ = some (.int .i64 q) := (Y4.cell 4).trans rfl; have Y4k5 : v6.cell? ⟨g4, 5, none⟩ = some (.int .i64 (bl - 1)) := (Y4.cell 5).trans rfl
    have Y4k6 : v6.cell? ⟨g4, 6, none⟩ = some (.int .i64 rd) := (Y4.cell 6).trans rfl; have Y4k7 : v6.cell? ⟨g4, 7, none⟩ = some (.int .i64 0) := (Y4.cell 7).trans rfl
    have Y4f0 := Y4.frozen 0; have Y4f1 := Y4.frozen 1; have Y4f2 := Y4.frozen 2; have Y4f3 := Y4.frozen 3; have Y4f4 := Y4.frozen 4; have Y4f5 := Y4.frozen 5; have Y4f6 := Y4.frozen 6; have Y4f7 := Y4.frozen 7
    have n4b : g4 ≠ gf + 1 := by omega
    have n4f : g4 ≠ gf := by omega
    have n40 : g4 ≠ w.heap.size := by omega
    have n41 : g4 ≠ w.heap.size + 1 := by omega
    have n42 : g4 ≠ w.heap.size + 1 + 1 := by omega
    go_upto_region 10 with (fail)
    obtain ⟨v7, hv7⟩ : ∃ v7, v7 = (((v6.setCell ⟨g4, 0, none⟩ (.int .i64 (r : Int))).setCell ⟨g4, 1, none⟩ (.int .i64 (c : Int))).setCell ⟨g4, 2, none⟩ (.slice A5 l.length c5)).setCell ⟨g4, 7, none⟩ (.int .i64 2) := ⟨_, rfl⟩
    have Z4 : Whole v7 g4 41 [.int .i64 (r : Int), .int .i64 (c : Int), .slice A5 l.length c5, .int .i64 (col : Int), .int .i64 q, .int .i64 (bl - 1), .int .i64 rd, .int .i64 2] := by rw [hv7]; exact (((Y4.set 0 (.int .i64 (r : Int))).set 1 (.int .i64 (c : Int))).set 2 (.slice A5 l.length c5)).set 7 (.int .i64 2)
    replace X0 : Whole v7 w.heap.size 41 [.int .i64 (r : Int), .int .i64 (c : Int), .slice (some ⟨b, o, none⟩) l.length cap, .int .i64 (col : Int), .int .i64 q, .int .i64 bl, .int .i64 rd, .int .i64 0] := by rw [hv7]; exact (three_far X0 n40).set_far _ _ n40
    replace X1 : Whole v7 (w.heap.size + 1) 41 [.int .i64 0, .int .i64 0, .slice none 0 0, .int .i64 0, .int .i64 0, .int .i64 0, .int .i64 0, .int .i64 0] := by rw [hv7]; exact (three_far X1 n41).set_far _ _ n41
    replace X2 : Whole v7 (w.heap.size + 1 + 1) 59 [.int .i64 0, .int .i64 0, .int .i64 0] := by rw [hv7]; exact (three_far X2 n42).set_far _ _ n42
    replace Xf : Whole v7 gf 59 [.int .i64 fe, .int .i64 fr, .int .i64 fc] := by rw [hv7]; exact (three_far Xf n4f).set_far _ _ n4f
    replace O5 : Own v7 A5 104 (flat fl) := by
      rw [hv7]
      exact ((((O5.set_far2 _ _ (fun hx a ha => (own_apart O5 Y4 (by decide) hx ha).symm)).set_far2 _ _ (fun hx a ha => (own_apart O5 Y4 (by decide) hx ha).symm)).set_far2 _ _ (fun hx a ha => (own_apart O5 Y4 (by decide) hx ha).symm)).set_far2 _ _ (fun hx a ha => (own_apart O5 Y4 (by decide) hx ha).symm))
    replace B0 : Below w.heap.size w v7 := by rw [hv7]; exact (((B0.setCell (p := ⟨g4, 0, none⟩) (by show w.heap.size ≤ g4; omega) _).setCell (p := ⟨g4, 1, none⟩) (by show w.heap.size ≤ g4; omega) _).setCell (p := ⟨g4, 2, none⟩) (by show w.heap.size ≤ g4; omega) _).setCell (p := ⟨g4, 7, none⟩) (by show w.heap.size ≤ g4; omega) _
    clear Xbk0 Xbk1 Xbk2
    clear Y4k0 Y4k1 Y4k2 Y4k3 Y4k4 Y4k5 Y4k6 Y4k7
    clear Y4f0 Y4f1 Y4f2 Y4f3 Y4f4 Y4f5 Y4f6 Y4f7
    rewrite [← hv7]
    clear hv7 Y4 Xb hbl2 n4b h4l hfl hy
    have h4l := Z4.lt
    have hfl := Xf.lt
    have hy := X0.lt
    by_cases hE : fe = 1
    · subst hE
      obtain ⟨hcb1, hcb2⟩ : 0 ≤ fc ∧ fc < (c : Int) := by
        rcases hok' with h | h | h
        · exact h.2
        · have h2 : (1 : Int) = 2 := h; omega
        · have h2 : (1 : Int) = 3 := h; omega
      have m2 : IntKind.i64.wrap (2 * fc) = 2 * fc := IntWalk.i64_in _ (by omega)
      clear hok'
      have Xfk0 : v7.cell? ⟨gf, 0, none⟩ = some (.int .i64 1) := (Xf.cell 0).trans rfl
      have Xfk2 : v7.cell? ⟨gf, 2, none⟩ = some (.int .i64 fc) := (Xf.cell 2).trans rfl
      have X0k1 : v7.cell? ⟨w.heap.size, 1, none⟩ = some (.int .i64 (c : Int)) := (X0.cell 1).trans rfl
      have Z4f7 := Z4.frozen 7
      have Z4k7 : v7.cell? ⟨g4, 7, none⟩ = some (.int .i64 2) := (Z4.cell 7).trans rfl
      by_cases hh : 2 * fc < (c : Int)
      · have HN := Lib.hid (show nextM (c : Int) ⟨1, fr, fc, fl, fw⟩ = 0 by unfold nextM; rw [if_pos rfl, if_pos hh])
        go_upto_region 14 with (fail)
        have ZW : Whole ((v7.setCell ⟨g4, 7, none⟩ (.int .i64 1)).setCell ⟨g4, 7, none⟩ (.int .i64 0)) g4 41 [.int .i64 (r : Int), .int .i64 (c : Int), .slice A5 l.length c5, .int .i64 (col : Int), .int .i64 q, .int .i64 (bl - 1), .int .i64 rd, .int .i64 0] := (Z4.set 7 (.int .i64 1)).set 7 (.int .i64 0)
        obtain ⟨v8, hv8⟩ : ∃ v8, v8 = (v7.setCell ⟨g4, 7, none⟩ (.int .i64 1)).setCell ⟨g4, 7, none⟩ (.int .i64 0) := ⟨_, rfl⟩
        rw [← hv8] at ZW
        replace X1 : Whole v8 (w.heap.size + 1) 41 [.int .i64 0, .int .i64 0, .slice none 0 0, .int .i64 0, .int .i64 0, .int .i64 0, .int .i64 0, .int .i64 0] := by rw [hv8]; exact ((X1).set_far _ _ n41).set_far _ _ n41
        replace X2 : Whole v8 (w.heap.size + 1 + 1) 59 [.int .i64 0, .int .i64 0, .int .i64 0] := by rw [hv8]; exact ((X2).set_far _ _ n42).set_far _ _ n42
        replace Xf : Whole v8 gf 59 [.int .i64 1, .int .i64 fr, .int .i64 fc] := by rw [hv8]; exact ((Xf).set_far _ _ n4f).set_far _ _ n4f
        replace O5 : Own v8 A5 104 (flat fl) := by rw [hv8]; exact ((O5.set_far2 _ _ (fun hx a ha => (own_apart O5 Z4 (by decide) hx ha).symm)).set_far2 _ _ (fun hx a ha => (own_apart O5 Z4 (by decide) hx ha).symm))
        replace B0 : Below w.heap.size w v8 := by rw [hv8]; exact ((B0.setCell (p := ⟨g4, 7, none⟩) (by show w.heap.size ≤ g4; omega) _).setCell (p := ⟨g4, 7, none⟩) (by show w.heap.size ≤ g4; omega) _)
        clear Xfk0 Xfk2 X0k1 Z4f7 Z4k7
        rewrite [← hv8]
        clear hv8 Z4 X0 h4l hfl hy
        have h4l := ZW.lt
        have hfl := Xf.lt
        have h1l := X1.lt
        have h2l := X2.lt
        have ZWk0 : v8.cell? ⟨g4, 0, none⟩ = some (.int .i64 (r : Int)) := (ZW.cell 0).trans rfl; have ZWk1 : v8.cell? ⟨g4, 1, none⟩ = some (.int .i64 (c : Int)) := (ZW.cell 1).trans rfl; have ZWk2 : v8.cell? ⟨g4, 2, none⟩ = some (.slice A5 l.length c5) := (ZW.cell 2).trans rfl; have ZWk3 : v8.cell? ⟨g4, 3, none⟩ = some (.int .i64 (col : Int)) := (ZW.cell 3).trans rfl; have ZWk4 : v8.cell? ⟨g4, 4, none⟩ = some (.int .i64 q) := (ZW.cell 4).trans rfl; have ZWk5 : v8.cell? ⟨g4, 5, none⟩ = some (.int .i64 (bl - 1)) := (ZW.cell 5).trans rfl
        have ZWk6 : v8.cell? ⟨g4, 6, none⟩ = some (.int .i64 rd) := (ZW.cell 6).trans rfl; have ZWk7 : v8.cell? ⟨g4, 7, none⟩ = some (.int .i64 0) := (ZW.cell 7).trans rfl
        have X1k0 : v8.cell? ⟨w.heap.size + 1, 0, none⟩ = some (.int .i64 0) := (X1.cell 0).trans rfl; have X1k1 : v8.cell? ⟨w.heap.size + 1, 1, none⟩ = some (.int .i64 0) := (X1.cell 1).trans rfl; have X1k2 : v8.cell? ⟨w.heap.size + 1, 2, none⟩ = some (.slice none 0 0) := (X1.cell 2).trans rfl; have X1k3 : v8.cell? ⟨w.heap.size + 1, 3, none⟩ = some (.int .i64 0) := (X1.cell 3).trans rfl; have X1k4 : v8.cell? ⟨w.heap.size + 1, 4, none⟩ = some (.int .i64 0) := (X1.cell 4).trans rfl; have X1k5 : v8.cell? ⟨w.heap.size + 1, 5, none⟩ = some (.int .i64 0) := (X1.cell 5).trans rfl
        have X1k6 : v8.cell? ⟨w.heap.size + 1, 6, none⟩ = some (.int .i64 0) := (X1.cell 6).trans rfl; have X1k7 : v8.cell? ⟨w.heap.size + 1, 7, none⟩ = some (.int .i64 0) := (X1.cell 7).trans rfl
        have X1f0 := X1.frozen 0; have X1f1 := X1.frozen 1; have X1f2 := X1.frozen 2; have X1f3 := X1.frozen 3; have X1f4 := X1.frozen 4; have X1f5 := X1.frozen 5; have X1f6 := X1.frozen 6; have X1f7 := X1.frozen 7
        have X2k0 : v8.cell? ⟨w.heap.size + 1 + 1, 0, none⟩ = some (.int .i64 0) := (X2.cell 0).trans rfl; have X2k1 : v8.cell? ⟨w.heap.size + 1 + 1, 1, none⟩ = some (.int .i64 0) := (X2.cell 1).trans rfl; have X2k2 : v8.cell? ⟨w.heap.size + 1 + 1, 2, none⟩ = some (.int .i64 0) := (X2.cell 2).trans rfl
        have X2f0 := X2.frozen 0; have X2f1 := X2.frozen 1; have X2f2 := X2.frozen 2
        have Xfk0 : v8.cell? ⟨gf, 0, none⟩ = some (.int .i64 1) := (Xf.cell 0).trans rfl; have Xfk1 : v8.cell? ⟨gf, 1, none⟩ = some (.int .i64 fr) := (Xf.cell 1).trans rfl; have Xfk2 : v8.cell? ⟨gf, 2, none⟩ = some (.int .i64 fc) := (Xf.cell 2).trans rfl
        go_region
        go_wp2
        rewrite [mset_fold]
        obtain ⟨v9, hv9⟩ : ∃ v9, v9 = ((((mset v8 (w.heap.size + 1) (.int .i64 (r : Int)) (.int .i64 (c : Int)) (.slice A5 l.length c5) (.int .i64 (col : Int)) (.int .i64 q) (.int .i64 (bl - 1)) (.int .i64 rd) (.int .i64 0)).setCell ⟨w.heap.size + 1 + 1, 0, none⟩ (.int .i64 1)).setCell ⟨w.heap.size + 1 + 1, 1, none⟩ (.int .i64 fr)).setCell ⟨w.heap.size + 1 + 1, 2, none⟩ (.int .i64 fc)).drew := ⟨_, rfl⟩
        have Z1 : Whole v9 (w.heap.size + 1) 41 [.int .i64 (r : Int), .int .i64 (c : Int), .slice A5 l.length c5, .int .i64 (col : Int), .int .i64 q, .int .i64 (bl - 1), .int .i64 rd, .int .i64 0] := by rw [hv9]; exact whole_drew (three_far (X1.mset _ _ _ _ _ _ _ _) n21)
        have Z2 : Whole v9 (w.heap.size + 1 + 1) 59 [.int .i64 1, .int .i64 fr, .int .i64 fc] := by rw [hv9]; exact whole_drew (whole_three (X2.mset_far n12))
        have O9 : Own v9 A5 104 (flat fl) := by rw [hv9]; exact own_drew (own_three (own_mset O5 X1 (by decide)) (X2.mset_far n12) (by decide))
        have B9 : Below w.heap.size w v9 := by rw [hv9]; exact ((((below_mset B0 (by omega)).setCell (p := ⟨w.heap.size + 1 + 1, 0, none⟩) (by show w.heap.size ≤ w.heap.size + 1 + 1; omega) _).setCell (p := ⟨w.heap.size + 1 + 1, 1, none⟩) (by show w.heap.size ≤ w.heap.size + 1 + 1; omega) _).setCell (p := ⟨w.heap.size + 1 + 1, 2, none⟩) (by show w.heap.size ≤ w.heap.size + 1 + 1; omega) _).drew
        rewrite [← hv9]
        clear ZWk0 ZWk1 ZWk2 ZWk3 ZWk4 ZWk5 ZWk6 ZWk7
        clear X1k0 X1k1 X1k2 X1k3 X1k4 X1k5 X1k6 X1k7
        clear X2k0 X2k1 X2k2
        clear X1f0 X1f1 X1f2 X1f3 X1f4 X1f5 X1f6 X1f7 X2f0 X2f1 X2f2 Xfk0 Xfk1 Xfk2 hv9 X1 X2 O5 B0 Xf ZW
        have Z1k0 : v9.cell? ⟨w.heap.size + 1, 0, none⟩ = some (.int .i64 (r : Int)) := (Z1.cell 0).trans rfl; have Z1k1 : v9.cell? ⟨w.heap.size + 1, 1, none⟩ = some (.int .i64 (c : Int)) := (Z1.cell 1).trans rfl; have Z1k2 : v9.cell? ⟨w.heap.size + 1, 2, none⟩ = some (.slice A5 l.length c5) := (Z1.cell 2).trans rfl; have Z1k3 : v9.cell? ⟨w.heap.size + 1, 3, none⟩ = some (.int .i64 (col : Int)) := (Z1.cell 3).trans rfl; have Z1k4 : v9.cell? ⟨w.heap.size + 1, 4, none⟩ = some (.int .i64 q) := (Z1.cell 4).trans rfl; have Z1k5 : v9.cell? ⟨w.heap.size + 1, 5, none⟩ = some (.int .i64 (bl - 1)) := (Z1.cell 5).trans rfl
        have Z1k6 : v9.cell? ⟨w.heap.size + 1, 6, none⟩ = some (.int .i64 rd) := (Z1.cell 6).trans rfl; have Z1k7 : v9.cell? ⟨w.heap.size + 1, 7, none⟩ = some (.int .i64 0) := (Z1.cell 7).trans rfl
        have Z2k0 : v9.cell? ⟨w.heap.size + 1 + 1, 0, none⟩ = some (.int .i64 1) := (Z2.cell 0).trans rfl; have Z2k1 : v9.cell? ⟨w.heap.size + 1 + 1, 1, none⟩ = some (.int .i64 fr) := (Z2.cell 1).trans rfl; have Z2k2 : v9.cell? ⟨w.heap.size + 1 + 1, 2, none⟩ = some (.int .i64 fc) := (Z2.cell 2).trans rfl
        refine bodyPost_ret (v := .tuple #[.agg #[.int .i64 (r : Int), .int .i64 (c : Int), .slice A5 l.length c5, .int .i64 (col : Int), .int .i64 q, .int .i64 (bl - 1), .int .i64 rd, .int .i64 0], .agg #[.int .i64 1, .int .i64 fr, .int .i64 fc]]) ?_ rfl ?_; (focus (simp [results, Try.results65, go_sem, *]; done))
        rewrite [HF.out, HN.out]
        exact ⟨A5, c5, rfl, O9, hn0, B9⟩
      · have HN := Lib.hid (show nextM (c : Int) ⟨1, fr, fc, fl, fw⟩ = 1 by unfold nextM; rw [if_pos rfl, if_neg hh])
        go_upto_region 14 with (fail)
        have ZW : Whole (v7.setCell ⟨g4, 7, none⟩ (.int .i64 1)) g4 41 [.int .i64 (r : Int), .int .i64 (c : Int), .slice A5 l.length c5, .int .i64 (col : Int), .int .i64 q, .int .i64 (bl - 1), .int .i64 rd, .int .i64 1] := Z4.set 7 (.int .i64 1)
        obtain ⟨v8, hv8⟩ : ∃ v8, v8 = v7.setCell ⟨g4, 7, none⟩ (.int .i64 1) := ⟨_, rfl⟩
        rw [← hv8] at ZW
        replace X1 : Whole v8 (w.heap.size + 1) 41 [.int .i64 0, .int .i64 0, .slice none 0 0, .int .i64 0, .int .i64 0, .int .i64 0, .int .i64 0, .int .i64 0] := by rw [hv8]; exact (X1).set_far _ _ n41
        replace X2 : Whole v8 (w.heap.size + 1 + 1) 59 [.int .i64 0, .int .i64 0, .int .i64 0] := by rw [hv8]; exact (X2).set_far _ _ n42
        replace Xf : Whole v8 gf 59 [.int .i64 1, .int .i64 fr, .int .i64 fc] := by rw [hv8]; exact (Xf).set_far _ _ n4f
        replace O5 : Own v8 A5 104 (flat fl) := by rw [hv8]; exact (O5.set_far2 _ _ (fun hx a ha => (own_apart O5 Z4 (by decide) hx ha).symm))
        replace B0 : Below w.heap.size w v8 := by rw [hv8]; exact (B0.setCell (p := ⟨g4, 7, none⟩) (by show w.heap.size ≤ g4; omega) _)
        clear Xfk0 Xfk2 X0k1 Z4f7 Z4k7
        rewrite [← hv8]
        clear hv8 Z4 X0 h4l hfl hy
        have h4l := ZW.lt
        have hfl := Xf.lt
        have h1l := X1.lt
        have h2l := X2.lt
        have ZWk0 : v8.cell? ⟨g4, 0, none⟩ = some (.int .i64 (r : Int)) := (ZW.cell 0).trans rfl; have ZWk1 : v8.cell? ⟨g4, 1, none⟩ = some (.int .i64 (c : Int)) := (ZW.cell 1).trans rfl; have ZWk2 : v8.cell? ⟨g4, 2, none⟩ = some (.slice A5 l.length c5) := (ZW.cell 2).trans rfl; have ZWk3 : v8.cell? ⟨g4, 3, none⟩ = some (.int .i64 (col : Int)) := (ZW.cell 3).trans rfl; have ZWk4 : v8.cell? ⟨g4, 4, none⟩ = some (.int .i64 q) := (ZW.cell 4).trans rfl; have ZWk5 : v8.cell? ⟨g4, 5, none⟩ = some (.int .i64 (bl - 1)) := (ZW.cell 5).trans rfl
        have ZWk6 : v8.cell? ⟨g4, 6, none⟩ = some (.int .i64 rd) := (ZW.cell 6).trans rfl; have ZWk7 : v8.cell? ⟨g4, 7, none⟩ = some (.int .i64 1) := (ZW.cell 7).trans rfl
        have X1k0 : v8.cell? ⟨w.heap.size + 1, 0, none⟩ = some (.int .i64 0) := (X1.cell 0).trans rfl; have X1k1 : v8.cell? ⟨w.heap.size + 1, 1, none⟩ = some (.int .i64 0) := (X1.cell 1).trans rfl; have X1k2 : v8.cell? ⟨w.heap.size + 1, 2, none⟩ = some (.slice none 0 0) := (X1.cell 2).trans rfl; have X1k3 : v8.cell? ⟨w.heap.size + 1, 3, none⟩ = some (.int .i64 0) := (X1.cell 3).trans rfl; have X1k4 : v8.cell? ⟨w.heap.size + 1, 4, none⟩ = some (.int .i64 0) := (X1.cell 4).trans rfl; have X1k5 : v8.cell? ⟨w.heap.size + 1, 5, none⟩ = some (.int .i64 0) := (X1.cell 5).trans rfl
        have X1k6 : v8.cell? ⟨w.heap.size + 1, 6, none⟩ = some (.int .i64 0) := (X1.cell 6).trans rfl; have X1k7 : v8.cell? ⟨w.heap.size + 1, 7, none⟩ = some (.int .i64 0) := (X1.cell 7).trans rfl
        have X1f0 := X1.frozen 0; have X1f1 := X1.frozen 1; have X1f2 := X1.frozen 2; have X1f3 := X1.frozen 3; have X1f4 := X1.frozen 4; have X1f5 := X1.frozen 5; have X1f6 := X1.frozen 6; have X1f7 := X1.frozen 7
        have X2k0 : v8.cell? ⟨w.heap.size + 1 + 1, 0, none⟩ = some (.int .i64 0) := (X2.cell 0).trans rfl; have X2k1 : v8.cell? ⟨w.heap.size + 1 + 1, 1, none⟩ = some (.int .i64 0) := (X2.cell 1).trans rfl; have X2k2 : v8.cell? ⟨w.heap.size + 1 + 1, 2, none⟩ = some (.int .i64 0) := (X2.cell 2).trans rfl
        have X2f0 := X2.frozen 0; have X2f1 := X2.frozen 1; have X2f2 := X2.frozen 2
        have Xfk0 : v8.cell? ⟨gf, 0, none⟩ = some (.int .i64 1) := (Xf.cell 0).trans rfl; have Xfk1 : v8.cell? ⟨gf, 1, none⟩ = some (.int .i64 fr) := (Xf.cell 1).trans rfl; have Xfk2 : v8.cell? ⟨gf, 2, none⟩ = some (.int .i64 fc) := (Xf.cell 2).trans rfl
        go_region
        go_wp2
        rewrite [mset_fold]
        obtain ⟨v9, hv9⟩ : ∃ v9, v9 = ((((mset v8 (w.heap.size + 1) (.int .i64 (r : Int)) (.int .i64 (c : Int)) (.slice A5 l.length c5) (.int .i64 (col : Int)) (.int .i64 q) (.int .i64 (bl - 1)) (.int .i64 rd) (.int .i64 1)).setCell ⟨w.heap.size + 1 + 1, 0, none⟩ (.int .i64 1)).setCell ⟨w.heap.size + 1 + 1, 1, none⟩ (.int .i64 fr)).setCell ⟨w.heap.size + 1 + 1, 2, none⟩ (.int .i64 fc)).drew := ⟨_, rfl⟩
        have Z1 : Whole v9 (w.heap.size + 1) 41 [.int .i64 (r : Int), .int .i64 (c : Int), .slice A5 l.length c5, .int .i64 (col : Int), .int .i64 q, .int .i64 (bl - 1), .int .i64 rd, .int .i64 1] := by rw [hv9]; exact whole_drew (three_far (X1.mset _ _ _ _ _ _ _ _) n21)
        have Z2 : Whole v9 (w.heap.size + 1 + 1) 59 [.int .i64 1, .int .i64 fr, .int .i64 fc] := by rw [hv9]; exact whole_drew (whole_three (X2.mset_far n12))
        have O9 : Own v9 A5 104 (flat fl) := by rw [hv9]; exact own_drew (own_three (own_mset O5 X1 (by decide)) (X2.mset_far n12) (by decide))
        have B9 : Below w.heap.size w v9 := by rw [hv9]; exact ((((below_mset B0 (by omega)).setCell (p := ⟨w.heap.size + 1 + 1, 0, none⟩) (by show w.heap.size ≤ w.heap.size + 1 + 1; omega) _).setCell (p := ⟨w.heap.size + 1 + 1, 1, none⟩) (by show w.heap.size ≤ w.heap.size + 1 + 1; omega) _).setCell (p := ⟨w.heap.size + 1 + 1, 2, none⟩) (by show w.heap.size ≤ w.heap.size + 1 + 1; omega) _).drew
        rewrite [← hv9]
        clear ZWk0 ZWk1 ZWk2 ZWk3 ZWk4 ZWk5 ZWk6 ZWk7
        clear X1k0 X1k1 X1k2 X1k3 X1k4 X1k5 X1k6 X1k7
        clear X2k0 X2k1 X2k2
        clear X1f0 X1f1 X1f2 X1f3 X1f4 X1f5 X1f6 X1f7 X2f0 X2f1 X2f2 Xfk0 Xfk1 Xfk2 hv9 X1 X2 O5 B0 Xf ZW
        have Z1k0 : v9.cell? ⟨w.heap.size + 1, 0, none⟩ = some (.int .i64 (r : Int)) := (Z1.cell 0).trans rfl; have Z1k1 : v9.cell? ⟨w.heap.size + 1, 1, none⟩ = some (.int .i64 (c : Int)) := (Z1.cell 1).trans rfl; have Z1k2 : v9.cell? ⟨w.heap.size + 1, 2, none⟩ = some (.slice A5 l.length c5) := (Z1.cell 2).trans rfl; have Z1k3 : v9.cell? ⟨w.heap.size + 1, 3, none⟩ = some (.int .i64 (col : Int)) := (Z1.cell 3).trans rfl; have Z1k4 : v9.cell? ⟨w.heap.size + 1, 4, none⟩ = some (.int .i64 q) := (Z1.cell 4).trans rfl; have Z1k5 : v9.cell? ⟨w.heap.size + 1, 5, none⟩ = some (.int .i64 (bl - 1)) := (Z1.cell 5).trans rfl
        have Z1k6 : v9.cell? ⟨w.heap.size + 1, 6, none⟩ = some (.int .i64 rd) := (Z1.cell 6).trans rfl; have Z1k7 : v9.cell? ⟨w.heap.size + 1, 7, none⟩ = some (.int .i64 1) := (Z1.cell 7).trans rfl
        have Z2k0 : v9.cell? ⟨w.heap.size + 1 + 1, 0, none⟩ = some (.int .i64 1) := (Z2.cell 0).trans rfl; have Z2k1 : v9.cell? ⟨w.heap.size + 1 + 1, 1, none⟩ = some (.int .i64 fr) := (Z2.cell 1).trans rfl; have Z2k2 : v9.cell? ⟨w.heap.size + 1 + 1, 2, none⟩ = some (.int .i64 fc) := (Z2.cell 2).trans rfl
        refine bodyPost_ret (v := .tuple #[.agg #[.int .i64 (r : Int), .int .i64 (c : Int), .slice A5 l.length c5, .int .i64 (col : Int), .int .i64 q, .int .i64 (bl - 1), .int .i64 rd, .int .i64 1], .agg #[.int .i64 1, .int .i64 fr, .int .i64 fc]]) ?_ rfl ?_; (focus (simp [results, Try.results65, go_sem, *]; done))
        rewrite [HF.out, HN.out]
        exact ⟨A5, c5, rfl, O9, hn0, B9⟩
    · have hb1 : (fe == 1) = false := by simpa using hE
      have HN := Lib.hid (show nextM (c : Int) ⟨fe, fr, fc, fl, fw⟩ = 2 by unfold nextM; rw [if_neg hE])
      clear hok'
      have Xfk0 : v7.cell? ⟨gf, 0, none⟩ = some (.int .i64 fe) := (Xf.cell 0).trans rfl
      go_upto_region 14 with (fail)
      have ZW := Z4
      obtain ⟨v8, hv8⟩ : ∃ v8, v8 = v7 := ⟨_, rfl⟩
      rw [← hv8] at ZW
      replace X1 : Whole v8 (w.heap.size + 1) 41 [.int .i64 0, .int .i64 0, .slice none 0 0, .int .i64 0, .int .i64 0, .int .i64 0, .int .i64 0, .int .i64 0] := by rw [hv8]; exact X1
      replace X2 : Whole v8 (w.heap.size + 1 + 1) 59 [.int .i64 0, .int .i64 0, .int .i64 0] := by rw [hv8]; exact X2
      replace Xf : Whole v8 gf 59 [.int .i64 fe, .int .i64 fr, .int .i64 fc] := by rw [hv8]; exact Xf
      replace O5 : Own v8 A5 104 (flat fl) := by rw [hv8]; exact O5
      replace B0 : Below w.heap.size w v8 := by rw [hv8]; exact B0
      clear Xfk0 
      rewrite [show v7 = v8 from hv8.symm]
      clear hv8 Z4 X0 h4l hfl hy
      have h4l := ZW.lt
      have hfl := Xf.lt
      have h1l := X1.lt
      have h2l := X2.lt
      have ZWk0 : v8.cell? ⟨g4, 0, none⟩ = some (.int .i64 (r : Int)) := (ZW.cell 0).trans rfl; have ZWk1 : v8.cell? ⟨g4, 1, none⟩ = some (.int .i64 (c : Int)) := (ZW.cell 1).trans rfl; have ZWk2 : v8.cell? ⟨g4, 2, none⟩ = some (.slice A5 l.length c5) := (ZW.cell 2).trans rfl; have ZWk3 : v8.cell? ⟨g4, 3, none⟩ = some (.int .i64 (col : Int)) := (ZW.cell 3).trans rfl; have ZWk4 : v8.cell? ⟨g4, 4, none⟩ = some (.int .i64 q) := (ZW.cell 4).trans rfl; have ZWk5 : v8.cell? ⟨g4, 5, none⟩ = some (.int .i64 (bl - 1)) := (ZW.cell 5).trans rfl
      have ZWk6 : v8.cell? ⟨g4, 6, none⟩ = some (.int .i64 rd) := (ZW.cell 6).trans rfl; have ZWk7 : v8.cell? ⟨g4, 7, none⟩ = some (.int .i64 2) := (ZW.cell 7).trans rfl
      have X1k0 : v8.cell? ⟨w.heap.size + 1, 0, none⟩ = some (.int .i64 0) := (X1.cell 0).trans rfl; have X1k1 : v8.cell? ⟨w.heap.size + 1, 1, none⟩ = some (.int .i64 0) := (X1.cell 1).trans rfl; have X1k2 : v8.cell? ⟨w.heap.size + 1, 2, none⟩ = some (.slice none 0 0) := (X1.cell 2).trans rfl; have X1k3 : v8.cell? ⟨w.heap.size + 1, 3, none⟩ = some (.int .i64 0) := (X1.cell 3).trans rfl; have X1k4 : v8.cell? ⟨w.heap.size + 1, 4, none⟩ = some (.int .i64 0) := (X1.cell 4).trans rfl; have X1k5 : v8.cell? ⟨w.heap.size + 1, 5, none⟩ = some (.int .i64 0) := (X1.cell 5).trans rfl
      have X1k6 : v8.cell? ⟨w.heap.size + 1, 6, none⟩ = some (.int .i64 0) := (X1.cell 6).trans rfl; have X1k7 : v8.cell? ⟨w.heap.size + 1, 7, none⟩ = some (.int .i64 0) := (X1.cell 7).trans rfl
      have X1f0 := X1.frozen 0; have X1f1 := X1.frozen 1; have X1f2 := X1.frozen 2; have X1f3 := X1.frozen 3; have X1f4 := X1.frozen 4; have X1f5 := X1.frozen 5; have X1f6 := X1.frozen 6; have X1f7 := X1.frozen 7
      have X2k0 : v8.cell? ⟨w.heap.size + 1 + 1, 0, none⟩ = some (.int .i64 0) := (X2.cell 0).trans rfl; have X2k1 : v8.cell? ⟨w.heap.size + 1 + 1, 1, none⟩ = some (.int .i64 0) := (X2.cell 1).trans rfl; have X2k2 : v8.cell? ⟨w.heap.size + 1 + 1, 2, none⟩ = some (.int .i64 0) := (X2.cell 2).trans rfl
      have X2f0 := X2.frozen 0; have X2f1 := X2.frozen 1; have X2f2 := X2.frozen 2
      have Xfk0 : v8.cell? ⟨gf, 0, none⟩ = some (.int .i64 fe) := (Xf.cell 0).trans rfl; have Xfk1 : v8.cell? ⟨gf, 1, none⟩ = some (.int .i64 fr) := (Xf.cell 1).trans rfl; have Xfk2 : v8.cell? ⟨gf, 2, none⟩ = some (.int .i64 fc) := (Xf.cell 2).trans rfl
      go_region
      go_wp2
      rewrite [mset_fold]
      obtain ⟨v9, hv9⟩ : ∃ v9, v9 = ((((mset v8 (w.heap.size + 1) (.int .i64 (r : Int)) (.int .i64 (c : Int)) (.slice A5 l.length c5) (.int .i64 (col : Int)) (.int .i64 q) (.int .i64 (bl - 1)) (.int .i64 rd) (.int .i64 2)).setCell ⟨w.heap.size + 1 + 1, 0, none⟩ (.int .i64 fe)).setCell ⟨w.heap.size + 1 + 1, 1, none⟩ (.int .i64 fr)).setCell ⟨w.heap.size + 1 + 1, 2, none⟩ (.int .i64 fc)).drew := ⟨_, rfl⟩
      have Z1 : Whole v9 (w.heap.size + 1) 41 [.int .i64 (r : Int), .int .i64 (c : Int), .slice A5 l.length c5, .int .i64 (col : Int), .int .i64 q, .int .i64 (bl - 1), .int .i64 rd, .int .i64 2] := by rw [hv9]; exact whole_drew (three_far (X1.mset _ _ _ _ _ _ _ _) n21)
      have Z2 : Whole v9 (w.heap.size + 1 + 1) 59 [.int .i64 fe, .int .i64 fr, .int .i64 fc] := by rw [hv9]; exact whole_drew (whole_three (X2.mset_far n12))
      have O9 : Own v9 A5 104 (flat fl) := by rw [hv9]; exact own_drew (own_three (own_mset O5 X1 (by decide)) (X2.mset_far n12) (by decide))
      have B9 : Below w.heap.size w v9 := by rw [hv9]; exact ((((below_mset B0 (by omega)).setCell (p := ⟨w.heap.size + 1 + 1, 0, none⟩) (by show w.heap.size ≤ w.heap.size + 1 + 1; omega) _).setCell (p := ⟨w.heap.size + 1 + 1, 1, none⟩) (by show w.heap.size ≤ w.heap.size + 1 + 1; omega) _).setCell (p := ⟨w.heap.size + 1 + 1, 2, none⟩) (by show w.heap.size ≤ w.heap.size + 1 + 1; omega) _).drew
      rewrite [← hv9]
      clear ZWk0 ZWk1 ZWk2 ZWk3 ZWk4 ZWk5 ZWk6 ZWk7
      clear X1k0 X1k1 X1k2 X1k3 X1k4 X1k5 X1k6 X1k7
      clear X2k0 X2k1 X2k2
      clear X1f0 X1f1 X1f2 X1f3 X1f4 X1f5 X1f6 X1f7 X2f0 X2f1 X2f2 Xfk0 Xfk1 Xfk2 hv9 X1 X2 O5 B0 Xf ZW
      have Z1k0 : v9.cell? ⟨w.heap.size + 1, 0, none⟩ = some (.int .i64 (r : Int)) := (Z1.cell 0).trans rfl; have Z1k1 : v9.cell? ⟨w.heap.size + 1, 1, none⟩ = some (.int .i64 (c : Int)) := (Z1.cell 1).trans rfl; have Z1k2 : v9.cell? ⟨w.heap.size + 1, 2, none⟩ = some (.slice A5 l.length c5) := (Z1.cell 2).trans rfl; have Z1k3 : v9.cell? ⟨w.heap.size + 1, 3, none⟩ = some (.int .i64 (col : Int)) := (Z1.cell 3).trans rfl; have Z1k4 : v9.cell? ⟨w.heap.size + 1, 4, none⟩ = some (.int .i64 q) := (Z1.cell 4).trans rfl; have Z1k5 : v9.cell? ⟨w.heap.size + 1, 5, none⟩ = some (.int .i64 (bl - 1)) := (Z1.cell 5).trans rfl
      have Z1k6 : v9.cell? ⟨w.heap.size + 1, 6, none⟩ = some (.int .i64 rd) := (Z1.cell 6).trans rfl; have Z1k7 : v9.cell? ⟨w.heap.size + 1, 7, none⟩ = some (.int .i64 2) := (Z1.cell 7).trans rfl
      have Z2k0 : v9.cell? ⟨w.heap.size + 1 + 1, 0, none⟩ = some (.int .i64 fe) := (Z2.cell 0).trans rfl; have Z2k1 : v9.cell? ⟨w.heap.size + 1 + 1, 1, none⟩ = some (.int .i64 fr) := (Z2.cell 1).trans rfl; have Z2k2 : v9.cell? ⟨w.heap.size + 1 + 1, 2, none⟩ = some (.int .i64 fc) := (Z2.cell 2).trans rfl
      refine bodyPost_ret (v := .tuple #[.agg #[.int .i64 (r : Int), .int .i64 (c : Int), .slice A5 l.length c5, .int .i64 (col : Int), .int .i64 q, .int .i64 (bl - 1), .int .i64 rd, .int .i64 2], .agg #[.int .i64 fe, .int .i64 fr, .int .i64 fc]]) ?_ rfl ?_; (focus (simp [results, Try.results65, go_sem, *]; done))
      rewrite [HF.out, HN.out]
      exact ⟨A5, c5, rfl, O9, hn0, B9⟩
  · have h1 : nx = 1 := by omega
    have hrr : 0 < rd := by omega
    subst h1
    obtain rfl : q = (col : Int) := hcol
    clear hc h0
    have m1 : IntKind.i64.wrap (rd - 1) = rd - 1 := IntWalk.i64_in _ (by omega)
    go_enter Try.func65, Try.ntmps65
    obtain ⟨v0, hv0, X0, X1, X2, B0, hz0⟩ := three_boxes w [.int .i64 (r : Int), .int .i64 (c : Int), .slice (some ⟨b, o, none⟩) l.length cap, .int .i64 p, .int .i64 (col : Int), .int .i64 bl, .int .i64 rd, .int .i64 1] 41 [.int .i64 0, .int .i64 0, .slice none 0 0, .int .i64 0, .int .i64 0, .int .i64 0, .int .i64 0, .int .i64 0] 41 [.int .i64 0, .int .i64 0, .int .i64 0] 59
    have HV := Lib.hid hv0
    have HZ := Lib.hid hz0
    clear hv0 hz0
    go_upto_region 1 with (fail)
    rewrite [show ((w.alloc (.cells ([.int .i64 (r : Int), .int .i64 (c : Int), .slice (some ⟨b, o, none⟩) l.length cap, .int .i64 p, .int .i64 (col : Int), .int .i64 bl, .int .i64 rd, .int .i64 1] : List Value).toArray 41)).alloc (.cells ([.int .i64 0, .int .i64 0, .slice none 0 0, .int .i64 0, .int .i64 0, .int .i64 0, .int .i64 0, .int .i64 0] : List Value).toArray 41)).alloc (.cells ([.int .i64 0, .int .i64 0, .int .i64 0] : List Value).toArray 59) = v0 from HV.out]
    clear HV
    have hy := X0.lt
    have X0k0 : v0.cell? ⟨w.heap.size, 0, none⟩ = some (.int .i64 (r : Int)) := (X0.cell 0).trans rfl; have X0k1 : v0.cell? ⟨w.heap.size, 1, none⟩ = some (.int .i64 (c : Int)) := (X0.cell 1).trans rfl; have X0k2 : v0.cell? ⟨w.heap.size, 2, none⟩ = some (.slice (some ⟨b, o, none⟩) l.length cap) := (X0.cell 2).trans rfl; have X0k3 : v0.cell? ⟨w.heap.size, 3, none⟩ = some (.int .i64 p) := (X0.cell 3).trans rfl; have X0k4 : v0.cell? ⟨w.heap.size, 4, none⟩ = some (.int .i64 (col : Int)) := (X0.cell 4).trans rfl; have X0k5 : v0.cell? ⟨w.heap.size, 5, none⟩ = some (.int .i64 bl) := (X0.cell 5).trans rfl
    have X0k6 : v0.cell? ⟨w.heap.size, 6, none⟩ = some (.int .i64 rd) := (X0.cell 6).trans rfl; have X0k7 : v0.cell? ⟨w.heap.size, 7, none⟩ = some (.int .i64 1) := (X0.cell 7).trans rfl
    go_wp2_with fail
    clear X0k0 X0k1 X0k2 X0k3 X0k4 X0k5 X0k6 X0k7
    obtain ⟨v5, hv5⟩ : ∃ v5, v5 = v0.alloc (.cells #[.int .i64 (r : Int), .int .i64 (c : Int), .slice (some ⟨b, o, none⟩) l.length cap, .int .i64 p, .int .i64 (col : Int), .int .i64 bl, .int .i64 (rd - 1), .int .i64 1] 41) := ⟨_, rfl⟩
    obtain ⟨g4, hg4⟩ : ∃ g4, g4 = v0.heap.size := ⟨_, rfl⟩
    have Y4 : Whole v5 g4 41 [.int .i64 (r : Int), .int .i64 (c : Int), .slice (some ⟨b, o, none⟩) l.length cap, .int .i64 p, .int .i64 (col : Int), .int .i64 bl, .int .i64 (rd - 1), .int .i64 1] := by rw [hv5, hg4]; exact newW
    have b5 : Below v0.heap.size v0 v5 := by rw [hv5]; exact (Below.refl _ _).alloc (Nat.le_refl _) _
    have n21 : w.heap.size + 1 + 1 ≠ w.heap.size + 1 := by omega
    have n12 : w.heap.size + 1 ≠ w.heap.size + 1 + 1 := by omega
    have hx0 : w.heap.size + 1 + 1 < g4 := by rw [hg4, HZ.out]; omega
    replace X0 := X0.below b5 X0.lt
    replace X1 := X1.below b5 X1.lt
    replace X2 := X2.below b5 X2.lt
    replace B0 := B0.trans (b5.mono B0.size)
    rewrite [← hv5]
    rewrite [← hg4]
    clear hv5 b5 HZ hg4
    have hy := X0.lt
    have X0k0 : v5.cell? ⟨w.heap.size, 0, none⟩ = some (.int .i64 (r : Int)) := (X0.cell 0).trans rfl; have X0k1 : v5.cell? ⟨w.heap.size, 1, none⟩ = some (.int .i64 (c : Int)) := (X0.cell 1).trans rfl; have X0k2 : v5.cell? ⟨w.heap.size, 2, none⟩ = some (.slice (some ⟨b, o, none⟩) l.length cap) := (X0.cell 2).trans rfl
    have hs := B0.size
    refine (spec_flRun r c b o cap l col _ hgd ((hr.below B0).mono hs) hlt).mono ?_; rintro e w3 ⟨A5, c5, rfl, O5, N5, b3⟩
    have HF := Lib.hid (show marO (r : Int) (c : Int) l (colM p (col : Int) 1) = marO (r : Int) (c : Int) l (col : Int) from rfl)
    have hok := flG_okE (numL c l) r c r 0 l col 0 [] hlt
    have hok' : okE c ((marO (r : Int) (c : Int) l (col : Int)).e, (marO (r : Int) (c : Int) l (col : Int)).row, (marO (r : Int) (c : Int) l (col : Int)).col) := hok
    clear hok
    generalize marO (r : Int) (c : Int) l (col : Int) = F at *
    clear X0k0 X0k1 X0k2
    have hn0 : New w A5 := fun a ha => Nat.le_trans hs (N5 a ha)
    have h4l := Y4.lt
    replace X0 := X0.below b3 X0.lt
    replace X1 := X1.below b3 X1.lt
    replace X2 := X2.below b3 X2.lt
    replace Y4 := Y4.below b3 Y4.lt
    replace B0 := B0.trans (b3.mono hs)
    have hs3 := b3.size
    clear b3 N5 hs
    obtain ⟨fe, fr, fc, fl, fw⟩ := F
    go_upto_region 8 with (fail)
    obtain ⟨v6, hv6⟩ : ∃ v6, v6 = (w3.alloc (.cells #[.int .i64 fe, .int .i64 fr, .int .i64 fc] 59)).alloc (.cells #[.int .i64 (r : Int), .int .i64 (c : Int), .slice A5 l.length c5] 39) := ⟨_, rfl⟩
    have Xf : Whole v6 w3.heap.size 59 [.int .i64 fe, .int .i64 fr, .int .i64 fc] := by rw [hv6]; exact newW.alloc _
    have Xb : Whole v6 (w3.heap.size + 1) 39 [.int .i64 (r : Int), .int .i64 (c : Int), .slice A5 l.length c5] := by rw [hv6]; exact newW1
    have b6 : Below w3.heap.size w3 v6 := by rw [hv6]; exact ((Below.refl _ _).alloc (Nat.le_refl _) _).alloc (by rw [World.size_alloc]; omega) _
    rewrite [← hv6]
    clear hv6
    have h4l3 := Y4.lt
    replace X0 := X0.below b6 X0.lt
    replace X1 := X1.below b6 X1.lt
    replace X2 := X2.below b6 X2.lt
    replace Y4 := Y4.below b6 Y4.lt
    replace O5 := O5.keep b6
    replace B0 := B0.trans (b6.mono B0.size)
    clear b6
    generalize w3.heap.size = gf at *
    have h4l := Y4.lt
    have hfl := Xf.lt
    have hbl2 := Xb.lt
    have hy := X0.lt
    have Xbk0 : v6.cell? ⟨gf + 1, 0, none⟩ = some (.int .i64 (r : Int)) := (Xb.cell 0).trans rfl; have Xbk1 : v6.cell? ⟨gf + 1, 1, none⟩ = some (.int .i64 (c : Int)) := (Xb.cell 1).trans rfl; have Xbk2 : v6.cell? ⟨gf + 1, 2, none⟩ = some (.slice A5 l.length c5) := (Xb.cell 2).trans rfl
    have Y4k0 : v6.cell? ⟨g4, 0, none⟩ = some (.int .i64 (r : Int)) := (Y4.cell 0).trans rfl; have Y4k1 : v6.cell? ⟨g4, 1, none⟩ = some (.int .i64 (c : Int)) := (Y4.cell 1).trans rfl; have Y4k2 : v6.cell? ⟨g4, 2, none⟩ = some (.slice (some ⟨b, o, none⟩) l.length cap) := (Y4.cell 2).trans rfl; have Y4k3 : v6.cell? ⟨g4, 3, none⟩ = some (.int .i64 p) := (Y4.cell 3).trans rfl; have Y4k4 : v6.cell? ⟨g4, 4, none⟩ = some (.int .i64 (col : Int)) := (Y4.cell 4).trans rfl; have Y4k5 : v6.cell? ⟨g4, 5, none⟩ = some (.int .i64 bl) := (Y4.cell 5).trans rfl
    have Y4k6 : v6.cell? ⟨g4, 6, none⟩ = some (.int .i64 (rd - 1)) := (Y4.cell 6).trans rfl; have Y4k7 : v6.cell? ⟨g4, 7, none⟩ = some (.int .i64 1) := (Y4.cell 7).trans rfl
    have Y4f0 := Y4.frozen 0; have Y4f1 := Y4.frozen 1; have Y4f2 := Y4.frozen 2; have Y4f3 := Y4.frozen 3; have Y4f4 := Y4.frozen 4; have Y4f5 := Y4.frozen 5; have Y4f6 := Y4.frozen 6; have Y4f7 := Y4.frozen 7
    have n4b : g4 ≠ gf + 1 := by omega
    have n4f : g4 ≠ gf := by omega
    have n40 : g4 ≠ w.heap.size := by omega
    have n41 : g4 ≠ w.heap.size + 1 := by omega
    have n42 : g4 ≠ w.heap.size + 1 + 1 := by omega
    go_upto_region 10 with (fail)
    obtain ⟨v7, hv7⟩ : ∃ v7, v7 = (((v6.setCell ⟨g4, 0, none⟩ (.int .i64 (r : Int))).setCell ⟨g4, 1, none⟩ (.int .i64 (c : Int))).setCell ⟨g4, 2, none⟩ (.slice A5 l.length c5)).setCell ⟨g4, 7, none⟩ (.int .i64 2) := ⟨_, rfl⟩
    have Z4 : Whole v7 g4 41 [.int .i64 (r : Int), .int .i64 (c : Int), .slice A5 l.length c5, .int .i64 p, .int .i64 (col : Int), .int .i64 bl, .int .i64 (rd - 1), .int .i64 2] := by rw [hv7]; exact (((Y4.set 0 (.int .i64 (r : Int))).set 1 (.int .i64 (c : Int))).set 2 (.slice A5 l.length c5)).set 7 (.int .i64 2)
    replace X0 : Whole v7 w.heap.size 41 [.int .i64 (r : Int), .int .i64 (c : Int), .slice (some ⟨b, o, none⟩) l.length cap, .int .i64 p, .int .i64 (col : Int), .int .i64 bl, .int .i64 rd, .int .i64 1] := by rw [hv7]; exact (three_far X0 n40).set_far _ _ n40
    replace X1 : Whole v7 (w.heap.size + 1) 41 [.int .i64 0, .int .i64 0, .slice none 0 0, .int .i64 0, .int .i64 0, .int .i64 0, .int .i64 0, .int .i64 0] := by rw [hv7]; exact (three_far X1 n41).set_far _ _ n41
    replace X2 : Whole v7 (w.heap.size + 1 + 1) 59 [.int .i64 0, .int .i64 0, .int .i64 0] := by rw [hv7]; exact (three_far X2 n42).set_far _ _ n42
    replace Xf : Whole v7 gf 59 [.int .i64 fe, .int .i64 fr, .int .i64 fc] := by rw [hv7]; exact (three_far Xf n4f).set_far _ _ n4f
    replace O5 : Own v7 A5 104 (flat fl) := by
      rw [hv7]
      exact ((((O5.set_far2 _ _ (fun hx a ha => (own_apart O5 Y4 (by decide) hx ha).symm)).set_far2 _ _ (fun hx a ha => (own_apart O5 Y4 (by decide) hx ha).symm)).set_far2 _ _ (fun hx a ha => (own_apart O5 Y4 (by decide) hx ha).symm)).set_far2 _ _ (fun hx a ha => (own_apart O5 Y4 (by decide) hx ha).symm))
    replace B0 : Below w.heap.size w v7 := by rw [hv7]; exact (((B0.setCell (p := ⟨g4, 0, none⟩) (by show w.heap.size ≤ g4; omega) _).setCell (p := ⟨g4, 1, none⟩) (by show w.heap.size ≤ g4; omega) _).setCell (p := ⟨g4, 2, none⟩) (by show w.heap.size ≤ g4; omega) _).setCell (p := ⟨g4, 7, none⟩) (by show w.heap.size ≤ g4; omega) _
    clear Xbk0 Xbk1 Xbk2
    clear Y4k0 Y4k1 Y4k2 Y4k3 Y4k4 Y4k5 Y4k6 Y4k7
    clear Y4f0 Y4f1 Y4f2 Y4f3 Y4f4 Y4f5 Y4f6 Y4f7
    rewrite [← hv7]
    clear hv7 Y4 Xb hbl2 n4b h4l hfl hy
    have h4l := Z4.lt
    have hfl := Xf.lt
    have hy := X0.lt
    by_cases hE : fe = 1
    · subst hE
      obtain ⟨hcb1, hcb2⟩ : 0 ≤ fc ∧ fc < (c : Int) := by
        rcases hok' with h | h | h
        · exact h.2
        · have h2 : (1 : Int) = 2 := h; omega
        · have h2 : (1 : Int) = 3 := h; omega
      have m2 : IntKind.i64.wrap (2 * fc) = 2 * fc := IntWalk.i64_in _ (by omega)
      clear hok'
      have Xfk0 : v7.cell? ⟨gf, 0, none⟩ = some (.int .i64 1) := (Xf.cell 0).trans rfl
      have Xfk2 : v7.cell? ⟨gf, 2, none⟩ = some (.int .i64 fc) := (Xf.cell 2).trans rfl
      have X0k1 : v7.cell? ⟨w.heap.size, 1, none⟩ = some (.int .i64 (c : Int)) := (X0.cell 1).trans rfl
      have Z4f7 := Z4.frozen 7
      have Z4k7 : v7.cell? ⟨g4, 7, none⟩ = some (.int .i64 2) := (Z4.cell 7).trans rfl
      by_cases hh : 2 * fc < (c : Int)
      · have HN := Lib.hid (show nextM (c : Int) ⟨1, fr, fc, fl, fw⟩ = 0 by unfold nextM; rw [if_pos rfl, if_pos hh])
        go_upto_region 14 with (fail)
        have ZW : Whole ((v7.setCell ⟨g4, 7, none⟩ (.int .i64 1)).setCell ⟨g4, 7, none⟩ (.int .i64 0)) g4 41 [.int .i64 (r : Int), .int .i64 (c : Int), .slice A5 l.length c5, .int .i64 p, .int .i64 (col : Int), .int .i64 bl, .int .i64 (rd - 1), .int .i64 0] := (Z4.set 7 (.int .i64 1)).set 7 (.int .i64 0)
        obtain ⟨v8, hv8⟩ : ∃ v8, v8 = (v7.setCell ⟨g4, 7, none⟩ (.int .i64 1)).setCell ⟨g4, 7, none⟩ (.int .i64 0) := ⟨_, rfl⟩
        rw [← hv8] at ZW
        replace X1 : Whole v8 (w.heap.size + 1) 41 [.int .i64 0, .int .i64 0, .slice none 0 0, .int .i64 0, .int .i64 0, .int .i64 0, .int .i64 0, .int .i64 0] := by rw [hv8]; exact ((X1).set_far _ _ n41).set_far _ _ n41
        replace X2 : Whole v8 (w.heap.size + 1 + 1) 59 [.int .i64 0, .int .i64 0, .int .i64 0] := by rw [hv8]; exact ((X2).set_far _ _ n42).set_far _ _ n42
        replace Xf : Whole v8 gf 59 [.int .i64 1, .int .i64 fr, .int .i64 fc] := by rw [hv8]; exact ((Xf).set_far _ _ n4f).set_far _ _ n4f
        replace O5 : Own v8 A5 104 (flat fl) := by rw [hv8]; exact ((O5.set_far2 _ _ (fun hx a ha => (own_apart O5 Z4 (by decide) hx ha).symm)).set_far2 _ _ (fun hx a ha => (own_apart O5 Z4 (by decide) hx ha).symm))
        replace B0 : Below w.heap.size w v8 := by rw [hv8]; exact ((B0.setCell (p := ⟨g4, 7, none⟩) (by show w.heap.size ≤ g4; omega) _).setCell (p := ⟨g4, 7, none⟩) (by show w.heap.size ≤ g4; omega) _)
        clear Xfk0 Xfk2 X0k1 Z4f7 Z4k7
        rewrite [← hv8]
        clear hv8 Z4 X0 h4l hfl hy
        have h4l := ZW.lt
        have hfl := Xf.lt
        have h1l := X1.lt
        have h2l := X2.lt
        have ZWk0 : v8.cell? ⟨g4, 0, none⟩ = some (.int .i64 (r : Int)) := (ZW.cell 0).trans rfl; have ZWk1 : v8.cell? ⟨g4, 1, none⟩ = some (.int .i64 (c : Int)) := (ZW.cell 1).trans rfl; have ZWk2 : v8.cell? ⟨g4, 2, none⟩ = some (.slice A5 l.length c5) := (ZW.cell 2).trans rfl; have ZWk3 : v8.cell? ⟨g4, 3, none⟩ = some (.int .i64 p) := (ZW.cell 3).trans rfl; have ZWk4 : v8.cell? ⟨g4, 4, none⟩ = some (.int .i64 (col : Int)) := (ZW.cell 4).trans rfl; have ZWk5 : v8.cell? ⟨g4, 5, none⟩ = some (.int .i64 bl) := (ZW.cell 5).trans rfl
        have ZWk6 : v8.cell? ⟨g4, 6, none⟩ = some (.int .i64 (rd - 1)) := (ZW.cell 6).trans rfl; have ZWk7 : v8.cell? ⟨g4, 7, none⟩ = some (.int .i64 0) := (ZW.cell 7).trans rfl
        have X1k0 : v8.cell? ⟨w.heap.size + 1, 0, none⟩ = some (.int .i64 0) := (X1.cell 0).trans rfl; have X1k1 : v8.cell? ⟨w.heap.size + 1, 1, none⟩ = some (.int .i64 0) := (X1.cell 1).trans rfl; have X1k2 : v8.cell? ⟨w.heap.size + 1, 2, none⟩ = some (.slice none 0 0) := (X1.cell 2).trans rfl; have X1k3 : v8.cell? ⟨w.heap.size + 1, 3, none⟩ = some (.int .i64 0) := (X1.cell 3).trans rfl; have X1k4 : v8.cell? ⟨w.heap.size + 1, 4, none⟩ = some (.int .i64 0) := (X1.cell 4).trans rfl; have X1k5 : v8.cell? ⟨w.heap.size + 1, 5, none⟩ = some (.int .i64 0) := (X1.cell 5).trans rfl
        have X1k6 : v8.cell? ⟨w.heap.size + 1, 6, none⟩ = some (.int .i64 0) := (X1.cell 6).trans rfl; have X1k7 : v8.cell? ⟨w.heap.size + 1, 7, none⟩ = some (.int .i64 0) := (X1.cell 7).trans rfl
        have X1f0 := X1.frozen 0; have X1f1 := X1.frozen 1; have X1f2 := X1.frozen 2; have X1f3 := X1.frozen 3; have X1f4 := X1.frozen 4; have X1f5 := X1.frozen 5; have X1f6 := X1.frozen 6; have X1f7 := X1.frozen 7
        have X2k0 : v8.cell? ⟨w.heap.size + 1 + 1, 0, none⟩ = some (.int .i64 0) := (X2.cell 0).trans rfl; have X2k1 : v8.cell? ⟨w.heap.size + 1 + 1, 1, none⟩ = some (.int .i64 0) := (X2.cell 1).trans rfl; have X2k2 : v8.cell? ⟨w.heap.size + 1 + 1, 2, none⟩ = some (.int .i64 0) := (X2.cell 2).trans rfl
        have X2f0 := X2.frozen 0; have X2f1 := X2.frozen 1; have X2f2 := X2.frozen 2
        have Xfk0 : v8.cell? ⟨gf, 0, none⟩ = some (.int .i64 1) := (Xf.cell 0).trans rfl; have Xfk1 : v8.cell? ⟨gf, 1, none⟩ = some (.int .i64 fr) := (Xf.cell 1).trans rfl; have Xfk2 : v8.cell? ⟨gf, 2, none⟩ = some (.int .i64 fc) := (Xf.cell 2).trans rfl
        go_region
        go_wp2
        rewrite [mset_fold]
        obtain ⟨v9, hv9⟩ : ∃ v9, v9 = ((((mset v8 (w.heap.size + 1) (.int .i64 (r : Int)) (.int .i64 (c : Int)) (.slice A5 l.length c5) (.int .i64 p) (.int .i64 (col : Int)) (.int .i64 bl) (.int .i64 (rd - 1)) (.int .i64 0)).setCell ⟨w.heap.size + 1 + 1, 0, none⟩ (.int .i64 1)).setCell ⟨w.heap.size + 1 + 1, 1, none⟩ (.int .i64 fr)).setCell ⟨w.heap.size + 1 + 1, 2, none⟩ (.int .i64 fc)).drew := ⟨_, rfl⟩
        have Z1 : Whole v9 (w.heap.size + 1) 41 [.int .i64 (r : Int), .int .i64 (c : Int), .slice A5 l.length c5, .int .i64 p, .int .i64 (col : Int), .int .i64 bl, .int .i64 (rd - 1), .int .i64 0] := by rw [hv9]; exact whole_drew (three_far (X1.mset _ _ _ _ _ _ _ _) n21)
        have Z2 : Whole v9 (w.heap.size + 1 + 1) 59 [.int .i64 1, .int .i64 fr, .int .i64 fc] := by rw [hv9]; exact whole_drew (whole_three (X2.mset_far n12))
        have O9 : Own v9 A5 104 (flat fl) := by rw [hv9]; exact own_drew (own_three (own_mset O5 X1 (by decide)) (X2.mset_far n12) (by decide))
        have B9 : Below w.heap.size w v9 := by rw [hv9]; exact ((((below_mset B0 (by omega)).setCell (p := ⟨w.heap.size + 1 + 1, 0, none⟩) (by show w.heap.size ≤ w.heap.size + 1 + 1; omega) _).setCell (p := ⟨w.heap.size + 1 + 1, 1, none⟩) (by show w.heap.size ≤ w.heap.size + 1 + 1; omega) _).setCell (p := ⟨w.heap.size + 1 + 1, 2, none⟩) (by show w.heap.size ≤ w.heap.size + 1 + 1; omega) _).drew
        rewrite [← hv9]
        clear ZWk0 ZWk1 ZWk2 ZWk3 ZWk4 ZWk5 ZWk6 ZWk7
        clear X1k0 X1k1 X1k2 X1k3 X1k4 X1k5 X1k6 X1k7
        clear X2k0 X2k1 X2k2
        clear X1f0 X1f1 X1f2 X1f3 X1f4 X1f5 X1f6 X1f7 X2f0 X2f1 X2f2 Xfk0 Xfk1 Xfk2 hv9 X1 X2 O5 B0 Xf ZW
        have Z1k0 : v9.cell? ⟨w.heap.size + 1, 0, none⟩ = some (.int .i64 (r : Int)) := (Z1.cell 0).trans rfl; have Z1k1 : v9.cell? ⟨w.heap.size + 1, 1, none⟩ = some (.int .i64 (c : Int)) := (Z1.cell 1).trans rfl; have Z1k2 : v9.cell? ⟨w.heap.size + 1, 2, none⟩ = some (.slice A5 l.length c5) := (Z1.cell 2).trans rfl; have Z1k3 : v9.cell? ⟨w.heap.size + 1, 3, none⟩ = some (.int .i64 p) := (Z1.cell 3).trans rfl; have Z1k4 : v9.cell? ⟨w.heap.size + 1, 4, none⟩ = some (.int .i64 (col : Int)) := (Z1.cell 4).trans rfl; have Z1k5 : v9.cell? ⟨w.heap.size + 1, 5, none⟩ = some (.int .i64 bl) := (Z1.cell 5).trans rfl
        have Z1k6 : v9.cell? ⟨w.heap.size + 1, 6, none⟩ = some (.int .i64 (rd - 1)) := (Z1.cell 6).trans rfl; have Z1k7 : v9.cell? ⟨w.heap.size + 1, 7, none⟩ = some (.int .i64 0) := (Z1.cell 7).trans rfl
        have Z2k0 : v9.cell? ⟨w.heap.size + 1 + 1, 0, none⟩ = some (.int .i64 1) := (Z2.cell 0).trans rfl; have Z2k1 : v9.cell? ⟨w.heap.size + 1 + 1, 1, none⟩ = some (.int .i64 fr) := (Z2.cell 1).trans rfl; have Z2k2 : v9.cell? ⟨w.heap.size + 1 + 1, 2, none⟩ = some (.int .i64 fc) := (Z2.cell 2).trans rfl
        refine bodyPost_ret (v := .tuple #[.agg #[.int .i64 (r : Int), .int .i64 (c : Int), .slice A5 l.length c5, .int .i64 p, .int .i64 (col : Int), .int .i64 bl, .int .i64 (rd - 1), .int .i64 0], .agg #[.int .i64 1, .int .i64 fr, .int .i64 fc]]) ?_ rfl ?_; (focus (simp [results, Try.results65, go_sem, *]; done))
        rewrite [HF.out, HN.out]
        exact ⟨A5, c5, rfl, O9, hn0, B9⟩
      · have HN := Lib.hid (show nextM (c : Int) ⟨1, fr, fc, fl, fw⟩ = 1 by unfold nextM; rw [if_pos rfl, if_neg hh])
        go_upto_region 14 with (fail)
        have ZW : Whole (v7.setCell ⟨g4, 7, none⟩ (.int .i64 1)) g4 41 [.int .i64 (r : Int), .int .i64 (c : Int), .slice A5 l.length c5, .int .i64 p, .int .i64 (col : Int), .int .i64 bl, .int .i64 (rd - 1), .int .i64 1] := Z4.set 7 (.int .i64 1)
        obtain ⟨v8, hv8⟩ : ∃ v8, v8 = v7.setCell ⟨g4, 7, none⟩ (.int .i64 1) := ⟨_, rfl⟩
        rw [← hv8] at ZW
        replace X1 : Whole v8 (w.heap.size + 1) 41 [.int .i64 0, .int .i64 0, .slice none 0 0, .int .i64 0, .int .i64 0, .int .i64 0, .int .i64 0, .int .i64 0] := by rw [hv8]; exact (X1).set_far _ _ n41
        replace X2 : Whole v8 (w.heap.size + 1 + 1) 59 [.int .i64 0, .int .i64 0, .int .i64 0] := by rw [hv8]; exact (X2).set_far _ _ n42
        replace Xf : Whole v8 gf 59 [.int .i64 1, .int .i64 fr, .int .i64 fc] := by rw [hv8]; exact (Xf).set_far _ _ n4f
        replace O5 : Own v8 A5 104 (flat fl) := by rw [hv8]; exact (O5.set_far2 _ _ (fun hx a ha => (own_apart O5 Z4 (by decide) hx ha).symm))
        replace B0 : Below w.heap.size w v8 := by rw [hv8]; exact (B0.setCell (p := ⟨g4, 7, none⟩) (by show w.heap.size ≤ g4; omega) _)
        clear Xfk0 Xfk2 X0k1 Z4f7 Z4k7
        rewrite [← hv8]
        clear hv8 Z4 X0 h4l hfl hy
        have h4l := ZW.lt
        have hfl := Xf.lt
        have h1l := X1.lt
        have h2l := X2.lt
        have ZWk0 : v8.cell? ⟨g4, 0, none⟩ = some (.int .i64 (r : Int)) := (ZW.cell 0).trans rfl; have ZWk1 : v8.cell? ⟨g4, 1, none⟩ = some (.int .i64 (c : Int)) := (ZW.cell 1).trans rfl; have ZWk2 : v8.cell? ⟨g4, 2, none⟩ = some (.slice A5 l.length c5) := (ZW.cell 2).trans rfl; have ZWk3 : v8.cell? ⟨g4, 3, none⟩ = some (.int .i64 p) := (ZW.cell 3).trans rfl; have ZWk4 : v8.cell? ⟨g4, 4, none⟩ = some (.int .i64 (col : Int)) := (ZW.cell 4).trans rfl; have ZWk5 : v8.cell? ⟨g4, 5, none⟩ = some (.int .i64 bl) := (ZW.cell 5).trans rfl
        have ZWk6 : v8.cell? ⟨g4, 6, none⟩ = some (.int .i64 (rd - 1)) := (ZW.cell 6).trans rfl; have ZWk7 : v8.cell? ⟨g4, 7, none⟩ = some (.int .i64 1) := (ZW.cell 7).trans rfl
        have X1k0 : v8.cell? ⟨w.heap.size + 1, 0, none⟩ = some (.int .i64 0) := (X1.cell 0).trans rfl; have X1k1 : v8.cell? ⟨w.heap.size + 1, 1, none⟩ = some (.int .i64 0) := (X1.cell 1).trans rfl; have X1k2 : v8.cell? ⟨w.heap.size + 1, 2, none⟩ = some (.slice none 0 0) := (X1.cell 2).trans rfl; have X1k3 : v8.cell? ⟨w.heap.size + 1, 3, none⟩ = some (.int .i64 0) := (X1.cell 3).trans rfl; have X1k4 : v8.cell? ⟨w.heap.size + 1, 4, none⟩ = some (.int .i64 0) := (X1.cell 4).trans rfl; have X1k5 : v8.cell? ⟨w.heap.size + 1, 5, none⟩ = some (.int .i64 0) := (X1.cell 5).trans rfl
        have X1k6 : v8.cell? ⟨w.heap.size + 1, 6, none⟩ = some (.int .i64 0) := (X1.cell 6).trans rfl; have X1k7 : v8.cell? ⟨w.heap.size + 1, 7, none⟩ = some (.int .i64 0) := (X1.cell 7).trans rfl
        have X1f0 := X1.frozen 0; have X1f1 := X1.frozen 1; have X1f2 := X1.frozen 2; have X1f3 := X1.frozen 3; have X1f4 := X1.frozen 4; have X1f5 := X1.frozen 5; have X1f6 := X1.frozen 6; have X1f7 := X1.frozen 7
        have X2k0 : v8.cell? ⟨w.heap.size + 1 + 1, 0, none⟩ = some (.int .i64 0) := (X2.cell 0).trans rfl; have X2k1 : v8.cell? ⟨w.heap.size + 1 + 1, 1, none⟩ = some (.int .i64 0) := (X2.cell 1).trans rfl; have X2k2 : v8.cell? ⟨w.heap.size + 1 + 1, 2, none⟩ = some (.int .i64 0) := (X2.cell 2).trans rfl
        have X2f0 := X2.frozen 0; have X2f1 := X2.frozen 1; have X2f2 := X2.frozen 2
        have Xfk0 : v8.cell? ⟨gf, 0, none⟩ = some (.int .i64 1) := (Xf.cell 0).trans rfl; have Xfk1 : v8.cell? ⟨gf, 1, none⟩ = some (.int .i64 fr) := (Xf.cell 1).trans rfl; have Xfk2 : v8.cell? ⟨gf, 2, none⟩ = some (.int .i64 fc) := (Xf.cell 2).trans rfl
        go_region
        go_wp2
        rewrite [mset_fold]
        obtain ⟨v9, hv9⟩ : ∃ v9, v9 = ((((mset v8 (w.heap.size + 1) (.int .i64 (r : Int)) (.int .i64 (c : Int)) (.slice A5 l.length c5) (.int .i64 p) (.int .i64 (col : Int)) (.int .i64 bl) (.int .i64 (rd - 1)) (.int .i64 1)).setCell ⟨w.heap.size + 1 + 1, 0, none⟩ (.int .i64 1)).setCell ⟨w.heap.size + 1 + 1, 1, none⟩ (.int .i64 fr)).setCell ⟨w.heap.size + 1 + 1, 2, none⟩ (.int .i64 fc)).drew := ⟨_, rfl⟩
        have Z1 : Whole v9 (w.heap.size + 1) 41 [.int .i64 (r : Int), .int .i64 (c : Int), .slice A5 l.length c5, .int .i64 p, .int .i64 (col : Int), .int .i64 bl, .int .i64 (rd - 1), .int .i64 1] := by rw [hv9]; exact whole_drew (three_far (X1.mset _ _ _ _ _ _ _ _) n21)
        have Z2 : Whole v9 (w.heap.size + 1 + 1) 59 [.int .i64 1, .int .i64 fr, .int .i64 fc] := by rw [hv9]; exact whole_drew (whole_three (X2.mset_far n12))
        have O9 : Own v9 A5 104 (flat fl) := by rw [hv9]; exact own_drew (own_three (own_mset O5 X1 (by decide)) (X2.mset_far n12) (by decide))
        have B9 : Below w.heap.size w v9 := by rw [hv9]; exact ((((below_mset B0 (by omega)).setCell (p := ⟨w.heap.size + 1 + 1, 0, none⟩) (by show w.heap.size ≤ w.heap.size + 1 + 1; omega) _).setCell (p := ⟨w.heap.size + 1 + 1, 1, none⟩) (by show w.heap.size ≤ w.heap.size + 1 + 1; omega) _).setCell (p := ⟨w.heap.size + 1 + 1, 2, none⟩) (by show w.heap.size ≤ w.heap.size + 1 + 1; omega) _).drew
        rewrite [← hv9]
        clear ZWk0 ZWk1 ZWk2 ZWk3 ZWk4 ZWk5 ZWk6 ZWk7
        clear X1k0 X1k1 X1k2 X1k3 X1k4 X1k5 X1k6 X1k7
        clear X2k0 X2k1 X2k2
        clear X1f0 X1f1 X1f2 X1f3 X1f4 X1f5 X1f6 X1f7 X2f0 X2f1 X2f2 Xfk0 Xfk1 Xfk2 hv9 X1 X2 O5 B0 Xf ZW
        have Z1k0 : v9.cell? ⟨w.heap.size + 1, 0, none⟩ = some (.int .i64 (r : Int)) := (Z1.cell 0).trans rfl; have Z1k1 : v9.cell? ⟨w.heap.size + 1, 1, none⟩ = some (.int .i64 (c : Int)) := (Z1.cell 1).trans rfl; have Z1k2 : v9.cell? ⟨w.heap.size + 1, 2, none⟩ = some (.slice A5 l.length c5) := (Z1.cell 2).trans rfl; have Z1k3 : v9.cell? ⟨w.heap.size + 1, 3, none⟩ = some (.int .i64 p) := (Z1.cell 3).trans rfl; have Z1k4 : v9.cell? ⟨w.heap.size + 1, 4, none⟩ = some (.int .i64 (col : Int)) := (Z1.cell 4).trans rfl; have Z1k5 : v9.cell? ⟨w.heap.size + 1, 5, none⟩ = some (.int .i64 bl) := (Z1.cell 5).trans rfl
        have Z1k6 : v9.cell? ⟨w.heap.size + 1, 6, none⟩ = some (.int .i64 (rd - 1)) := (Z1.cell 6).trans rfl; have Z1k7 : v9.cell? ⟨w.heap.size + 1, 7, none⟩ = some (.int .i64 1) := (Z1.cell 7).trans rfl
        have Z2k0 : v9.cell? ⟨w.heap.size + 1 + 1, 0, none⟩ = some (.int .i64 1) := (Z2.cell 0).trans rfl; have Z2k1 : v9.cell? ⟨w.heap.size + 1 + 1, 1, none⟩ = some (.int .i64 fr) := (Z2.cell 1).trans rfl; have Z2k2 : v9.cell? ⟨w.heap.size + 1 + 1, 2, none⟩ = some (.int .i64 fc) := (Z2.cell 2).trans rfl
        refine bodyPost_ret (v := .tuple #[.agg #[.int .i64 (r : Int), .int .i64 (c : Int), .slice A5 l.length c5, .int .i64 p, .int .i64 (col : Int), .int .i64 bl, .int .i64 (rd - 1), .int .i64 1], .agg #[.int .i64 1, .int .i64 fr, .int .i64 fc]]) ?_ rfl ?_; (focus (simp [results, Try.results65, go_sem, *]; done))
        rewrite [HF.out, HN.out]
        exact ⟨A5, c5, rfl, O9, hn0, B9⟩
    · have hb1 : (fe == 1) = false := by simpa using hE
      have HN := Lib.hid (show nextM (c : Int) ⟨fe, fr, fc, fl, fw⟩ = 2 by unfold nextM; rw [if_neg hE])
      clear hok'
      have Xfk0 : v7.cell? ⟨gf, 0, none⟩ = some (.int .i64 fe) := (Xf.cell 0).trans rfl
      go_upto_region 14 with (fail)
      have ZW := Z4
      obtain ⟨v8, hv8⟩ : ∃ v8, v8 = v7 := ⟨_, rfl⟩
      rw [← hv8] at ZW
      replace X1 : Whole v8 (w.heap.size + 1) 41 [.int .i64 0, .int .i64 0, .slice none 0 0, .int .i64 0, .int .i64 0, .int .i64 0, .int .i64 0, .int .i64 0] := by rw [hv8]; exact X1
      replace X2 : Whole v8 (w.heap.size + 1 + 1) 59 [.int .i64 0, .int .i64 0, .int .i64 0] := by rw [hv8]; exact X2
      replace Xf : Whole v8 gf 59 [.int .i64 fe, .int .i64 fr, .int .i64 fc] := by rw [hv8]; exact Xf
      replace O5 : Own v8 A5 104 (flat fl) := by rw [hv8]; exact O5
      replace B0 : Below w.heap.size w v8 := by rw [hv8]; exact B0
      clear Xfk0 
      rewrite [show v7 = v8 from hv8.symm]
      clear hv8 Z4 X0 h4l hfl hy
      have h4l := ZW.lt
      have hfl := Xf.lt
      have h1l := X1.lt
      have h2l := X2.lt
      have ZWk0 : v8.cell? ⟨g4, 0, none⟩ = some (.int .i64 (r : Int)) := (ZW.cell 0).trans rfl; have ZWk1 : v8.cell? ⟨g4, 1, none⟩ = some (.int .i64 (c : Int)) := (ZW.cell 1).trans rfl; have ZWk2 : v8.cell? ⟨g4, 2, none⟩ = some (.slice A5 l.length c5) := (ZW.cell 2).trans rfl; have ZWk3 : v8.cell? ⟨g4, 3, none⟩ = some (.int .i64 p) := (ZW.cell 3).trans rfl; have ZWk4 : v8.cell? ⟨g4, 4, none⟩ = some (.int .i64 (col : Int)) := (ZW.cell 4).trans rfl; have ZWk5 : v8.cell? ⟨g4, 5, none⟩ = some (.int .i64 bl) := (ZW.cell 5).trans rfl
      have ZWk6 : v8.cell? ⟨g4, 6, none⟩ = some (.int .i64 (rd - 1)) := (ZW.cell 6).trans rfl; have ZWk7 : v8.cell? ⟨g4, 7, none⟩ = some (.int .i64 2) := (ZW.cell 7).trans rfl
      have X1k0 : v8.cell? ⟨w.heap.size + 1, 0, none⟩ = some (.int .i64 0) := (X1.cell 0).trans rfl; have X1k1 : v8.cell? ⟨w.heap.size + 1, 1, none⟩ = some (.int .i64 0) := (X1.cell 1).trans rfl; have X1k2 : v8.cell? ⟨w.heap.size + 1, 2, none⟩ = some (.slice none 0 0) := (X1.cell 2).trans rfl; have X1k3 : v8.cell? ⟨w.heap.size + 1, 3, none⟩ = some (.int .i64 0) := (X1.cell 3).trans rfl; have X1k4 : v8.cell? ⟨w.heap.size + 1, 4, none⟩ = some (.int .i64 0) := (X1.cell 4).trans rfl; have X1k5 : v8.cell? ⟨w.heap.size + 1, 5, none⟩ = some (.int .i64 0) := (X1.cell 5).trans rfl
      have X1k6 : v8.cell? ⟨w.heap.size + 1, 6, none⟩ = some (.int .i64 0) := (X1.cell 6).trans rfl; have X1k7 : v8.cell? ⟨w.heap.size + 1, 7, none⟩ = some (.int .i64 0) := (X1.cell 7).trans rfl
      have X1f0 := X1.frozen 0; have X1f1 := X1.frozen 1; have X1f2 := X1.frozen 2; have X1f3 := X1.frozen 3; have X1f4 := X1.frozen 4; have X1f5 := X1.frozen 5; have X1f6 := X1.frozen 6; have X1f7 := X1.frozen 7
      have X2k0 : v8.cell? ⟨w.heap.size + 1 + 1, 0, none⟩ = some (.int .i64 0) := (X2.cell 0).trans rfl; have X2k1 : v8.cell? ⟨w.heap.size + 1 + 1, 1, none⟩ = some (.int .i64 0) := (X2.cell 1).trans rfl; have X2k2 : v8.cell? ⟨w.heap.size + 1 + 1, 2, none⟩ = some (.int .i64 0) := (X2.cell 2).trans rfl
      have X2f0 := X2.frozen 0; have X2f1 := X2.frozen 1; have X2f2 := X2.frozen 2
      have Xfk0 : v8.cell? ⟨gf, 0, none⟩ = some (.int .i64 fe) := (Xf.cell 0).trans rfl; have Xfk1 : v8.cell? ⟨gf, 1, none⟩ = some (.int .i64 fr) := (Xf.cell 1).trans rfl; have Xfk2 : v8.cell? ⟨gf, 2, none⟩ = some (.int .i64 fc) := (Xf.cell 2).trans rfl
      go_region
      go_wp2
      rewrite [mset_fold]
      obtain ⟨v9, hv9⟩ : ∃ v9, v9 = ((((mset v8 (w.heap.size + 1) (.int .i64 (r : Int)) (.int .i64 (c : Int)) (.slice A5 l.length c5) (.int .i64 p) (.int .i64 (col : Int)) (.int .i64 bl) (.int .i64 (rd - 1)) (.int .i64 2)).setCell ⟨w.heap.size + 1 + 1, 0, none⟩ (.int .i64 fe)).setCell ⟨w.heap.size + 1 + 1, 1, none⟩ (.int .i64 fr)).setCell ⟨w.heap.size + 1 + 1, 2, none⟩ (.int .i64 fc)).drew := ⟨_, rfl⟩
      have Z1 : Whole v9 (w.heap.size + 1) 41 [.int .i64 (r : Int), .int .i64 (c : Int), .slice A5 l.length c5, .int .i64 p, .int .i64 (col : Int), .int .i64 bl, .int .i64 (rd - 1), .int .i64 2] := by rw [hv9]; exact whole_drew (three_far (X1.mset _ _ _ _ _ _ _ _) n21)
      have Z2 : Whole v9 (w.heap.size + 1 + 1) 59 [.int .i64 fe, .int .i64 fr, .int .i64 fc] := by rw [hv9]; exact whole_drew (whole_three (X2.mset_far n12))
      have O9 : Own v9 A5 104 (flat fl) := by rw [hv9]; exact own_drew (own_three (own_mset O5 X1 (by decide)) (X2.mset_far n12) (by decide))
      have B9 : Below w.heap.size w v9 := by rw [hv9]; exact ((((below_mset B0 (by omega)).setCell (p := ⟨w.heap.size + 1 + 1, 0, none⟩) (by show w.heap.size ≤ w.heap.size + 1 + 1; omega) _).setCell (p := ⟨w.heap.size + 1 + 1, 1, none⟩) (by show w.heap.size ≤ w.heap.size + 1 + 1; omega) _).setCell (p := ⟨w.heap.size + 1 + 1, 2, none⟩) (by show w.heap.size ≤ w.heap.size + 1 + 1; omega) _).drew
      rewrite [← hv9]
      clear ZWk0 ZWk1 ZWk2 ZWk3 ZWk4 ZWk5 ZWk6 ZWk7
      clear X1k0 X1k1 X1k2 X1k3 X1k4 X1k5 X1k6 X1k7
      clear X2k0 X2k1 X2k2
      clear X1f0 X1f1 X1f2 X1f3 X1f4 X1f5 X1f6 X1f7 X2f0 X2f1 X2f2 Xfk0 Xfk1 Xfk2 hv9 X1 X2 O5 B0 Xf ZW
      have Z1k0 : v9.cell? ⟨w.heap.size + 1, 0, none⟩ = some (.int .i64 (r : Int)) := (Z1.cell 0).trans rfl; have Z1k1 : v9.cell? ⟨w.heap.size + 1, 1, none⟩ = some (.int .i64 (c : Int)) := (Z1.cell 1).trans rfl; have Z1k2 : v9.cell? ⟨w.heap.size + 1, 2, none⟩ = some (.slice A5 l.length c5) := (Z1.cell 2).trans rfl; have Z1k3 : v9.cell? ⟨w.heap.size + 1, 3, none⟩ = some (.int .i64 p) := (Z1.cell 3).trans rfl; have Z1k4 : v9.cell? ⟨w.heap.size + 1, 4, none⟩ = some (.int .i64 (col : Int)) := (Z1.cell 4).trans rfl; have Z1k5 : v9.cell? ⟨w.heap.size + 1, 5, none⟩ = some (.int .i64 bl) := (Z1.cell 5).trans rfl
      have Z1k6 : v9.cell? ⟨w.heap.size + 1, 6, none⟩ = some (.int .i64 (rd - 1)) := (Z1.cell 6).trans rfl; have Z1k7 : v9.cell? ⟨w.heap.size + 1, 7, none⟩ = some (.int .i64 2) := (Z1.cell 7).trans rfl
      have Z2k0 : v9.cell? ⟨w.heap.size + 1 + 1, 0, none⟩ = some (.int .i64 fe) := (Z2.cell 0).trans rfl; have Z2k1 : v9.cell? ⟨w.heap.size + 1 + 1, 1, none⟩ = some (.int .i64 fr) := (Z2.cell 1).trans rfl; have Z2k2 : v9.cell? ⟨w.heap.size + 1 + 1, 2, none⟩ = some (.int .i64 fc) := (Z2.cell 2).trans rfl
      refine bodyPost_ret (v := .tuple #[.agg #[.int .i64 (r : Int), .int .i64 (c : Int), .slice A5 l.length c5, .int .i64 p, .int .i64 (col : Int), .int .i64 bl, .int .i64 (rd - 1), .int .i64 2], .agg #[.int .i64 fe, .int .i64 fr, .int .i64 fc]]) ?_ rfl ?_; (focus (simp [results, Try.results65, go_sem, *]; done))
      rewrite [HF.out, HN.out]
      exact ⟨A5, c5, rfl, O9, hn0, B9⟩
end Go.Proofs.Ytlambflmabecfaa
