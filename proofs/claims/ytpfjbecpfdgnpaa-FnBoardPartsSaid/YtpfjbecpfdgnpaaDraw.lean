/- Drawn cells. -/
import Derived.Test.YtpfjbecpfdgnpaaCur
import Derived.Test.YtpfjbecpfdgnpaaRead
namespace Go.Proofs.Ytpfjbecpfdgnpaa
open Go.ChangeShapes Go.WideShapes Go.ChangeAt Go.RowKit Go.Joins Go.Deep
set_option linter.unusedSimpArgs false
set_option linter.unusedVariables false
set_option maxRecDepth 100000
set_option maxHeartbeats 1000000
theorem one_box (w : World) (a : List Value) (ta : TypeId) : ∃ v, w.alloc (.cells a.toArray ta) = v ∧ Whole v w.heap.size ta a ∧ Below w.heap.size w v ∧ v.heap.size = w.heap.size + 1 :=
  ⟨_, rfl, heap_alloc_new w _, (Below.refl _ _).alloc (Nat.le_refl _) _, by rw [World.size_alloc]⟩
theorem Cr.set_far {w : World} {p n g j : Nat} {u : Value} (h : Cr w p n) (hg : p < g) : Cr (w.setCell ⟨g, j, none⟩ u) p n :=
  h.keep (only_setCell (World.grownBy.refl w (some g)) j u) (fun j e => by cases e; exact hg)
theorem Whole.rdI {w : World} {g : Nat} {t : TypeId} {xs : List Value} (h : Whole w g t xs) : Rd w w.heap.size (some ⟨g, 0, none⟩) xs := fun hx =>
  ⟨g, 0, rfl, h.lt, fun j u hu => by rw [Nat.zero_add, h.cell, hu]⟩
theorem Whole.new {w w' : World} {g : Nat} {t : TypeId} {xs : List Value} (h : Whole w g t xs) (hb : Below w.heap.size w w') : Whole w' g t xs := h.below hb h.lt
theorem cell_any (p n : Nat) (w : World) (h : Cr w p n) (hn : n ≤ 1000000) :
    Calls Try.prog 109 #[.pointer (some ⟨p, 0, none⟩)] w fun e w' => ∃ a b : Int, e = .returned (.agg #[.int .i64 a, .int .i64 b]) ∧ good a b = true ∧ Cr w' p (n + 2) ∧ w.grownBy w' (some p) := by
  obtain ⟨v0, hv0, X0, B0, hz0⟩ := one_box w [.int .i64 0, .int .i64 0] 27
  have HV := Lib.hid hv0
  have hp := h.lt
  have hten : (allTo 8).length = 10 := by rfl
  have C0 : Cr v0 p n := h.keep (below_grown (row := none) B0) (by simp)
  have g0 : w.grownBy v0 (some p) := below_grown B0
  clear hv0
  go_enter Try.func109, Try.ntmps109
  go_wp2_with fail
  rewrite [show w.alloc (.cells ([.int .i64 0, .int .i64 0] : List Value).toArray 27) = v0 from HV.out]
  clear HV
  refine (spec_paAll _).mono ?_; rintro e w1 ⟨A, cap, rfl, o1, n1, b1⟩
  have X1 := X0.below b1 X0.lt
  have C1 : Cr w1 p n := C0.keep (below_grown (row := none) b1) (by simp)
  have g1 : w.grownBy w1 (some p) := g0.trans (below_grown b1)
  obtain ⟨b, o, rfl, hb, hc⟩ := o1.rd (by rw [flat_length]; omega)
  have hbn := n1 _ rfl
  clear o1 n1 X0 C0 B0 g0
  go_wp2_with fail; refine (pick_any p n (allTo 8).length _ C1 hn (by omega) (by omega)).mono ?_; rintro e w2 ⟨x, rfl, x0, x1, c2, g2⟩
  obtain ⟨k, rfl⟩ := Int.eq_ofNat_of_zero_le x0
  have hk : k < (allTo 8).length := by omega
  have k0 : w2.cell? ⟨b, o + k * 2, none⟩ = some (.int .i64 (allTo 8)[k].1) := g2.cell (hc _ _ (flat_at _ k hk).1) (by simp; omega)
  have k1 : w2.cell? ⟨b, o + k * 2 + 1, none⟩ = some (.int .i64 (allTo 8)[k].2) := g2.cell (hc _ _ (flat_at _ k hk).2) (by simp; omega)
  have X2 := X1.grownC g2 (by omega)
  have X2k0 : w2.cell? ⟨w.heap.size, 0, none⟩ = some (.int .i64 0) := (X2.cell 0).trans rfl; have X2k1 : w2.cell? ⟨w.heap.size, 1, none⟩ = some (.int .i64 0) := (X2.cell 1).trans rfl
  have f0 := X2.frozen 0
  have f1 := X2.frozen 1
  have hgood := allTo_good _ (List.getElem_mem hk)
  clear hc X1
  go_wp2
  refine bodyPost_ret (v := .agg #[.int .i64 (allTo 8)[k].1, .int .i64 (allTo 8)[k].2]) ?_ rfl ?_; (focus (simp [results, Try.results109, go_sem, *]; done))
  exact ⟨_, _, rfl, hgood, (c2.set_far hp).set_far hp, grown_set_new (grown_set_new (g1.trans g2) (Nat.le_refl _)) (Nat.le_refl _)⟩
theorem good_small {a b : Int} (h : good a b = true) : 0 ≤ a ∧ a ≤ 7 ∧ 0 ≤ b ∧ b ≤ 1 := by
  unfold good at h
  have := of_decide_eq_true h
  omega
theorem anyCell_any (p n : Nat) (w : World) (h : Cr w p n) (hn : n ≤ 900000) :
    Calls Try.prog 68 #[.pointer (some ⟨p, 0, none⟩)] w fun e w' => ∃ a b : Int, e = .returned (.agg #[.int .i64 a, .int .i64 b]) ∧ (-1 ≤ a ∧ a ≤ 8 ∧ -1 ≤ b ∧ b ≤ 2) ∧ Cr w' p (n + 6) ∧ w.grownBy w' (some p) := by
  obtain ⟨v0, hv0, X0, B0, hz0⟩ := one_box w [.int .i64 0, .int .i64 0] 27
  have HV := Lib.hid hv0
  have hp := h.lt
  have C0 : Cr v0 p n := h.keep (below_grown (row := none) B0) (by simp)
  have g0 : w.grownBy v0 (some p) := below_grown B0
  clear hv0
  go_enter Try.func68, Try.ntmps68
  go_wp2_with fail
  rewrite [show w.alloc (.cells ([.int .i64 0, .int .i64 0] : List Value).toArray 27) = v0 from HV.out]
  clear HV
  refine (cell_any p n _ C0 (by omega)).mono ?_; rintro e w1 ⟨a, b, rfl, hgood, c1, g1⟩
  have hsm := good_small hgood
  have X1 := X0.grownC g1 (by omega)
  have g2 := g0.trans g1
  have hz1 : w.heap.size < w1.heap.size := X1.lt
  clear X0 C0 B0 g0 g1
  obtain ⟨v1, hv1, Y0, B1, hz2⟩ := one_box w1 [.int .i64 a, .int .i64 b] 27
  have HV := Lib.hid hv1
  clear hv1
  go_wp2_with fail
  rewrite [show w1.alloc (.cells ([.int .i64 a, .int .i64 b] : List Value).toArray 27) = v1 from HV.out]
  clear HV
  have C1 : Cr v1 p (n + 2) := c1.keep (below_grown (row := none) B1) (by simp)
  have X1 := X1.new B1
  have g2 := g2.trans (below_grown (row := some p) B1)
  refine (pick_any p (n + 2) 20 _ C1 (by omega) (by omega) (by omega)).mono ?_; rintro e w2 ⟨x, rfl, x0, x1, c2, g3⟩
  have X2 := X1.grownC g3 (by omega)
  have Y1 := Y0.grownC g3 (by omega)
  have g4 := g2.trans g3
  have hz3 : w1.heap.size < w2.heap.size := Y1.lt
  clear X1 Y0 C1 B1 g2 g3 c1
  by_cases h0 : x = 0
  · subst h0
    obtain ⟨v3, hv3, Z0, B3, hz4⟩ := one_box w2 (ints [-1, 8]) 3
    have HV := Lib.hid hv3
    clear hv3
    go_wp2_with fail
    rewrite [show w2.alloc (.cells ([.int .i64 (-1), .int .i64 8] : List Value).toArray 3) = v3 from HV.out]
    clear HV
    refine (among_any p (n + 4) (some ⟨w2.heap.size, 0, none⟩) 2 [-1, 8] _ (c2.keep (below_grown (row := none) B3) (by simp)) (by omega) (by decide) (by decide) Z0.rdI (by simp; have := c2.lt; omega)).mono ?_; rintro e w3 ⟨y, rfl, hy, c3, g5⟩
    have g6 := (g4.trans (below_grown B3)).trans g5
    have X3 := (X2.new B3).grownC g5 (by omega); have Y2 := (Y1.new B3).grownC g5 (by omega); clear X2 Y1; have f0 := Y2.frozen 0; have f1 := Y2.frozen 1; have r0 := X3.frozen 0; have r1 := X3.frozen 1; have q0 : w3.cell? ⟨w.heap.size, 0, none⟩ = some (.int .i64 0) := (X3.cell 0).trans rfl; have q1 : w3.cell? ⟨w.heap.size, 1, none⟩ = some (.int .i64 0) := (X3.cell 1).trans rfl; have y0 : w3.cell? ⟨w1.heap.size, 0, none⟩ = some (.int .i64 a) := (Y2.cell 0).trans rfl; have y1 : w3.cell? ⟨w1.heap.size, 1, none⟩ = some (.int .i64 b) := (Y2.cell 1).trans rfl
    go_wp2
    refine bodyPost_ret (v := .agg #[.int .i64 y, .int .i64 b]) ?_ rfl ?_; (focus (simp [results, Try.results68, go_sem, *]; done))
    exact ⟨_, _, rfl, (by simp at hy; omega), (((c3.set_far (by omega)).set_far hp).set_far hp), grown_set_new (grown_set_new (grown_set_new g6 (by omega)) (Nat.le_refl _)) (Nat.le_refl _)⟩
  · by_cases h1 : x = 1
    · subst h1
      obtain ⟨v3, hv3, Z0, B3, hz4⟩ := one_box w2 (ints [-1, 1, 2]) 3
      have HV := Lib.hid hv3
      clear hv3
      go_wp2_with fail
      rewrite [show w2.alloc (.cells ([.int .i64 (-1), .int .i64 1, .int .i64 2] : List Value).toArray 3) = v3 from HV.out]
      clear HV
      refine (among_any p (n + 4) (some ⟨w2.heap.size, 0, none⟩) 3 [-1, 1, 2] _ (c2.keep (below_grown (row := none) B3) (by simp)) (by omega) (by decide) (by decide) Z0.rdI (by simp; have := c2.lt; omega)).mono ?_; rintro e w3 ⟨y, rfl, hy, c3, g5⟩
      have g6 := (g4.trans (below_grown B3)).trans g5
      have X3 := (X2.new B3).grownC g5 (by omega); have Y2 := (Y1.new B3).grownC g5 (by omega); clear X2 Y1; have f0 := Y2.frozen 0; have f1 := Y2.frozen 1; have r0 := X3.frozen 0; have r1 := X3.frozen 1; have q0 : w3.cell? ⟨w.heap.size, 0, none⟩ = some (.int .i64 0) := (X3.cell 0).trans rfl; have q1 : w3.cell? ⟨w.heap.size, 1, none⟩ = some (.int .i64 0) := (X3.cell 1).trans rfl; have y0 : w3.cell? ⟨w1.heap.size, 0, none⟩ = some (.int .i64 a) := (Y2.cell 0).trans rfl; have y1 : w3.cell? ⟨w1.heap.size, 1, none⟩ = some (.int .i64 b) := (Y2.cell 1).trans rfl
      go_wp2
      refine bodyPost_ret (v := .agg #[.int .i64 a, .int .i64 y]) ?_ rfl ?_; (focus (simp [results, Try.results68, go_sem, *]; done))
      exact ⟨_, _, rfl, (by simp at hy; omega), (((c3.set_far (by omega)).set_far hp).set_far hp), grown_set_new (grown_set_new (grown_set_new g6 (by omega)) (Nat.le_refl _)) (Nat.le_refl _)⟩
    · have c3 := c2.mono (show n + 4 ≤ n + 6 by omega)
      have f0 := Y1.frozen 0; have f1 := Y1.frozen 1; have r0 := X2.frozen 0; have r1 := X2.frozen 1; have q0 : w2.cell? ⟨w.heap.size, 0, none⟩ = some (.int .i64 0) := (X2.cell 0).trans rfl; have q1 : w2.cell? ⟨w.heap.size, 1, none⟩ = some (.int .i64 0) := (X2.cell 1).trans rfl; have y0 : w2.cell? ⟨w1.heap.size, 0, none⟩ = some (.int .i64 a) := (Y1.cell 0).trans rfl; have y1 : w2.cell? ⟨w1.heap.size, 1, none⟩ = some (.int .i64 b) := (Y1.cell 1).trans rfl
      go_wp2
      refine bodyPost_ret (v := .agg #[.int .i64 a, .int .i64 b]) ?_ rfl ?_; (focus (simp [results, Try.results68, go_sem, *]; done))
      exact ⟨_, _, rfl, (by omega), ((c3.set_far hp).set_far hp), grown_set_new (grown_set_new g4 (Nat.le_refl _)) (Nat.le_refl _)⟩
