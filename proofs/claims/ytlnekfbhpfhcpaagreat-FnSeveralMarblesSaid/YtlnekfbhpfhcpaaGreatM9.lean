/- Contracts of the program and of the model, walked, part 9 of 10. No condition but what each says. -/
import Derived.Test.YtlnekfbhpfhcpaaGreatM8
import Derived.Deep.DeepCutAuto
import Derived.Test.YtlnekfbhpfhcpaaGreatM1
import Derived.Deep.RegionHeld3
import Derived.WideShapes4
import Derived.Deep.QuietTactic
import Derived.BigQuiet
import Derived.Deep.CutRange
namespace Go.Proofs.YtlnekfbhpfhcpaaGreat
open Go.ChangeShapes Go.WideShapes Go.ChangeAt Go.RowKit Go.Joins Go.Deep
set_option linter.unusedSimpArgs false
set_option linter.unusedVariables false
set_option maxRecDepth 100000
set_option maxHeartbeats 1000000
theorem one_box (w : World) (a : List Value) (ta : TypeId) : ∃ v, w.alloc (.cells a.toArray ta) = v ∧ Whole v w.heap.size ta a ∧ Below w.heap.size w v ∧ v.heap.size = w.heap.size + 1 :=
  ⟨_, rfl, heap_alloc_new w _, (Below.refl _ _).alloc (Nat.le_refl _) _, by rw [World.size_alloc]⟩
theorem Cr.set_far {w : World} {p n g j : Nat} {u : Value} (h : Cr w p n) (hg : p < g) : Cr (w.setCell ⟨g, j, none⟩ u) p n :=
  h.keep (only_setCell (World.grownBy.refl w (some g)) j u) (fun j e => by cases e; exact hg)
theorem Whole.rdI {w : World} {g : Nat} {t : TypeId} {xs : List Value} (h : Whole w g t xs) : Rd w w.heap.size (some ⟨g, 0, none⟩) xs := fun hx =>
  ⟨g, 0, rfl, h.lt, fun j u hu => by rw [Nat.zero_add, h.cell, hu]⟩
theorem Whole.new {w w' : World} {g : Nat} {t : TypeId} {xs : List Value} (h : Whole w g t xs) (hb : Below w.heap.size w w') : Whole w' g t xs := h.below hb h.lt
theorem cell_any (p n : Nat) (w : World) (h : Cr w p n) (hn : n ≤ 1000000) :
    Calls Tryz.prog 74 #[.pointer (some ⟨p, 0, none⟩)] w fun e w' => ∃ a b : Int, e = .returned (.agg #[.int .i64 a, .int .i64 b]) ∧ good a b = true ∧ Cr w' p (n + 2) ∧ w.grownBy w' (some p) := by
  obtain ⟨v0, hv0, X0, B0, hz0⟩ := one_box w [.int .i64 0, .int .i64 0] 86
  have HV := Lib.hid hv0
  have hp := h.lt
  have hten : (allTo 8).length = 10 := by rfl
  have C0 : Cr v0 p n := h.keep (below_grown (row := none) B0) (by simp)
  have g0 : w.grownBy v0 (some p) := below_grown B0
  clear hv0
  go_enter Tryz.func74, Tryz.ntmps74
  go_wp2_with fail
  rewrite [show w.alloc (.cells ([.int .i64 0, .int .i64 0] : List Value).toArray 86) = v0 from HV.out]
  clear HV
  refine (spec_paAll _).mono ?_; rintro e w1 ⟨A, cap, rfl, o1, n1, b1⟩
  have X1 := X0.below b1 X0.lt
  have C1 : Cr w1 p n := C0.keep (below_grown (row := none) b1) (by simp)
  have g1 : w.grownBy w1 (some p) := g0.trans (below_grown b1)
  obtain ⟨b, o, rfl, hb, hc⟩ := o1.rd (by rw [flat_length]; omega)
  have hbn := n1 _ rfl
  clear o1 n1 X0 C0 B0 g0
  go_wp2_with fail; refine (pick_any p n (allTo 8).length _ C1 hn (by omega) (by omega)).mono ?_; rintro e w2 ⟨x, rfl, x0, x1, c2, g2⟩
  obtain ⟨k, rfl⟩ := Int.eq_ofNat_of_zero_le x0
  have hk : k < (allTo 8).length := by omega
  have k0 : w2.cell? ⟨b, o + k * 2, none⟩ = some (.int .i64 (allTo 8)[k].1) := g2.cell (hc _ _ (flat_at _ k hk).1) (by simp; omega)
  have k1 : w2.cell? ⟨b, o + k * 2 + 1, none⟩ = some (.int .i64 (allTo 8)[k].2) := g2.cell (hc _ _ (flat_at _ k hk).2) (by simp; omega)
  have X2 := X1.grownC g2 (by omega)
  have X2k0 : w2.cell? ⟨w.heap.size, 0, none⟩ = some (.int .i64 0) := (X2.cell 0).trans rfl; have X2k1 : w2.cell? ⟨w.heap.size, 1, none⟩ = some (.int .i64 0) := (X2.cell 1).trans rfl
  have f0 := X2.frozen 0
  have f1 := X2.frozen 1
  have hgood := allTo_good _ (List.getElem_mem hk)
  clear hc X1
  go_wp2
  refine bodyPost_ret (v := .agg #[.int .i64 (allTo 8)[k].1, .int .i64 (allTo 8)[k].2]) ?_ rfl ?_; (focus (simp [results, Tryz.results74, go_sem, *]; done))
  exact ⟨_, _, rfl, hgood, (c2.set_far hp).set_far hp, grown_set_new (grown_set_new (g1.trans g2) (Nat.le_refl _)) (Nat.le_refl _)⟩
theorem good_small {a b : Int} (h : good a b = true) : 0 ≤ a ∧ a ≤ 7 ∧ 0 ≤ b ∧ b ≤ 1 := by
  unfold good at h
  have := of_decide_eq_true h
  omega
theorem anyCell_any (p n : Nat) (w : World) (h : Cr w p n) (hn : n ≤ 900000) :
    Calls Tryz.prog 53 #[.pointer (some ⟨p, 0, none⟩)] w fun e w' => ∃ a b : Int, e = .returned (.agg #[.int .i64 a, .int .i64 b]) ∧ (-1 ≤ a ∧ a ≤ 8 ∧ -1 ≤ b ∧ b ≤ 2) ∧ Cr w' p (n + 6) ∧ w.grownBy w' (some p) := by
  obtain ⟨v0, hv0, X0, B0, hz0⟩ := one_box w [.int .i64 0, .int .i64 0] 86
  have HV := Lib.hid hv0
  have hp := h.lt
  have C0 : Cr v0 p n := h.keep (below_grown (row := none) B0) (by simp)
  have g0 : w.grownBy v0 (some p) := below_grown B0
  clear hv0
  go_enter Tryz.func53, Tryz.ntmps53
  go_wp2_with fail
  rewrite [show w.alloc (.cells ([.int .i64 0, .int .i64 0] : List Value).toArray 86) = v0 from HV.out]
  clear HV
  refine (cell_any p n _ C0 (by omega)).mono ?_; rintro e w1 ⟨a, b, rfl, hgood, c1, g1⟩
  have hsm := good_small hgood
  have X1 := X0.grownC g1 (by omega)
  have g2 := g0.trans g1
  have hz1 : w.heap.size < w1.heap.size := X1.lt
  clear X0 C0 B0 g0 g1
  obtain ⟨v1, hv1, Y0, B1, hz2⟩ := one_box w1 [.int .i64 a, .int .i64 b] 86
  have HV := Lib.hid hv1
  clear hv1
  go_wp2_with fail
  rewrite [show w1.alloc (.cells ([.int .i64 a, .int .i64 b] : List Value).toArray 86) = v1 from HV.out]
  clear HV
  have C1 : Cr v1 p (n + 2) := c1.keep (below_grown (row := none) B1) (by simp)
  have X1 := X1.new B1
  have g2 := g2.trans (below_grown (row := some p) B1)
  refine (pick_any p (n + 2) 20 _ C1 (by omega) (by omega) (by omega)).mono ?_; rintro e w2 ⟨x, rfl, x0, x1, c2, g3⟩
  have X2 := X1.grownC g3 (by omega)
  have Y1 := Y0.grownC g3 (by omega)
  have g4 := g2.trans g3
  have hz3 : w1.heap.size < w2.heap.size := Y1.lt
  clear X1 Y0 C1 B1 g2 g3 c1
  by_cases h0 : x = 0
  · subst h0
    obtain ⟨v3, hv3, Z0, B3, hz4⟩ := one_box w2 (ints [-1, 8]) 3
    have HV := Lib.hid hv3
    clear hv3
    go_wp2_with fail
    rewrite [show w2.alloc (.cells ([.int .i64 (-1), .int .i64 8] : List Value).toArray 3) = v3 from HV.out]
    clear HV
    refine (among_any p (n + 4) (some ⟨w2.heap.size, 0, none⟩) 2 [-1, 8] _ (c2.keep (below_grown (row := none) B3) (by simp)) (by omega) (by decide) (by decide) Z0.rdI (by simp; have := c2.lt; omega)).mono ?_; rintro e w3 ⟨y, rfl, hy, c3, g5⟩
    have g6 := (g4.trans (below_grown B3)).trans g5
    have X3 := (X2.new B3).grownC g5 (by omega); have Y2 := (Y1.new B3).grownC g5 (by omega); clear X2 Y1; have f0 := Y2.frozen 0; have f1 := Y2.frozen 1; have r0 := X3.frozen 0; have r1 := X3.frozen 1; have q0 : w3.cell? ⟨w.heap.size, 0, none⟩ = some (.int .i64 0) := (X3.cell 0).trans rfl; have q1 : w3.cell? ⟨w.heap.size, 1, none⟩ = some (.int .i64 0) := (X3.cell 1).trans rfl; have y0 : w3.cell? ⟨w1.heap.size, 0, none⟩ = some (.int .i64 a) := (Y2.cell 0).trans rfl; have y1 : w3.cell? ⟨w1.heap.size, 1, none⟩ = some (.int .i64 b) := (Y2.cell 1).trans rfl
    go_wp2
    refine bodyPost_ret (v := .agg #[.int .i64 y, .int .i64 b]) ?_ rfl ?_; (focus (simp [results, Tryz.results53, go_sem, *]; done))
    exact ⟨_, _, rfl, (by simp at hy; omega), (((c3.set_far (by omega)).set_far hp).set_far hp), grown_set_new (grown_set_new (grown_set_new g6 (by omega)) (Nat.le_refl _)) (Nat.le_refl _)⟩
  · by_cases h1 : x = 1
    · subst h1
      obtain ⟨v3, hv3, Z0, B3, hz4⟩ := one_box w2 (ints [-1, 1, 2]) 3
      have HV := Lib.hid hv3
      clear hv3
      go_wp2_with fail
      rewrite [show w2.alloc (.cells ([.int .i64 (-1), .int .i64 1, .int .i64 2] : List Value).toArray 3) = v3 from HV.out]
      clear HV
      refine (among_any p (n + 4) (some ⟨w2.heap.size, 0, none⟩) 3 [-1, 1, 2] _ (c2.keep (below_grown (row := none) B3) (by simp)) (by omega) (by decide) (by decide) Z0.rdI (by simp; have := c2.lt; omega)).mono ?_; rintro e w3 ⟨y, rfl, hy, c3, g5⟩
      have g6 := (g4.trans (below_grown B3)).trans g5
      have X3 := (X2.new B3).grownC g5 (by omega); have Y2 := (Y1.new B3).grownC g5 (by omega); clear X2 Y1; have f0 := Y2.frozen 0; have f1 := Y2.frozen 1; have r0 := X3.frozen 0; have r1 := X3.frozen 1; have q0 : w3.cell? ⟨w.heap.size, 0, none⟩ = some (.int .i64 0) := (X3.cell 0).trans rfl; have q1 : w3.cell? ⟨w.heap.size, 1, none⟩ = some (.int .i64 0) := (X3.cell 1).trans rfl; have y0 : w3.cell? ⟨w1.heap.size, 0, none⟩ = some (.int .i64 a) := (Y2.cell 0).trans rfl; have y1 : w3.cell? ⟨w1.heap.size, 1, none⟩ = some (.int .i64 b) := (Y2.cell 1).trans rfl
      go_wp2
      refine bodyPost_ret (v := .agg #[.int .i64 a, .int .i64 y]) ?_ rfl ?_; (focus (simp [results, Tryz.results53, go_sem, *]; done))
      exact ⟨_, _, rfl, (by simp at hy; omega), (((c3.set_far (by omega)).set_far hp).set_far hp), grown_set_new (grown_set_new (grown_set_new g6 (by omega)) (Nat.le_refl _)) (Nat.le_refl _)⟩
    · have c3 := c2.mono (show n + 4 ≤ n + 6 by omega)
      have f0 := Y1.frozen 0; have f1 := Y1.frozen 1; have r0 := X2.frozen 0; have r1 := X2.frozen 1; have q0 : w2.cell? ⟨w.heap.size, 0, none⟩ = some (.int .i64 0) := (X2.cell 0).trans rfl; have q1 : w2.cell? ⟨w.heap.size, 1, none⟩ = some (.int .i64 0) := (X2.cell 1).trans rfl; have y0 : w2.cell? ⟨w1.heap.size, 0, none⟩ = some (.int .i64 a) := (Y1.cell 0).trans rfl; have y1 : w2.cell? ⟨w1.heap.size, 1, none⟩ = some (.int .i64 b) := (Y1.cell 1).trans rfl
      go_wp2
      refine bodyPost_ret (v := .agg #[.int .i64 a, .int .i64 b]) ?_ rfl ?_; (focus (simp [results, Tryz.results53, go_sem, *]; done))
      exact ⟨_, _, rfl, (by omega), ((c3.set_far hp).set_far hp), grown_set_new (grown_set_new g4 (Nat.le_refl _)) (Nat.le_refl _)⟩
end Go.Proofs.YtlnekfbhpfhcpaaGreat
namespace Go.Proofs.YtlnekfbhpfhcpaaGreat
open Go.ChangeShapes Go.WideShapes Go.ChangeAt Go.RowKit Go.Joins Go.Deep
set_option linter.unusedSimpArgs false
set_option linter.unusedVariables false
set_option maxRecDepth 100000
set_option maxHeartbeats 8000000
/-- How long the list in a cell is. -/
def lenAt : Option Value → Nat
  | some (.slice _ n _) => n
  | _ => 0
/-- A row that the draws have made: at a block above base, as long as it may be. -/
theorem row_slice {w : World} {base n : Nat} {e : TypeId} {size : Nat} {v : Value} {xs : List Value} (h : w.ownsRow base e size v n xs) (hn : n = 0 → xs = []) : ∃ A cap, v = .slice A n cap := by
  rcases h.2 with ⟨rfl, h0⟩ | ⟨g, cap, _, rfl, _⟩
  · exact ⟨none, 0, by rw [h0]⟩
  · exact ⟨_, _, rfl⟩
theorem row_cur {w w' : World} {base n p : Nat} {e : TypeId} {size : Nat} {v : Value} {xs : List Value} (h : w.ownsRow base e size v n xs) (hg : w.grownBy w' (some p)) (hp : p < base) : w'.ownsRow base e size v n xs :=
  h.kept hg (by
    rcases h.2 with ⟨rfl, _⟩ | ⟨g, cap, cur, rfl, hb, _⟩
    · exact .inl rfl
    · exact .inr (by simp only [Value.ownBlock, ne_eq, Option.some.injEq]; omega))
theorem row_setD {w : World} {base : Nat} {e : TypeId} {size n : Nat} {v : Value} {xs : List Value} (h : w.ownsRow base e size v n xs) (p : Addr) (u : Value) (hne : some p.block ≠ v.ownBlock) : (w.setCell p u).ownsRow base e size v n xs :=
  h.kept (row := some p.block) ⟨rfl, rfl, rfl, by simp [World.setCell], fun i _ hi => Below.heap_setCell w p u i (fun e => hi (by rw [e]))⟩ (.inr (fun e => hne e.symm))
theorem grown_row {w a b : World} {p : Nat} {row : Option Nat} (h : w.grownBy a (some p)) (hg : a.grownBy b row) (hr : ∀ j, row = some j → w.heap.size ≤ j) : w.grownBy b (some p) :=
  ⟨hg.os.trans h.os, hg.tape.trans h.tape, hg.output.trans h.output, Nat.le_trans h.size hg.size, fun i hi hne => (hg.block i (Nat.lt_of_lt_of_le hi h.size) (fun e => by have := hr i e.symm; omega)).trans (h.block i hi hne)⟩
theorem grown_alloc {w a : World} {row : Option Nat} (h : w.grownBy a row) (o : Obj) : w.grownBy (a.alloc o) row := h.trans (below_grown ((Below.refl _ _).alloc (Nat.le_refl _) o))
theorem boardOf_any (p n r c : Nat) (w : World) (h : Cr w p n) (hn : n ≤ 800000) (hr1 : 1 ≤ r) (hr : r ≤ 10) (hc1 : 1 ≤ c) (hc : c ≤ 9) :
    Calls Tryz.prog 75 #[.pointer (some ⟨p, 0, none⟩), .int .i64 r, .int .i64 c] w fun e w' => ∃ (A : Option Addr) (cap : Nat) (l : List (Int × Int)), e = .returned (.agg #[.int .i64 r, .int .i64 c, .slice A l.length cap]) ∧ goodB r c l = true ∧ l.length ≤ cap ∧ Own w' A 86 (flat l) ∧ New w A ∧ Cr w' p (n + 2000) ∧ w.grownBy w' (some p) := by
  obtain ⟨i0, hi, hz0, hz1, hz2⟩ := info_parts cellInfo
  have hp := h.lt
  obtain ⟨N, hN⟩ : ∃ N : Nat, N = r * c := ⟨_, rfl⟩
  have hN1 : N ≤ 90 := by rw [hN]; exact Nat.mul_le_mul hr hc
  have hmul : (r : Int) * (c : Int) = (N : Int) := by rw [hN]; simp
  have HN := Lib.hid hN
  clear hN
  go_enter Tryz.func75, Tryz.ntmps75
  obtain ⟨v0, hv0, X0, X1, B0, hz0⟩ := two_boxes w [.int .i64 0, .int .i64 0, .slice none 0 0] 25 [.int .i64 (r : Int), .int .i64 (c : Int), .slice none 0 0] 25; have HV := Lib.hid hv0; have hz : w.heap.size + 1 < v0.heap.size := (by omega); have hy : w.heap.size < v0.heap.size := (by omega); have hb0 := B0.size; clear hv0; go_wp2_with fail; rewrite [show (w.alloc (.cells ([.int .i64 0, .int .i64 0, .slice none 0 0] : List Value).toArray 25)).alloc (.cells ([.int .i64 (r : Int), .int .i64 (c : Int), .slice none 0 0] : List Value).toArray 25) = v0 from HV.out]; clear HV
  rw [show w.heap.size + 1 + 1 = v0.heap.size by omega]
  obtain ⟨v1, hv1, Z0, B1, hz4⟩ := one_box v0 (ints [1, 2, 2]) 3
  have HV := Lib.hid hv1
  clear hv1
  rewrite [show v0.alloc (.cells ([.int .i64 1, .int .i64 2, .int .i64 2] : List Value).toArray 3) = v1 from HV.out]
  clear HV
  have C1 : Cr v1 p n := (h.keep (below_grown (row := none) B0) (by simp)).keep (below_grown (row := none) B1) (by simp)
  refine (among_any p n (some ⟨v0.heap.size, 0, none⟩) 3 [1, 2, 2] _ C1 (by omega) (by decide) (by decide) Z0.rdI (by simp; omega)).mono ?_; rintro e w1 ⟨m, rfl, hm, c1, g1⟩
  have g2 : w.grownBy w1 (some p) := ((below_grown B0).trans (below_grown B1)).trans g1
  have hm1 : 1 ≤ m ∧ m ≤ 2 := by simp at hm; omega
  have Y0 := (X0.new B1).grownC g1 (by omega)
  have Y1 := (X1.new B1).grownC g1 (by omega)
  have hw1 : w.heap.size + 1 < w1.heap.size := Y1.lt
  clear X0 X1 Z0 C1 B0 B1 g1 hm hz hy hb0 hz4 hz0
  have q0 : w1.cell? ⟨w.heap.size + 1, 2, none⟩ = some (.slice none 0 0) := (Y1.cell 2).trans rfl
  go_wp2
  go_loopw [9] (fun _ wr => ∃ (A : Option Addr) (cap : Nat) (l : List (Int × Int)), l.length ≤ N ∧ (∀ x ∈ l, good x.1 x.2 = true) ∧ wr.ownsRow w1.heap.size 86 2 (.slice A l.length cap) l.length (flat l) ∧ Whole wr w.heap.size 25 [.int .i64 0, .int .i64 0, .slice none 0 0] ∧ Whole wr (w.heap.size + 1) 25 [.int .i64 (r : Int), .int .i64 (c : Int), .slice A l.length cap] ∧ Cr wr p (n + 2 + 10 * l.length) ∧ w.grownBy wr (some p) ∧ w1.heap.size ≤ wr.heap.size) (fun _ wr => N - lenAt (wr.cell? ⟨w.heap.size + 1, 2, none⟩))
  case atStart => exact ⟨none, 0, [], Nat.zero_le _, by simp, World.ownsRow_nil _ _ _ _, Y0, Y1, c1, g2, Nat.le_refl _⟩
  case round =>
    obtain ⟨A, cap, l, hl, hgl, hown, W0, W1, cw, gw, hsz⟩ := hrel
    clear Y0 Y1 c1 g2 q0
    have q0 : wr.cell? ⟨w.heap.size + 1, 0, none⟩ = some (.int .i64 (r : Int)) := (W1.cell 0).trans rfl
    have q2 : wr.cell? ⟨w.heap.size + 1, 2, none⟩ = some (.slice A l.length cap) := (W1.cell 2).trans rfl
    have hmeas : lenAt (wr.cell? ⟨w.heap.size + 1, 2, none⟩) = l.length := by rw [q2]; rfl
    have HM := Lib.hid hmeas
    clear hmeas
    by_cases hlt : l.length < N
    · have hi9 : (l.length : Int) < (N : Int) := by omega
      obtain ⟨v2, hv2, XA, B2, hz5⟩ := one_box wr [.int .i64 0, .int .i64 0] 86
      have HV := Lib.hid hv2
      clear hv2
      go_wp2_with fail
      rewrite [show wr.alloc (.cells ([.int .i64 0, .int .i64 0] : List Value).toArray 86) = v2 from HV.out]
      clear HV
      have C2 : Cr v2 p (n + 2 + 10 * l.length) := cw.keep (below_grown (row := none) B2) (by simp)
      have hrow : some wr.heap.size ≠ (Value.slice A l.length cap).ownBlock := fun e => by have := (hown.lt _ e.symm).2; omega
      have HRow := Lib.hid hrow
      replace W0 := W0.new B2
      replace W1 := W1.new B2
      replace hown := row_keep hown B2
      replace gw := gw.trans (below_grown (row := some p) B2)
      have hsx := XA.lt
      clear B2 cw q0 q2 hrow
      refine (one_any p _ m _ C2 (by omega) (by omega) (by omega)).mono ?_; rintro e w2 ⟨t, rfl, c2, g3⟩
      replace XA := XA.grownC g3 (by omega); replace W0 := W0.grownC g3 (by omega); replace W1 := W1.grownC g3 (by omega); replace hown := row_cur hown g3 (by omega); replace gw := gw.trans g3; replace hsx := XA.lt; clear g3
      rcases t with _ | _
      · go_wp2_with fail
        refine (one_any p _ 3 _ c2 (by omega) (by omega) (by omega)).mono ?_; rintro e w3 ⟨t, rfl, c3, g4⟩
        replace XA := XA.grownC g4 (by omega); replace W0 := W0.grownC g4 (by omega); replace W1 := W1.grownC g4 (by omega); replace hown := row_cur hown g4 (by omega); replace gw := gw.trans g4; replace hsx := XA.lt; clear g4
        rcases t with _ | _
        · obtain ⟨a, ha⟩ : ∃ a : Int, a = 0 := ⟨_, rfl⟩
          rw [← ha] at XA
          have hga : good a a = true := by rw [ha]; decide
          clear ha
          have x0 : w3.cell? ⟨wr.heap.size, 0, none⟩ = some (.int .i64 a) := (XA.cell 0).trans rfl
          by_cases h5 : a = 5
          · have HG := Lib.hid hga
            go_wp2_with fail
            refine (one_any p _ 3 _ c3 (by omega) (by omega) (by omega)).mono ?_; rintro e w5 ⟨t, rfl, c5, g6⟩
            replace XA := XA.grownC g6 (by omega); replace W0 := W0.grownC g6 (by omega); replace W1 := W1.grownC g6 (by omega); replace hown := row_cur hown g6 (by omega); replace gw := gw.trans g6; replace hsx := XA.lt; clear g6
            clear x0
            rcases t with _ | _
            · go_wp2_with fail
              refine (pick_any p _ 2 _ c5 (by omega) (by omega) (by omega)).mono ?_; rintro e w6 ⟨y, rfl, y0, y1, c6, g7⟩
              replace XA := XA.grownC g7 (by omega); replace W0 := W0.grownC g7 (by omega); replace W1 := W1.grownC g7 (by omega); replace hown := row_cur hown g7 (by omega); replace gw := gw.trans g7; replace hsx := XA.lt; clear g7
              have hg3 : good 3 y = true := by rcases (show y = 0 ∨ y = 1 by omega) with rfl | rfl <;> decide
              have z0 : w6.cell? ⟨wr.heap.size, 0, none⟩ = some (.int .i64 a) := (XA.cell 0).trans rfl
              have z1 : w6.cell? ⟨wr.heap.size, 1, none⟩ = some (.int .i64 a) := (XA.cell 1).trans rfl
              have z2 := XA.frozen 0
              have z3 := XA.frozen 1
              go_upto_region 9 with fail
              replace W0 := (W0.set_far ⟨wr.heap.size, 0, none⟩ (.int .i64 3) (by simp; omega)).set_far ⟨wr.heap.size, 1, none⟩ (.int .i64 y) (by simp; omega)
              replace W1 := (W1.set_far ⟨wr.heap.size, 0, none⟩ (.int .i64 3) (by simp; omega)).set_far ⟨wr.heap.size, 1, none⟩ (.int .i64 y) (by simp; omega)
              replace hown := row_setD (row_setD hown ⟨wr.heap.size, 0, none⟩ (.int .i64 3) HRow.out) ⟨wr.heap.size, 1, none⟩ (.int .i64 y) HRow.out
              replace gw := grown_set_new (grown_set_new gw (show w.heap.size ≤ wr.heap.size by omega) (j := 0) (u := .int .i64 3)) (show w.heap.size ≤ wr.heap.size by omega) (j := 1) (u := .int .i64 y)
              have c9 := (c6.set_far (show p < wr.heap.size by omega) (j := 0) (u := .int .i64 3)).set_far (show p < wr.heap.size by omega) (j := 1) (u := .int .i64 y)
              have XB : Whole ((w6.setCell ⟨wr.heap.size, 0, none⟩ (.int .i64 3)).setCell ⟨wr.heap.size, 1, none⟩ (.int .i64 y)) wr.heap.size 86 [.int .i64 3, .int .i64 y] := (XA.set 0 (.int .i64 3)).set 1 (.int .i64 y)
              clear XA z0 z1 z2 z3 hsx
              generalize (w6.setCell ⟨wr.heap.size, 0, none⟩ (.int .i64 3)).setCell ⟨wr.heap.size, 1, none⟩ (.int .i64 y) = w9 at *
              have XA := XB
              clear XB
              have hsx := XA.lt
              have x0 : w9.cell? ⟨wr.heap.size, 0, none⟩ = some (.int .i64 3) := (XA.cell 0).trans rfl
              have x1 : w9.cell? ⟨wr.heap.size, 1, none⟩ = some (.int .i64 y) := (XA.cell 1).trans rfl
              have q2 : w9.cell? ⟨w.heap.size + 1, 2, none⟩ = some (.slice A l.length cap) := (W1.cell 2).trans rfl
              go_wp2_with (first | (at_builtin; refine wpList_append_own _ rfl (.tmp 45) (.tmp 47) 23 rfl w1.heap.size 86 i0 _ 2 16 Tryz.underlying23 hi hz0 hz1 hz2 rfl (by omega) _ l.length (flat l) rfl (hown.alloc _) ⟨w9.heap.size, 0, none⟩ 1 1 [.int .i64 3, .int .i64 y] rfl rfl two_cells two_one (by unfold maxLen; omega) (by omega) (by rw [World.size_alloc]; omega) ?_) | fail)
              intro v8 w8 hown8 hg8 _
              have hownX := hown.alloc (.cells #[.int .i64 3, .int .i64 y] 86)
              have W18 := (W1.alloc (.cells #[.int .i64 3, .int .i64 y] 86)).grown hg8 (row_apart hownX (W1.alloc _) (by decide))
              have W08 := (W0.alloc (.cells #[.int .i64 3, .int .i64 y] 86)).grown hg8 (row_apart hownX (W0.alloc _) (by decide))
              have C8 := (c9.keep (below_grown (row := none) ((Below.refl _ _).alloc (Nat.le_refl _) (.cells #[.int .i64 3, .int .i64 y] 86))) (by simp)).keep hg8 (fun j hj => by have := (hownX.lt j hj).1; omega)
              have g8 := grown_row (grown_alloc gw (.cells #[.int .i64 3, .int .i64 y] 86)) hg8 (fun j hj => by have := (hownX.lt j hj).1; omega)
              have hs8 : w1.heap.size ≤ w8.heap.size := by have := hg8.size; rw [World.size_alloc] at this; omega
              have hne := row_apart hown8 W18 (by decide)
              obtain ⟨A8, c8, rfl⟩ := slice_of_row hown8
              have q5 : w8.cell? ⟨w.heap.size + 1, 2, none⟩ = some (.slice A l.length cap) := (W18.cell 2).trans rfl
              have q6 := W18.frozen 2
              have hel : (l ++ [(3, y)]).length = l.length + 1 := by simp
              have HE := Lib.hid hel
              have HF := Lib.hid (show flat (l ++ [(3, y)]) = flat l ++ [.int .i64 3, .int .i64 y] by rw [flat_append]; rfl)
              clear hownX hown W0 W1 XA x0 x1 q2 hg8 gw hel
              go_wp2
              go_roundw
              case rel =>
                refine ⟨A8, c8, l ++ [(3, y)], by rw [HE.out]; omega, ?_, ?_, ?_, ?_, ?_, grown_set_new g8 (by omega), by simpa [World.setCell] using hs8⟩
                · intro x hx
                  rcases List.mem_append.1 hx with h | h
                  · exact hgl x h
                  · rw [List.mem_singleton.1 h]; exact hg3
                · rw [HE.out, HF.out]
                  exact row_setD hown8 _ _ hne
                · exact W08.set_far _ _ (by simp)
                · rw [HE.out]
                  exact W18.set 2 _
                · rw [HE.out]
                  exact (C8.mono (by omega)).set_far (by omega)
              case measure =>
                rw [HM.out]
                have hX := (W18.set 2 (.slice A8 (l.length + 1) c8)).cell 2
                have hY : lenAt ((w8.setCell ⟨w.heap.size + 1, 2, none⟩ (.slice A8 (l.length + 1) c8)).cell? ⟨w.heap.size + 1, 2, none⟩) = l.length + 1 := by rw [hX]; rfl
                first | (rw [hY]; omega) | (simp [hY]; omega)
            · clear h5
              have x0 : w5.cell? ⟨wr.heap.size, 0, none⟩ = some (.int .i64 a) := (XA.cell 0).trans rfl
              have x1 : w5.cell? ⟨wr.heap.size, 1, none⟩ = some (.int .i64 a) := (XA.cell 1).trans rfl
              have q2 : w5.cell? ⟨w.heap.size + 1, 2, none⟩ = some (.slice A l.length cap) := (W1.cell 2).trans rfl
              go_wp2_with (first | (at_builtin; refine wpList_append_own _ rfl (.tmp 45) (.tmp 47) 23 rfl w1.heap.size 86 i0 _ 2 16 Tryz.underlying23 hi hz0 hz1 hz2 rfl (by omega) _ l.length (flat l) rfl (hown.alloc _) ⟨w5.heap.size, 0, none⟩ 1 1 [.int .i64 a, .int .i64 a] rfl rfl two_cells two_one (by unfold maxLen; omega) (by omega) (by rw [World.size_alloc]; omega) ?_) | fail)
              intro v8 w8 hown8 hg8 _
              have hownX := hown.alloc (.cells #[.int .i64 a, .int .i64 a] 86)
              have W18 := (W1.alloc (.cells #[.int .i64 a, .int .i64 a] 86)).grown hg8 (row_apart hownX (W1.alloc _) (by decide))
              have W08 := (W0.alloc (.cells #[.int .i64 a, .int .i64 a] 86)).grown hg8 (row_apart hownX (W0.alloc _) (by decide))
              have C8 := (c5.keep (below_grown (row := none) ((Below.refl _ _).alloc (Nat.le_refl _) (.cells #[.int .i64 a, .int .i64 a] 86))) (by simp)).keep hg8 (fun j hj => by have := (hownX.lt j hj).1; omega)
              have g8 := grown_row (grown_alloc gw (.cells #[.int .i64 a, .int .i64 a] 86)) hg8 (fun j hj => by have := (hownX.lt j hj).1; omega)
              have hs8 : w1.heap.size ≤ w8.heap.size := by have := hg8.size; rw [World.size_alloc] at this; omega
              have hne := row_apart hown8 W18 (by decide)
              obtain ⟨A8, c8, rfl⟩ := slice_of_row hown8
              have q5 : w8.cell? ⟨w.heap.size + 1, 2, none⟩ = some (.slice A l.length cap) := (W18.cell 2).trans rfl
              have q6 := W18.frozen 2
              have hel : (l ++ [(a, a)]).length = l.length + 1 := by simp
              have HE := Lib.hid hel
              have HF := Lib.hid (show flat (l ++ [(a, a)]) = flat l ++ [.int .i64 a, .int .i64 a] by rw [flat_append]; rfl)
              clear hownX hown W0 W1 XA x0 x1 q2 hg8 gw hel
              go_wp2
              go_roundw
              case rel =>
                refine ⟨A8, c8, l ++ [(a, a)], by rw [HE.out]; omega, ?_, ?_, ?_, ?_, ?_, grown_set_new g8 (by omega), by simpa [World.setCell] using hs8⟩
                · intro x hx
                  rcases List.mem_append.1 hx with h | h
                  · exact hgl x h
                  · rw [List.mem_singleton.1 h]; exact HG.out
                · rw [HE.out, HF.out]
                  exact row_setD hown8 _ _ hne
                · exact W08.set_far _ _ (by simp)
                · rw [HE.out]
                  exact W18.set 2 _
                · rw [HE.out]
                  exact (C8.mono (by omega)).set_far (by omega)
              case measure =>
                rw [HM.out]
                have hX := (W18.set 2 (.slice A8 (l.length + 1) c8)).cell 2
                have hY : lenAt ((w8.setCell ⟨w.heap.size + 1, 2, none⟩ (.slice A8 (l.length + 1) c8)).cell? ⟨w.heap.size + 1, 2, none⟩) = l.length + 1 := by rw [hX]; rfl
                first | (rw [hY]; omega) | (simp [hY]; omega)
          · have h6 : (a == 5) = false := by simp [h5]
            have x0 : w3.cell? ⟨wr.heap.size, 0, none⟩ = some (.int .i64 a) := (XA.cell 0).trans rfl
            have x1 : w3.cell? ⟨wr.heap.size, 1, none⟩ = some (.int .i64 a) := (XA.cell 1).trans rfl
            have q2 : w3.cell? ⟨w.heap.size + 1, 2, none⟩ = some (.slice A l.length cap) := (W1.cell 2).trans rfl
            go_wp2_with (first | (at_builtin; refine wpList_append_own _ rfl (.tmp 45) (.tmp 47) 23 rfl w1.heap.size 86 i0 _ 2 16 Tryz.underlying23 hi hz0 hz1 hz2 rfl (by omega) _ l.length (flat l) rfl (hown.alloc _) ⟨w3.heap.size, 0, none⟩ 1 1 [.int .i64 a, .int .i64 a] rfl rfl two_cells two_one (by unfold maxLen; omega) (by omega) (by rw [World.size_alloc]; omega) ?_) | fail)
            intro v8 w8 hown8 hg8 _
            have hownX := hown.alloc (.cells #[.int .i64 a, .int .i64 a] 86)
            have W18 := (W1.alloc (.cells #[.int .i64 a, .int .i64 a] 86)).grown hg8 (row_apart hownX (W1.alloc _) (by decide))
            have W08 := (W0.alloc (.cells #[.int .i64 a, .int .i64 a] 86)).grown hg8 (row_apart hownX (W0.alloc _) (by decide))
            have C8 := (c3.keep (below_grown (row := none) ((Below.refl _ _).alloc (Nat.le_refl _) (.cells #[.int .i64 a, .int .i64 a] 86))) (by simp)).keep hg8 (fun j hj => by have := (hownX.lt j hj).1; omega)
            have g8 := grown_row (grown_alloc gw (.cells #[.int .i64 a, .int .i64 a] 86)) hg8 (fun j hj => by have := (hownX.lt j hj).1; omega)
            have hs8 : w1.heap.size ≤ w8.heap.size := by have := hg8.size; rw [World.size_alloc] at this; omega
            have hne := row_apart hown8 W18 (by decide)
            obtain ⟨A8, c8, rfl⟩ := slice_of_row hown8
            have q5 : w8.cell? ⟨w.heap.size + 1, 2, none⟩ = some (.slice A l.length cap) := (W18.cell 2).trans rfl
            have q6 := W18.frozen 2
            have hel : (l ++ [(a, a)]).length = l.length + 1 := by simp
            have HE := Lib.hid hel
            have HF := Lib.hid (show flat (l ++ [(a, a)]) = flat l ++ [.int .i64 a, .int .i64 a] by rw [flat_append]; rfl)
            clear hownX hown W0 W1 XA x0 x1 q2 hg8 gw hel
            go_wp2
            go_roundw
            case rel =>
              refine ⟨A8, c8, l ++ [(a, a)], by rw [HE.out]; omega, ?_, ?_, ?_, ?_, ?_, grown_set_new g8 (by omega), by simpa [World.setCell] using hs8⟩
              · intro x hx
                rcases List.mem_append.1 hx with h | h
                · exact hgl x h
                · rw [List.mem_singleton.1 h]; exact hga
              · rw [HE.out, HF.out]
                exact row_setD hown8 _ _ hne
              · exact W08.set_far _ _ (by simp)
              · rw [HE.out]
                exact W18.set 2 _
              · rw [HE.out]
                exact (C8.mono (by omega)).set_far (by omega)
            case measure =>
              rw [HM.out]
              have hX := (W18.set 2 (.slice A8 (l.length + 1) c8)).cell 2
              have hY : lenAt ((w8.setCell ⟨w.heap.size + 1, 2, none⟩ (.slice A8 (l.length + 1) c8)).cell? ⟨w.heap.size + 1, 2, none⟩) = l.length + 1 := by rw [hX]; rfl
              first | (rw [hY]; omega) | (simp [hY]; omega)
        · go_wp2_with fail
          refine (cell_any p _ _ c3 (by omega)).mono ?_; rintro e w4 ⟨a, b, rfl, hga, c4, g5⟩
          replace XA := XA.grownC g5 (by omega); replace W0 := W0.grownC g5 (by omega); replace W1 := W1.grownC g5 (by omega); replace hown := row_cur hown g5 (by omega); replace gw := gw.trans g5; replace hsx := XA.lt; clear g5
          have z0 : w4.cell? ⟨wr.heap.size, 0, none⟩ = some (.int .i64 0) := (XA.cell 0).trans rfl
          have z1 : w4.cell? ⟨wr.heap.size, 1, none⟩ = some (.int .i64 0) := (XA.cell 1).trans rfl
          have z2 := XA.frozen 0
          have z3 := XA.frozen 1
          go_upto_region 7 with fail
          replace W0 := (W0.set_far ⟨wr.heap.size, 0, none⟩ (.int .i64 a) (by simp; omega)).set_far ⟨wr.heap.size, 1, none⟩ (.int .i64 b) (by simp; omega)
          replace W1 := (W1.set_far ⟨wr.heap.size, 0, none⟩ (.int .i64 a) (by simp; omega)).set_far ⟨wr.heap.size, 1, none⟩ (.int .i64 b) (by simp; omega)
          replace hown := row_setD (row_setD hown ⟨wr.heap.size, 0, none⟩ (.int .i64 a) HRow.out) ⟨wr.heap.size, 1, none⟩ (.int .i64 b) HRow.out
          replace gw := grown_set_new (grown_set_new gw (show w.heap.size ≤ wr.heap.size by omega) (j := 0) (u := .int .i64 a)) (show w.heap.size ≤ wr.heap.size by omega) (j := 1) (u := .int .i64 b)
          have c7 := (c4.set_far (show p < wr.heap.size by omega) (j := 0) (u := .int .i64 a)).set_far (show p < wr.heap.size by omega) (j := 1) (u := .int .i64 b)
          have XB : Whole ((w4.setCell ⟨wr.heap.size, 0, none⟩ (.int .i64 a)).setCell ⟨wr.heap.size, 1, none⟩ (.int .i64 b)) wr.heap.size 86 [.int .i64 a, .int .i64 b] := (XA.set 0 (.int .i64 a)).set 1 (.int .i64 b)
          clear XA z0 z1 z2 z3 hsx
          generalize (w4.setCell ⟨wr.heap.size, 0, none⟩ (.int .i64 a)).setCell ⟨wr.heap.size, 1, none⟩ (.int .i64 b) = w7 at *
          have XA := XB
          clear XB
          have hsx := XA.lt
          have x0 : w7.cell? ⟨wr.heap.size, 0, none⟩ = some (.int .i64 a) := (XA.cell 0).trans rfl
          by_cases h5 : a = 5
          · have HG := Lib.hid hga
            go_wp2_with fail
            refine (one_any p _ 3 _ c7 (by omega) (by omega) (by omega)).mono ?_; rintro e w5 ⟨t, rfl, c5, g6⟩
            replace XA := XA.grownC g6 (by omega); replace W0 := W0.grownC g6 (by omega); replace W1 := W1.grownC g6 (by omega); replace hown := row_cur hown g6 (by omega); replace gw := gw.trans g6; replace hsx := XA.lt; clear g6
            clear x0
            rcases t with _ | _
            · go_wp2_with fail
              refine (pick_any p _ 2 _ c5 (by omega) (by omega) (by omega)).mono ?_; rintro e w6 ⟨y, rfl, y0, y1, c6, g7⟩
              replace XA := XA.grownC g7 (by omega); replace W0 := W0.grownC g7 (by omega); replace W1 := W1.grownC g7 (by omega); replace hown := row_cur hown g7 (by omega); replace gw := gw.trans g7; replace hsx := XA.lt; clear g7
              have hg3 : good 3 y = true := by rcases (show y = 0 ∨ y = 1 by omega) with rfl | rfl <;> decide
              have z0 : w6.cell? ⟨wr.heap.size, 0, none⟩ = some (.int .i64 a) := (XA.cell 0).trans rfl
              have z1 : w6.cell? ⟨wr.heap.size, 1, none⟩ = some (.int .i64 b) := (XA.cell 1).trans rfl
              have z2 := XA.frozen 0
              have z3 := XA.frozen 1
              go_upto_region 9 with fail
              replace W0 := (W0.set_far ⟨wr.heap.size, 0, none⟩ (.int .i64 3) (by simp; omega)).set_far ⟨wr.heap.size, 1, none⟩ (.int .i64 y) (by simp; omega)
              replace W1 := (W1.set_far ⟨wr.heap.size, 0, none⟩ (.int .i64 3) (by simp; omega)).set_far ⟨wr.heap.size, 1, none⟩ (.int .i64 y) (by simp; omega)
              replace hown := row_setD (row_setD hown ⟨wr.heap.size, 0, none⟩ (.int .i64 3) HRow.out) ⟨wr.heap.size, 1, none⟩ (.int .i64 y) HRow.out
              replace gw := grown_set_new (grown_set_new gw (show w.heap.size ≤ wr.heap.size by omega) (j := 0) (u := .int .i64 3)) (show w.heap.size ≤ wr.heap.size by omega) (j := 1) (u := .int .i64 y)
              have c9 := (c6.set_far (show p < wr.heap.size by omega) (j := 0) (u := .int .i64 3)).set_far (show p < wr.heap.size by omega) (j := 1) (u := .int .i64 y)
              have XB : Whole ((w6.setCell ⟨wr.heap.size, 0, none⟩ (.int .i64 3)).setCell ⟨wr.heap.size, 1, none⟩ (.int .i64 y)) wr.heap.size 86 [.int .i64 3, .int .i64 y] := (XA.set 0 (.int .i64 3)).set 1 (.int .i64 y)
              clear XA z0 z1 z2 z3 hsx
              generalize (w6.setCell ⟨wr.heap.size, 0, none⟩ (.int .i64 3)).setCell ⟨wr.heap.size, 1, none⟩ (.int .i64 y) = w9 at *
              have XA := XB
              clear XB
              have hsx := XA.lt
              have x0 : w9.cell? ⟨wr.heap.size, 0, none⟩ = some (.int .i64 3) := (XA.cell 0).trans rfl
              have x1 : w9.cell? ⟨wr.heap.size, 1, none⟩ = some (.int .i64 y) := (XA.cell 1).trans rfl
              have q2 : w9.cell? ⟨w.heap.size + 1, 2, none⟩ = some (.slice A l.length cap) := (W1.cell 2).trans rfl
              go_wp2_with (first | (at_builtin; refine wpList_append_own _ rfl (.tmp 45) (.tmp 47) 23 rfl w1.heap.size 86 i0 _ 2 16 Tryz.underlying23 hi hz0 hz1 hz2 rfl (by omega) _ l.length (flat l) rfl (hown.alloc _) ⟨w9.heap.size, 0, none⟩ 1 1 [.int .i64 3, .int .i64 y] rfl rfl two_cells two_one (by unfold maxLen; omega) (by omega) (by rw [World.size_alloc]; omega) ?_) | fail)
              intro v8 w8 hown8 hg8 _
              have hownX := hown.alloc (.cells #[.int .i64 3, .int .i64 y] 86)
              have W18 := (W1.alloc (.cells #[.int .i64 3, .int .i64 y] 86)).grown hg8 (row_apart hownX (W1.alloc _) (by decide))
              have W08 := (W0.alloc (.cells #[.int .i64 3, .int .i64 y] 86)).grown hg8 (row_apart hownX (W0.alloc _) (by decide))
              have C8 := (c9.keep (below_grown (row := none) ((Below.refl _ _).alloc (Nat.le_refl _) (.cells #[.int .i64 3, .int .i64 y] 86))) (by simp)).keep hg8 (fun j hj => by have := (hownX.lt j hj).1; omega)
              have g8 := grown_row (grown_alloc gw (.cells #[.int .i64 3, .int .i64 y] 86)) hg8 (fun j hj => by have := (hownX.lt j hj).1; omega)
              have hs8 : w1.heap.size ≤ w8.heap.size := by have := hg8.size; rw [World.size_alloc] at this; omega
              have hne := row_apart hown8 W18 (by decide)
              obtain ⟨A8, c8, rfl⟩ := slice_of_row hown8
              have q5 : w8.cell? ⟨w.heap.size + 1, 2, none⟩ = some (.slice A l.length cap) := (W18.cell 2).trans rfl
              have q6 := W18.frozen 2
              have hel : (l ++ [(3, y)]).length = l.length + 1 := by simp
              have HE := Lib.hid hel
              have HF := Lib.hid (show flat (l ++ [(3, y)]) = flat l ++ [.int .i64 3, .int .i64 y] by rw [flat_append]; rfl)
              clear hownX hown W0 W1 XA x0 x1 q2 hg8 gw hel
              go_wp2
              go_roundw
              case rel =>
                refine ⟨A8, c8, l ++ [(3, y)], by rw [HE.out]; omega, ?_, ?_, ?_, ?_, ?_, grown_set_new g8 (by omega), by simpa [World.setCell] using hs8⟩
                · intro x hx
                  rcases List.mem_append.1 hx with h | h
                  · exact hgl x h
                  · rw [List.mem_singleton.1 h]; exact hg3
                · rw [HE.out, HF.out]
                  exact row_setD hown8 _ _ hne
                · exact W08.set_far _ _ (by simp)
                · rw [HE.out]
                  exact W18.set 2 _
                · rw [HE.out]
                  exact (C8.mono (by omega)).set_far (by omega)
              case measure =>
                rw [HM.out]
                have hX := (W18.set 2 (.slice A8 (l.length + 1) c8)).cell 2
                have hY : lenAt ((w8.setCell ⟨w.heap.size + 1, 2, none⟩ (.slice A8 (l.length + 1) c8)).cell? ⟨w.heap.size + 1, 2, none⟩) = l.length + 1 := by rw [hX]; rfl
                first | (rw [hY]; omega) | (simp [hY]; omega)
            · clear h5
              have x0 : w5.cell? ⟨wr.heap.size, 0, none⟩ = some (.int .i64 a) := (XA.cell 0).trans rfl
              have x1 : w5.cell? ⟨wr.heap.size, 1, none⟩ = some (.int .i64 b) := (XA.cell 1).trans rfl
              have q2 : w5.cell? ⟨w.heap.size + 1, 2, none⟩ = some (.slice A l.length cap) := (W1.cell 2).trans rfl
              go_wp2_with (first | (at_builtin; refine wpList_append_own _ rfl (.tmp 45) (.tmp 47) 23 rfl w1.heap.size 86 i0 _ 2 16 Tryz.underlying23 hi hz0 hz1 hz2 rfl (by omega) _ l.length (flat l) rfl (hown.alloc _) ⟨w5.heap.size, 0, none⟩ 1 1 [.int .i64 a, .int .i64 b] rfl rfl two_cells two_one (by unfold maxLen; omega) (by omega) (by rw [World.size_alloc]; omega) ?_) | fail)
              intro v8 w8 hown8 hg8 _
              have hownX := hown.alloc (.cells #[.int .i64 a, .int .i64 b] 86)
              have W18 := (W1.alloc (.cells #[.int .i64 a, .int .i64 b] 86)).grown hg8 (row_apart hownX (W1.alloc _) (by decide))
              have W08 := (W0.alloc (.cells #[.int .i64 a, .int .i64 b] 86)).grown hg8 (row_apart hownX (W0.alloc _) (by decide))
              have C8 := (c5.keep (below_grown (row := none) ((Below.refl _ _).alloc (Nat.le_refl _) (.cells #[.int .i64 a, .int .i64 b] 86))) (by simp)).keep hg8 (fun j hj => by have := (hownX.lt j hj).1; omega)
              have g8 := grown_row (grown_alloc gw (.cells #[.int .i64 a, .int .i64 b] 86)) hg8 (fun j hj => by have := (hownX.lt j hj).1; omega)
              have hs8 : w1.heap.size ≤ w8.heap.size := by have := hg8.size; rw [World.size_alloc] at this; omega
              have hne := row_apart hown8 W18 (by decide)
              obtain ⟨A8, c8, rfl⟩ := slice_of_row hown8
              have q5 : w8.cell? ⟨w.heap.size + 1, 2, none⟩ = some (.slice A l.length cap) := (W18.cell 2).trans rfl
              have q6 := W18.frozen 2
              have hel : (l ++ [(a, b)]).length = l.length + 1 := by simp
              have HE := Lib.hid hel
              have HF := Lib.hid (show flat (l ++ [(a, b)]) = flat l ++ [.int .i64 a, .int .i64 b] by rw [flat_append]; rfl)
              clear hownX hown W0 W1 XA x0 x1 q2 hg8 gw hel
              go_wp2
              go_roundw
              case rel =>
                refine ⟨A8, c8, l ++ [(a, b)], by rw [HE.out]; omega, ?_, ?_, ?_, ?_, ?_, grown_set_new g8 (by omega), by simpa [World.setCell] using hs8⟩
                · intro x hx
                  rcases List.mem_append.1 hx with h | h
                  · exact hgl x h
                  · rw [List.mem_singleton.1 h]; exact HG.out
                · rw [HE.out, HF.out]
                  exact row_setD hown8 _ _ hne
                · exact W08.set_far _ _ (by simp)
                · rw [HE.out]
                  exact W18.set 2 _
                · rw [HE.out]
                  exact (C8.mono (by omega)).set_far (by omega)
              case measure =>
                rw [HM.out]
                have hX := (W18.set 2 (.slice A8 (l.length + 1) c8)).cell 2
                have hY : lenAt ((w8.setCell ⟨w.heap.size + 1, 2, none⟩ (.slice A8 (l.length + 1) c8)).cell? ⟨w.heap.size + 1, 2, none⟩) = l.length + 1 := by rw [hX]; rfl
                first | (rw [hY]; omega) | (simp [hY]; omega)
          · have h6 : (a == 5) = false := by simp [h5]
            have x0 : w7.cell? ⟨wr.heap.size, 0, none⟩ = some (.int .i64 a) := (XA.cell 0).trans rfl
            have x1 : w7.cell? ⟨wr.heap.size, 1, none⟩ = some (.int .i64 b) := (XA.cell 1).trans rfl
            have q2 : w7.cell? ⟨w.heap.size + 1, 2, none⟩ = some (.slice A l.length cap) := (W1.cell 2).trans rfl
            go_wp2_with (first | (at_builtin; refine wpList_append_own _ rfl (.tmp 45) (.tmp 47) 23 rfl w1.heap.size 86 i0 _ 2 16 Tryz.underlying23 hi hz0 hz1 hz2 rfl (by omega) _ l.length (flat l) rfl (hown.alloc _) ⟨w7.heap.size, 0, none⟩ 1 1 [.int .i64 a, .int .i64 b] rfl rfl two_cells two_one (by unfold maxLen; omega) (by omega) (by rw [World.size_alloc]; omega) ?_) | fail)
            intro v8 w8 hown8 hg8 _
            have hownX := hown.alloc (.cells #[.int .i64 a, .int .i64 b] 86)
            have W18 := (W1.alloc (.cells #[.int .i64 a, .int .i64 b] 86)).grown hg8 (row_apart hownX (W1.alloc _) (by decide))
            have W08 := (W0.alloc (.cells #[.int .i64 a, .int .i64 b] 86)).grown hg8 (row_apart hownX (W0.alloc _) (by decide))
            have C8 := (c7.keep (below_grown (row := none) ((Below.refl _ _).alloc (Nat.le_refl _) (.cells #[.int .i64 a, .int .i64 b] 86))) (by simp)).keep hg8 (fun j hj => by have := (hownX.lt j hj).1; omega)
            have g8 := grown_row (grown_alloc gw (.cells #[.int .i64 a, .int .i64 b] 86)) hg8 (fun j hj => by have := (hownX.lt j hj).1; omega)
            have hs8 : w1.heap.size ≤ w8.heap.size := by have := hg8.size; rw [World.size_alloc] at this; omega
            have hne := row_apart hown8 W18 (by decide)
            obtain ⟨A8, c8, rfl⟩ := slice_of_row hown8
            have q5 : w8.cell? ⟨w.heap.size + 1, 2, none⟩ = some (.slice A l.length cap) := (W18.cell 2).trans rfl
            have q6 := W18.frozen 2
            have hel : (l ++ [(a, b)]).length = l.length + 1 := by simp
            have HE := Lib.hid hel
            have HF := Lib.hid (show flat (l ++ [(a, b)]) = flat l ++ [.int .i64 a, .int .i64 b] by rw [flat_append]; rfl)
            clear hownX hown W0 W1 XA x0 x1 q2 hg8 gw hel
            go_wp2
            go_roundw
            case rel =>
              refine ⟨A8, c8, l ++ [(a, b)], by rw [HE.out]; omega, ?_, ?_, ?_, ?_, ?_, grown_set_new g8 (by omega), by simpa [World.setCell] using hs8⟩
              · intro x hx
                rcases List.mem_append.1 hx with h | h
                · exact hgl x h
                · rw [List.mem_singleton.1 h]; exact hga
              · rw [HE.out, HF.out]
                exact row_setD hown8 _ _ hne
              · exact W08.set_far _ _ (by simp)
              · rw [HE.out]
                exact W18.set 2 _
              · rw [HE.out]
                exact (C8.mono (by omega)).set_far (by omega)
            case measure =>
              rw [HM.out]
              have hX := (W18.set 2 (.slice A8 (l.length + 1) c8)).cell 2
              have hY : lenAt ((w8.setCell ⟨w.heap.size + 1, 2, none⟩ (.slice A8 (l.length + 1) c8)).cell? ⟨w.heap.size + 1, 2, none⟩) = l.length + 1 := by rw [hX]; rfl
              first | (rw [hY]; omega) | (simp [hY]; omega)
      · go_wp2_with fail
        refine (cell_any p _ _ c2 (by omega)).mono ?_; rintro e w4 ⟨a, b, rfl, hga, c4, g5⟩
        replace XA := XA.grownC g5 (by omega); replace W0 := W0.grownC g5 (by omega); replace W1 := W1.grownC g5 (by omega); replace hown := row_cur hown g5 (by omega); replace gw := gw.trans g5; replace hsx := XA.lt; clear g5
        have z0 : w4.cell? ⟨wr.heap.size, 0, none⟩ = some (.int .i64 0) := (XA.cell 0).trans rfl
        have z1 : w4.cell? ⟨wr.heap.size, 1, none⟩ = some (.int .i64 0) := (XA.cell 1).trans rfl
        have z2 := XA.frozen 0
        have z3 := XA.frozen 1
        go_upto_region 7 with fail
        replace W0 := (W0.set_far ⟨wr.heap.size, 0, none⟩ (.int .i64 a) (by simp; omega)).set_far ⟨wr.heap.size, 1, none⟩ (.int .i64 b) (by simp; omega)
        replace W1 := (W1.set_far ⟨wr.heap.size, 0, none⟩ (.int .i64 a) (by simp; omega)).set_far ⟨wr.heap.size, 1, none⟩ (.int .i64 b) (by simp; omega)
        replace hown := row_setD (row_setD hown ⟨wr.heap.size, 0, none⟩ (.int .i64 a) HRow.out) ⟨wr.heap.size, 1, none⟩ (.int .i64 b) HRow.out
        replace gw := grown_set_new (grown_set_new gw (show w.heap.size ≤ wr.heap.size by omega) (j := 0) (u := .int .i64 a)) (show w.heap.size ≤ wr.heap.size by omega) (j := 1) (u := .int .i64 b)
        have c7 := (c4.set_far (show p < wr.heap.size by omega) (j := 0) (u := .int .i64 a)).set_far (show p < wr.heap.size by omega) (j := 1) (u := .int .i64 b)
        have XB : Whole ((w4.setCell ⟨wr.heap.size, 0, none⟩ (.int .i64 a)).setCell ⟨wr.heap.size, 1, none⟩ (.int .i64 b)) wr.heap.size 86 [.int .i64 a, .int .i64 b] := (XA.set 0 (.int .i64 a)).set 1 (.int .i64 b)
        clear XA z0 z1 z2 z3 hsx
        generalize (w4.setCell ⟨wr.heap.size, 0, none⟩ (.int .i64 a)).setCell ⟨wr.heap.size, 1, none⟩ (.int .i64 b) = w7 at *
        have XA := XB
        clear XB
        have hsx := XA.lt
        have x0 : w7.cell? ⟨wr.heap.size, 0, none⟩ = some (.int .i64 a) := (XA.cell 0).trans rfl
        by_cases h5 : a = 5
        · have HG := Lib.hid hga
          go_wp2_with fail
          refine (one_any p _ 3 _ c7 (by omega) (by omega) (by omega)).mono ?_; rintro e w5 ⟨t, rfl, c5, g6⟩
          replace XA := XA.grownC g6 (by omega); replace W0 := W0.grownC g6 (by omega); replace W1 := W1.grownC g6 (by omega); replace hown := row_cur hown g6 (by omega); replace gw := gw.trans g6; replace hsx := XA.lt; clear g6
          clear x0
          rcases t with _ | _
          · go_wp2_with fail
            refine (pick_any p _ 2 _ c5 (by omega) (by omega) (by omega)).mono ?_; rintro e w6 ⟨y, rfl, y0, y1, c6, g7⟩
            replace XA := XA.grownC g7 (by omega); replace W0 := W0.grownC g7 (by omega); replace W1 := W1.grownC g7 (by omega); replace hown := row_cur hown g7 (by omega); replace gw := gw.trans g7; replace hsx := XA.lt; clear g7
            have hg3 : good 3 y = true := by rcases (show y = 0 ∨ y = 1 by omega) with rfl | rfl <;> decide
            have z0 : w6.cell? ⟨wr.heap.size, 0, none⟩ = some (.int .i64 a) := (XA.cell 0).trans rfl
            have z1 : w6.cell? ⟨wr.heap.size, 1, none⟩ = some (.int .i64 b) := (XA.cell 1).trans rfl
            have z2 := XA.frozen 0
            have z3 := XA.frozen 1
            go_upto_region 9 with fail
            replace W0 := (W0.set_far ⟨wr.heap.size, 0, none⟩ (.int .i64 3) (by simp; omega)).set_far ⟨wr.heap.size, 1, none⟩ (.int .i64 y) (by simp; omega)
            replace W1 := (W1.set_far ⟨wr.heap.size, 0, none⟩ (.int .i64 3) (by simp; omega)).set_far ⟨wr.heap.size, 1, none⟩ (.int .i64 y) (by simp; omega)
            replace hown := row_setD (row_setD hown ⟨wr.heap.size, 0, none⟩ (.int .i64 3) HRow.out) ⟨wr.heap.size, 1, none⟩ (.int .i64 y) HRow.out
            replace gw := grown_set_new (grown_set_new gw (show w.heap.size ≤ wr.heap.size by omega) (j := 0) (u := .int .i64 3)) (show w.heap.size ≤ wr.heap.size by omega) (j := 1) (u := .int .i64 y)
            have c9 := (c6.set_far (show p < wr.heap.size by omega) (j := 0) (u := .int .i64 3)).set_far (show p < wr.heap.size by omega) (j := 1) (u := .int .i64 y)
            have XB : Whole ((w6.setCell ⟨wr.heap.size, 0, none⟩ (.int .i64 3)).setCell ⟨wr.heap.size, 1, none⟩ (.int .i64 y)) wr.heap.size 86 [.int .i64 3, .int .i64 y] := (XA.set 0 (.int .i64 3)).set 1 (.int .i64 y)
            clear XA z0 z1 z2 z3 hsx
            generalize (w6.setCell ⟨wr.heap.size, 0, none⟩ (.int .i64 3)).setCell ⟨wr.heap.size, 1, none⟩ (.int .i64 y) = w9 at *
            have XA := XB
            clear XB
            have hsx := XA.lt
            have x0 : w9.cell? ⟨wr.heap.size, 0, none⟩ = some (.int .i64 3) := (XA.cell 0).trans rfl
            have x1 : w9.cell? ⟨wr.heap.size, 1, none⟩ = some (.int .i64 y) := (XA.cell 1).trans rfl
            have q2 : w9.cell? ⟨w.heap.size + 1, 2, none⟩ = some (.slice A l.length cap) := (W1.cell 2).trans rfl
            go_wp2_with (first | (at_builtin; refine wpList_append_own _ rfl (.tmp 45) (.tmp 47) 23 rfl w1.heap.size 86 i0 _ 2 16 Tryz.underlying23 hi hz0 hz1 hz2 rfl (by omega) _ l.length (flat l) rfl (hown.alloc _) ⟨w9.heap.size, 0, none⟩ 1 1 [.int .i64 3, .int .i64 y] rfl rfl two_cells two_one (by unfold maxLen; omega) (by omega) (by rw [World.size_alloc]; omega) ?_) | fail)
            intro v8 w8 hown8 hg8 _
            have hownX := hown.alloc (.cells #[.int .i64 3, .int .i64 y] 86)
            have W18 := (W1.alloc (.cells #[.int .i64 3, .int .i64 y] 86)).grown hg8 (row_apart hownX (W1.alloc _) (by decide))
            have W08 := (W0.alloc (.cells #[.int .i64 3, .int .i64 y] 86)).grown hg8 (row_apart hownX (W0.alloc _) (by decide))
            have C8 := (c9.keep (below_grown (row := none) ((Below.refl _ _).alloc (Nat.le_refl _) (.cells #[.int .i64 3, .int .i64 y] 86))) (by simp)).keep hg8 (fun j hj => by have := (hownX.lt j hj).1; omega)
            have g8 := grown_row (grown_alloc gw (.cells #[.int .i64 3, .int .i64 y] 86)) hg8 (fun j hj => by have := (hownX.lt j hj).1; omega)
            have hs8 : w1.heap.size ≤ w8.heap.size := by have := hg8.size; rw [World.size_alloc] at this; omega
            have hne := row_apart hown8 W18 (by decide)
            obtain ⟨A8, c8, rfl⟩ := slice_of_row hown8
            have q5 : w8.cell? ⟨w.heap.size + 1, 2, none⟩ = some (.slice A l.length cap) := (W18.cell 2).trans rfl
            have q6 := W18.frozen 2
            have hel : (l ++ [(3, y)]).length = l.length + 1 := by simp
            have HE := Lib.hid hel
            have HF := Lib.hid (show flat (l ++ [(3, y)]) = flat l ++ [.int .i64 3, .int .i64 y] by rw [flat_append]; rfl)
            clear hownX hown W0 W1 XA x0 x1 q2 hg8 gw hel
            go_wp2
            go_roundw
            case rel =>
              refine ⟨A8, c8, l ++ [(3, y)], by rw [HE.out]; omega, ?_, ?_, ?_, ?_, ?_, grown_set_new g8 (by omega), by simpa [World.setCell] using hs8⟩
              · intro x hx
                rcases List.mem_append.1 hx with h | h
                · exact hgl x h
                · rw [List.mem_singleton.1 h]; exact hg3
              · rw [HE.out, HF.out]
                exact row_setD hown8 _ _ hne
              · exact W08.set_far _ _ (by simp)
              · rw [HE.out]
                exact W18.set 2 _
              · rw [HE.out]
                exact (C8.mono (by omega)).set_far (by omega)
            case measure =>
              rw [HM.out]
              have hX := (W18.set 2 (.slice A8 (l.length + 1) c8)).cell 2
              have hY : lenAt ((w8.setCell ⟨w.heap.size + 1, 2, none⟩ (.slice A8 (l.length + 1) c8)).cell? ⟨w.heap.size + 1, 2, none⟩) = l.length + 1 := by rw [hX]; rfl
              first | (rw [hY]; omega) | (simp [hY]; omega)
          · clear h5
            have x0 : w5.cell? ⟨wr.heap.size, 0, none⟩ = some (.int .i64 a) := (XA.cell 0).trans rfl
            have x1 : w5.cell? ⟨wr.heap.size, 1, none⟩ = some (.int .i64 b) := (XA.cell 1).trans rfl
            have q2 : w5.cell? ⟨w.heap.size + 1, 2, none⟩ = some (.slice A l.length cap) := (W1.cell 2).trans rfl
            go_wp2_with (first | (at_builtin; refine wpList_append_own _ rfl (.tmp 45) (.tmp 47) 23 rfl w1.heap.size 86 i0 _ 2 16 Tryz.underlying23 hi hz0 hz1 hz2 rfl (by omega) _ l.length (flat l) rfl (hown.alloc _) ⟨w5.heap.size, 0, none⟩ 1 1 [.int .i64 a, .int .i64 b] rfl rfl two_cells two_one (by unfold maxLen; omega) (by omega) (by rw [World.size_alloc]; omega) ?_) | fail)
            intro v8 w8 hown8 hg8 _
            have hownX := hown.alloc (.cells #[.int .i64 a, .int .i64 b] 86)
            have W18 := (W1.alloc (.cells #[.int .i64 a, .int .i64 b] 86)).grown hg8 (row_apart hownX (W1.alloc _) (by decide))
            have W08 := (W0.alloc (.cells #[.int .i64 a, .int .i64 b] 86)).grown hg8 (row_apart hownX (W0.alloc _) (by decide))
            have C8 := (c5.keep (below_grown (row := none) ((Below.refl _ _).alloc (Nat.le_refl _) (.cells #[.int .i64 a, .int .i64 b] 86))) (by simp)).keep hg8 (fun j hj => by have := (hownX.lt j hj).1; omega)
            have g8 := grown_row (grown_alloc gw (.cells #[.int .i64 a, .int .i64 b] 86)) hg8 (fun j hj => by have := (hownX.lt j hj).1; omega)
            have hs8 : w1.heap.size ≤ w8.heap.size := by have := hg8.size; rw [World.size_alloc] at this; omega
            have hne := row_apart hown8 W18 (by decide)
            obtain ⟨A8, c8, rfl⟩ := slice_of_row hown8
            have q5 : w8.cell? ⟨w.heap.size + 1, 2, none⟩ = some (.slice A l.length cap) := (W18.cell 2).trans rfl
            have q6 := W18.frozen 2
            have hel : (l ++ [(a, b)]).length = l.length + 1 := by simp
            have HE := Lib.hid hel
            have HF := Lib.hid (show flat (l ++ [(a, b)]) = flat l ++ [.int .i64 a, .int .i64 b] by rw [flat_append]; rfl)
            clear hownX hown W0 W1 XA x0 x1 q2 hg8 gw hel
            go_wp2
            go_roundw
            case rel =>
              refine ⟨A8, c8, l ++ [(a, b)], by rw [HE.out]; omega, ?_, ?_, ?_, ?_, ?_, grown_set_new g8 (by omega), by simpa [World.setCell] using hs8⟩
              · intro x hx
                rcases List.mem_append.1 hx with h | h
                · exact hgl x h
                · rw [List.mem_singleton.1 h]; exact HG.out
              · rw [HE.out, HF.out]
                exact row_setD hown8 _ _ hne
              · exact W08.set_far _ _ (by simp)
              · rw [HE.out]
                exact W18.set 2 _
              · rw [HE.out]
                exact (C8.mono (by omega)).set_far (by omega)
            case measure =>
              rw [HM.out]
              have hX := (W18.set 2 (.slice A8 (l.length + 1) c8)).cell 2
              have hY : lenAt ((w8.setCell ⟨w.heap.size + 1, 2, none⟩ (.slice A8 (l.length + 1) c8)).cell? ⟨w.heap.size + 1, 2, none⟩) = l.length + 1 := by rw [hX]; rfl
              first | (rw [hY]; omega) | (simp [hY]; omega)
        · have h6 : (a == 5) = false := by simp [h5]
          have x0 : w7.cell? ⟨wr.heap.size, 0, none⟩ = some (.int .i64 a) := (XA.cell 0).trans rfl
          have x1 : w7.cell? ⟨wr.heap.size, 1, none⟩ = some (.int .i64 b) := (XA.cell 1).trans rfl
          have q2 : w7.cell? ⟨w.heap.size + 1, 2, none⟩ = some (.slice A l.length cap) := (W1.cell 2).trans rfl
          go_wp2_with (first | (at_builtin; refine wpList_append_own _ rfl (.tmp 45) (.tmp 47) 23 rfl w1.heap.size 86 i0 _ 2 16 Tryz.underlying23 hi hz0 hz1 hz2 rfl (by omega) _ l.length (flat l) rfl (hown.alloc _) ⟨w7.heap.size, 0, none⟩ 1 1 [.int .i64 a, .int .i64 b] rfl rfl two_cells two_one (by unfold maxLen; omega) (by omega) (by rw [World.size_alloc]; omega) ?_) | fail)
          intro v8 w8 hown8 hg8 _
          have hownX := hown.alloc (.cells #[.int .i64 a, .int .i64 b] 86)
          have W18 := (W1.alloc (.cells #[.int .i64 a, .int .i64 b] 86)).grown hg8 (row_apart hownX (W1.alloc _) (by decide))
          have W08 := (W0.alloc (.cells #[.int .i64 a, .int .i64 b] 86)).grown hg8 (row_apart hownX (W0.alloc _) (by decide))
          have C8 := (c7.keep (below_grown (row := none) ((Below.refl _ _).alloc (Nat.le_refl _) (.cells #[.int .i64 a, .int .i64 b] 86))) (by simp)).keep hg8 (fun j hj => by have := (hownX.lt j hj).1; omega)
          have g8 := grown_row (grown_alloc gw (.cells #[.int .i64 a, .int .i64 b] 86)) hg8 (fun j hj => by have := (hownX.lt j hj).1; omega)
          have hs8 : w1.heap.size ≤ w8.heap.size := by have := hg8.size; rw [World.size_alloc] at this; omega
          have hne := row_apart hown8 W18 (by decide)
          obtain ⟨A8, c8, rfl⟩ := slice_of_row hown8
          have q5 : w8.cell? ⟨w.heap.size + 1, 2, none⟩ = some (.slice A l.length cap) := (W18.cell 2).trans rfl
          have q6 := W18.frozen 2
          have hel : (l ++ [(a, b)]).length = l.length + 1 := by simp
          have HE := Lib.hid hel
          have HF := Lib.hid (show flat (l ++ [(a, b)]) = flat l ++ [.int .i64 a, .int .i64 b] by rw [flat_append]; rfl)
          clear hownX hown W0 W1 XA x0 x1 q2 hg8 gw hel
          go_wp2
          go_roundw
          case rel =>
            refine ⟨A8, c8, l ++ [(a, b)], by rw [HE.out]; omega, ?_, ?_, ?_, ?_, ?_, grown_set_new g8 (by omega), by simpa [World.setCell] using hs8⟩
            · intro x hx
              rcases List.mem_append.1 hx with h | h
              · exact hgl x h
              · rw [List.mem_singleton.1 h]; exact hga
            · rw [HE.out, HF.out]
              exact row_setD hown8 _ _ hne
            · exact W08.set_far _ _ (by simp)
            · rw [HE.out]
              exact W18.set 2 _
            · rw [HE.out]
              exact (C8.mono (by omega)).set_far (by omega)
          case measure =>
            rw [HM.out]
            have hX := (W18.set 2 (.slice A8 (l.length + 1) c8)).cell 2
            have hY : lenAt ((w8.setCell ⟨w.heap.size + 1, 2, none⟩ (.slice A8 (l.length + 1) c8)).cell? ⟨w.heap.size + 1, 2, none⟩) = l.length + 1 := by rw [hX]; rfl
            first | (rw [hY]; omega) | (simp [hY]; omega)
    · have hi9 : decide ((l.length : Int) < (N : Int)) = false := by simp; omega
      have q1 := W0.frozen 0
      have q3 := W0.frozen 1
      have q4 := W0.frozen 2
      have p0 : wr.cell? ⟨w.heap.size, 0, none⟩ = some (.int .i64 0) := (W0.cell 0).trans rfl
      have p1 : wr.cell? ⟨w.heap.size, 1, none⟩ = some (.int .i64 0) := (W0.cell 1).trans rfl
      have p2 : wr.cell? ⟨w.heap.size, 2, none⟩ = some (.slice none 0 0) := (W0.cell 2).trans rfl
      have k1 : wr.cell? ⟨w.heap.size + 1, 1, none⟩ = some (.int .i64 (c : Int)) := (W1.cell 1).trans rfl
      go_wp2
      refine bodyPost_ret (v := .agg #[.int .i64 (r : Int), .int .i64 (c : Int), .slice A l.length cap]) ?_ rfl ?_; (focus (simp [results, Tryz.results75, go_sem, *]; done))
      have hlN : l.length = N := by omega
      have ho := own_of_row hown
      have hcap : l.length ≤ cap := by
        rcases hown.2 with ⟨h1, h2⟩ | ⟨g, cp, cur, h1, _, _, h2, _⟩
        · omega
        · injection h1 with e1 e2 e3
          omega
      have hg : goodB r c l = true := by
        unfold goodB sizeB
        simp only [Bool.and_eq_true, decide_eq_true_eq, List.all_eq_true]
        exact ⟨⟨by omega, by rw [hmul, hlN]⟩, fun x hx => hgl x hx⟩
      have hne := row_apart hown W0 (by decide)
      refine ⟨A, cap, l, rfl, hg, hcap, ?_, fun a ha => Nat.le_trans (by omega) (ho.2 a ha), ((((cw.mono (by omega)).set_far (by omega)).set_far (by omega)).set_far (by omega)), grown_set_new (grown_set_new (grown_set_new gw (by omega)) (by omega)) (by omega)⟩
      exact (own_of_row (row_setD (row_setD (row_setD hown _ _ hne) _ _ hne) _ _ hne)).1
end Go.Proofs.YtlnekfbhpfhcpaaGreat
namespace Go.Proofs.YtlnekfbhpfhcpaaGreat
open Go.ChangeShapes Go.WideShapes Go.ChangeAt Go.RowKit Go.Joins Go.Deep
set_option linter.unusedSimpArgs false
set_option linter.unusedVariables false
set_option maxRecDepth 100000
set_option maxHeartbeats 4000000
/-- What a draw of a board leaves: a good board of its own. -/
def GoodDraw (w : World) (p m : Nat) (e : Ending) (w' : World) : Prop := ∃ (R C : Int) (A : Option Addr) (cap : Nat) (l : List (Int × Int)), e = .returned (.agg #[.int .i64 R, .int .i64 C, .slice A l.length cap]) ∧ goodB R C l = true ∧ l.length ≤ cap ∧ Own w' A 86 (flat l) ∧ New w A ∧ Cr w' p m ∧ w.grownBy w' (some p)
theorem board_any (p n : Nat) (w : World) (h : Cr w p n) (hn : n ≤ 700000) :
    Calls Tryz.prog 50 #[.pointer (some ⟨p, 0, none⟩)] w (GoodDraw w p (n + 2100)) := by
  have hp := h.lt
  obtain ⟨v0, hv0, X0, B0, hz0⟩ := one_box w [.int .i64 0, .int .i64 0, .slice none 0 0] 25
  have HV := Lib.hid hv0
  clear hv0
  have C0 : Cr v0 p n := h.keep (below_grown (row := none) B0) (by simp)
  have gw : w.grownBy v0 (some p) := below_grown B0
  go_enter Tryz.func50, Tryz.ntmps50
  go_wp2_with fail
  rewrite [show w.alloc (.cells ([.int .i64 0, .int .i64 0, .slice none 0 0] : List Value).toArray 25) = v0 from HV.out]
  clear HV B0
  refine (one_any p _ 20 _ C0 (by omega) (by omega) (by omega)).mono ?_; rintro e w1 ⟨t, rfl, c1, g1⟩
  replace X0 := X0.grownC g1 (by omega)
  replace gw := gw.trans g1
  clear C0 g1 hz0
  rcases t with _ | _
  · go_wp2_with fail
    refine (pick_any p _ 5 _ c1 (by omega) (by omega) (by omega)).mono ?_; rintro e w2 ⟨x, rfl, x0, x1, c2, g2⟩
    replace X0 := X0.grownC g2 (by omega)
    replace gw := gw.trans g2
    obtain ⟨r, hr⟩ := Int.eq_ofNat_of_zero_le (show 0 ≤ 1 + x by omega)
    go_wp2_with fail
    refine (pick_any p _ 5 _ c2 (by omega) (by omega) (by omega)).mono ?_; rintro e w3 ⟨y, rfl, y0, y1, c3, g3⟩
    replace X0 := X0.grownC g3 (by omega)
    replace gw := gw.trans g3
    obtain ⟨c, hc⟩ := Int.eq_ofNat_of_zero_le (show 0 ≤ 1 + y by omega)
    go_wp2_with fail
    refine (boardOf_any p _ r c _ c3 (by omega) (by omega) (by omega) (by omega) (by omega)).mono ?_
    rintro e w9 ⟨A, cap, l, rfl, hg, hcap, ho, hn9, c9, g9⟩
    have Y := X0.grownC g9 (by omega)
    have q0 : w9.cell? ⟨w.heap.size, 0, none⟩ = some (.int .i64 0) := (Y.cell 0).trans rfl
    have q1 : w9.cell? ⟨w.heap.size, 1, none⟩ = some (.int .i64 0) := (Y.cell 1).trans rfl
    have q2 : w9.cell? ⟨w.heap.size, 2, none⟩ = some (.slice none 0 0) := (Y.cell 2).trans rfl
    have Yf0 := Y.frozen 0; have Yf1 := Y.frozen 1; have Yf2 := Y.frozen 2
    have hA : ∀ a, A = some a → w.heap.size < a.block := fun a ha => Nat.lt_of_lt_of_le X0.lt (hn9 a ha)
    go_wp2
    refine bodyPost_ret (v := .agg #[.int .i64 (r : Nat), .int .i64 (c : Nat), .slice A l.length cap]) ?_ rfl ?_; (focus (simp [results, Tryz.results50, go_sem, *]; done))
    refine ⟨_, _, A, cap, l, rfl, hg, hcap, ?_, fun a ha => Nat.le_of_lt (hA a ha), (((c9.mono (by omega)).set_far hp).set_far hp).set_far hp, grown_set_new (grown_set_new (grown_set_new (gw.trans g9) (Nat.le_refl _)) (Nat.le_refl _)) (Nat.le_refl _)⟩
    exact ((ho.set_far2 _ _ (fun _ a ha => by have := hA a ha; simp; omega)).set_far2 _ _ (fun _ a ha => by have := hA a ha; simp; omega)).set_far2 _ _ (fun _ a ha => by have := hA a ha; simp; omega)
  · obtain ⟨v1, hv1, Z0, B1, hz1⟩ := one_box w1 (ints [1, 10]) 3
    have HV := Lib.hid hv1
    clear hv1
    go_wp2_with fail
    rewrite [show w1.alloc (.cells ([.int .i64 1, .int .i64 10] : List Value).toArray 3) = v1 from HV.out]
    clear HV
    refine (among_any p _ (some ⟨w1.heap.size, 0, none⟩) 2 [1, 10] _ (c1.keep (below_grown (row := none) B1) (by simp)) (by omega) (by decide) (by decide) Z0.rdI (by have := c1.lt; simp; omega)).mono ?_; rintro e w2 ⟨x, rfl, hx, c2, g2⟩
    replace X0 := (X0.new B1).grownC g2 (by omega)
    replace gw := (gw.trans (below_grown B1)).trans g2
    clear Z0 B1 hz1 g2 c1
    obtain ⟨r, rfl⟩ := Int.eq_ofNat_of_zero_le (show 0 ≤ x by simp at hx; omega)
    have hr : r = 1 ∨ r = 10 := by simp at hx; omega
    obtain ⟨v3, hv3, Z0, B1, hz1⟩ := one_box w2 (ints [1, 9]) 3
    have HV := Lib.hid hv3
    clear hv3
    go_wp2_with fail
    rewrite [show w2.alloc (.cells ([.int .i64 1, .int .i64 9] : List Value).toArray 3) = v3 from HV.out]
    clear HV
    refine (among_any p _ (some ⟨w2.heap.size, 0, none⟩) 2 [1, 9] _ (c2.keep (below_grown (row := none) B1) (by simp)) (by omega) (by decide) (by decide) Z0.rdI (by have := c2.lt; simp; omega)).mono ?_; rintro e w3 ⟨y, rfl, hy, c3, g3⟩
    replace X0 := (X0.new B1).grownC g3 (by omega)
    replace gw := (gw.trans (below_grown B1)).trans g3
    clear Z0 B1 hz1 g3 c2
    obtain ⟨c, rfl⟩ := Int.eq_ofNat_of_zero_le (show 0 ≤ y by simp at hy; omega)
    have hc : c = 1 ∨ c = 9 := by simp at hy; omega
    go_wp2_with fail
    refine (boardOf_any p _ r c _ c3 (by omega) (by omega) (by omega) (by omega) (by omega)).mono ?_
    rintro e w9 ⟨A, cap, l, rfl, hg, hcap, ho, hn9, c9, g9⟩
    have Y := X0.grownC g9 (by omega)
    have q0 : w9.cell? ⟨w.heap.size, 0, none⟩ = some (.int .i64 0) := (Y.cell 0).trans rfl
    have q1 : w9.cell? ⟨w.heap.size, 1, none⟩ = some (.int .i64 0) := (Y.cell 1).trans rfl
    have q2 : w9.cell? ⟨w.heap.size, 2, none⟩ = some (.slice none 0 0) := (Y.cell 2).trans rfl
    have Yf0 := Y.frozen 0; have Yf1 := Y.frozen 1; have Yf2 := Y.frozen 2
    have hA : ∀ a, A = some a → w.heap.size < a.block := fun a ha => Nat.lt_of_lt_of_le X0.lt (hn9 a ha)
    go_wp2
    refine bodyPost_ret (v := .agg #[.int .i64 (r : Nat), .int .i64 (c : Nat), .slice A l.length cap]) ?_ rfl ?_; (focus (simp [results, Tryz.results50, go_sem, *]; done))
    refine ⟨_, _, A, cap, l, rfl, hg, hcap, ?_, fun a ha => Nat.le_of_lt (hA a ha), (((c9.mono (by omega)).set_far hp).set_far hp).set_far hp, grown_set_new (grown_set_new (grown_set_new (gw.trans g9) (Nat.le_refl _)) (Nat.le_refl _)) (Nat.le_refl _)⟩
    exact ((ho.set_far2 _ _ (fun _ a ha => by have := hA a ha; simp; omega)).set_far2 _ _ (fun _ a ha => by have := hA a ha; simp; omega)).set_far2 _ _ (fun _ a ha => by have := hA a ha; simp; omega)
end Go.Proofs.YtlnekfbhpfhcpaaGreat
namespace Go.Proofs.YtlnekfbhpfhcpaaGreat
open Go.ChangeShapes Go.WideShapes Go.ChangeAt Go.RowKit Go.Joins Go.Deep
set_option linter.unusedSimpArgs false
set_option linter.unusedVariables false
set_option maxRecDepth 100000
set_option maxHeartbeats 4000000
/-- A slice of the call's own that may begin inside its block. -/
def OwnAt (w : World) (A : Option Addr) (t : TypeId) (xs : List Value) : Prop :=
  0 < xs.length → ∃ (g : Nat) (pre rest : List Value), A = some ⟨g, pre.length, none⟩ ∧ Whole w g t (pre ++ xs ++ rest)
theorem OwnAt.rd {w : World} {A : Option Addr} {t : TypeId} {xs : List Value} (h : OwnAt w A t xs) : Rd w w.heap.size A xs := fun hx => by
  obtain ⟨g, pre, rest, e, hw⟩ := h hx
  refine ⟨g, pre.length, e, hw.lt, fun j u hu => ?_⟩
  have hj := (List.getElem?_eq_some_iff.1 hu).1
  rw [hw.cell, List.append_assoc, List.getElem?_append_right (by omega), List.getElem?_append_left (by omega)]
  rw [← hu]; congr 1; omega
theorem OwnAt.grownC {w w' : World} {A : Option Addr} {t : TypeId} {xs : List Value} {p : Nat} (h : OwnAt w A t xs) (hg : w.grownBy w' (some p)) (hne : ∀ a, A = some a → a.block ≠ p) : OwnAt w' A t xs := fun hx => by
  obtain ⟨g, pre, rest, e, hw⟩ := h hx
  exact ⟨g, pre, rest, e, hw.grownC hg (hne _ e)⟩
theorem OwnAt.new {w w' : World} {A : Option Addr} {t : TypeId} {xs : List Value} (h : OwnAt w A t xs) (hb : Below w.heap.size w w') : OwnAt w' A t xs := fun hx => by
  obtain ⟨g, pre, rest, e, hw⟩ := h hx
  exact ⟨g, pre, rest, e, hw.new hb⟩
theorem OwnAt.set_far {w : World} {A : Option Addr} {t : TypeId} {xs : List Value} (h : OwnAt w A t xs) (p : Addr) (u : Value) (hne : ∀ a, A = some a → p.block ≠ a.block) : OwnAt (w.setCell p u) A t xs := fun hx => by
  obtain ⟨g, pre, rest, e, hw⟩ := h hx
  exact ⟨g, pre, rest, e, hw.set_far p u (hne _ e)⟩
/-- What a draw of any board leaves: a board of its own, mostly a good one. -/
def AnyDraw (w : World) (p m : Nat) (e : Ending) (w' : World) : Prop := ∃ (R C : Int) (A : Option Addr) (cap : Nat) (l : List (Int × Int)), e = .returned (.agg #[.int .i64 R, .int .i64 C, .slice A l.length cap]) ∧ (0 ≤ R ∧ R ≤ 11) ∧ (0 ≤ C ∧ C ≤ 10) ∧ l.length ≤ 90 ∧ l.length ≤ cap ∧ OwnAt w' A 86 (flat l) ∧ New w A ∧ Cr w' p m ∧ w.grownBy w' (some p)
theorem keep_set {w : World} {g q j i : Nat} {u : Value} {x : Option Value} (h : w.cell? ⟨q, i, none⟩ = x) (hne : g ≠ q) : (w.setCell ⟨g, j, none⟩ u).cell? ⟨q, i, none⟩ = x :=
  (World.cell?_of_block (a := ⟨q, i, none⟩) (Below.heap_setCell w ⟨g, j, none⟩ u q (fun e => hne e.symm))).trans h
theorem cell_left {xs ys : List Value} {j : Nat} {u : Value} (h : xs[j]? = some u) : (xs ++ ys)[j]? = some u := by
  rw [List.getElem?_append_left (List.getElem?_eq_some_iff.1 h).1, h]
theorem run_makeN (n : Nat) (hn : n ≤ 1048576) (w : World) :
    (Instr.makeSlice 23 (.int .i64 (n : Int)) (.int .i64 (n : Int))).run Tryz.prog w = .ok (.slice (some ⟨w.heap.size, 0, none⟩) n n) (w.alloc (.cells (zrow (2 * n)).toArray 86)) := by
  obtain ⟨i0, hi, hz0, hz1, hz2⟩ := info_parts cellInfo
  have h := run_make (P := Tryz.prog) w 23 86 i0 _ Tryz.underlying23 hi hz0 .i64 .i64 (n : Int) (n : Int) (by omega) (by omega) (by rw [hz2]; omega) (by omega)
  rw [hz1] at h
  simp only [Int.toNat_natCast] at h
  rw [h, made_cells]
theorem anyBoard_any (p n : Nat) (w : World) (h : Cr w p n) (hn : n ≤ 600000) :
    Calls Tryz.prog 30 #[.pointer (some ⟨p, 0, none⟩)] w (AnyDraw w p (n + 2200)) := by
  have hp := h.lt
  obtain ⟨v0, hv0, Y, B0, hz0⟩ := one_box w [.int .i64 0, .int .i64 0, .slice none 0 0] 25
  have HV := Lib.hid hv0
  clear hv0
  have C0 : Cr v0 p n := h.keep (below_grown (row := none) B0) (by simp)
  have gw : w.grownBy v0 (some p) := below_grown B0
  go_enter Tryz.func30, Tryz.ntmps30
  go_wp2_with fail
  rewrite [show w.alloc (.cells ([.int .i64 0, .int .i64 0, .slice none 0 0] : List Value).toArray 25) = v0 from HV.out]
  clear HV B0
  refine (board_any p n _ C0 (by omega)).mono ?_; rintro e w1 ⟨R, C, A, cap, l, rfl, hg, hcap, ho, hn1, c1, g1⟩
  obtain ⟨hgl, hl90, hl0⟩ := goodB_parts hg
  obtain ⟨hsz, hlen, -⟩ := goodB_iff.1 hg
  rw [sizeB_iff] at hsz
  obtain ⟨g, rest, rfl, WG⟩ := ho (by rw [flat_length]; omega)
  have hgn : w.heap.size < g := by have := hn1 _ rfl; simp at this; omega
  have hgl1 := WG.lt
  replace Y := Y.grownC g1 (by omega)
  replace gw := gw.trans g1
  have HL := Lib.hid hlen
  clear C0 g1 hz0 ho hn1 hgl hlen
  obtain ⟨v1, hv1, XB, B1, hz1⟩ := one_box w1 [.int .i64 R, .int .i64 C, .slice (some ⟨g, 0, none⟩) l.length cap] 25
  have HV := Lib.hid hv1
  clear hv1
  go_wp2_with fail
  rewrite [show w1.alloc (.cells ([.int .i64 R, .int .i64 C, .slice (some ⟨g, 0, none⟩) l.length cap] : List Value).toArray 25) = v1 from HV.out]
  clear HV
  refine (pick_any p _ 36 _ (c1.keep (below_grown (row := none) B1) (by simp)) (by omega) (by omega) (by omega)).mono ?_; rintro e w3 ⟨x, rfl, x0, x1, c3, g3⟩
  replace Y := (Y.new B1).grownC g3 (by omega)
  replace XB := XB.grownC g3 (by have := c1.lt; omega)
  replace WG := (WG.new B1).grownC g3 (by omega)
  replace gw := (gw.trans (below_grown B1)).trans g3
  have hs3 := XB.lt
  have hp3 := c1.lt
  clear B1 hz1 g3 c1
  by_cases h0 : x = 0
  · subst h0
    obtain ⟨v3, hv3, Z0, B1, hz1⟩ := one_box w3 (ints [0, R + 1, 10, 11]) 3
    have HV := Lib.hid hv3
    clear hv3
    have k0 : w3.cell? ⟨w1.heap.size, 0, none⟩ = some (.int .i64 R) := (XB.cell 0).trans rfl
    go_wp2_with fail
    rewrite [show w3.alloc (.cells ([.int .i64 0, .int .i64 (R + 1), .int .i64 10, .int .i64 11] : List Value).toArray 3) = v3 from HV.out]
    clear HV k0
    refine (among_any p _ (some ⟨w3.heap.size, 0, none⟩) 4 [0, R + 1, 10, 11] _ (c3.keep (below_grown (row := none) B1) (by simp)) (by omega) (by simp) (by simp) Z0.rdI (by simp; omega)).mono ?_; rintro e w4 ⟨y, rfl, hy, c4, g4⟩
    replace Y := (Y.new B1).grownC g4 (by omega)
    replace XB := (XB.new B1).grownC g4 (by omega)
    replace WG := (WG.new B1).grownC g4 (by omega)
    replace gw := (gw.trans (below_grown B1)).trans g4
    clear Z0 B1 hz1 g4 c3
    have q0 : w4.cell? ⟨w.heap.size, 0, none⟩ = some (.int .i64 0) := (Y.cell 0).trans rfl
    have q1 : w4.cell? ⟨w.heap.size, 1, none⟩ = some (.int .i64 0) := (Y.cell 1).trans rfl
    have q2 : w4.cell? ⟨w.heap.size, 2, none⟩ = some (.slice none 0 0) := (Y.cell 2).trans rfl
    have k0 : w4.cell? ⟨w1.heap.size, 0, none⟩ = some (.int .i64 R) := (XB.cell 0).trans rfl
    have k1 : w4.cell? ⟨w1.heap.size, 1, none⟩ = some (.int .i64 C) := (XB.cell 1).trans rfl
    have k2 : w4.cell? ⟨w1.heap.size, 2, none⟩ = some (.slice (some ⟨g, 0, none⟩) l.length cap) := (XB.cell 2).trans rfl
    have Yf0 := Y.frozen 0; have Yf1 := Y.frozen 1; have Yf2 := Y.frozen 2
    have k3 := XB.frozen 0
    have k4 := XB.frozen 1
    have k5 := XB.frozen 2
    go_wp2
    refine bodyPost_ret (v := .agg #[.int .i64 y, .int .i64 C, .slice (some ⟨g, 0, none⟩) l.length cap]) ?_ rfl ?_; (focus (simp [results, Tryz.results30, go_sem, *]; done))
    refine ⟨y, C, _, cap, l, rfl, (by simp at hy; omega), (by simp at hy; omega), hl90, hcap, fun _ => ⟨g, [], rest, rfl, (((WG.set_far _ _ (by simp; omega)).set_far _ _ (by simp; omega)).set_far _ _ (by simp; omega)).set_far _ _ (by simp; omega)⟩, fun a ha => by cases ha; exact Nat.le_of_lt hgn, ((((c4.mono (by omega)).set_far (by omega)).set_far hp).set_far hp).set_far hp, grown_set_new (grown_set_new (grown_set_new (grown_set_new gw (by omega)) (Nat.le_refl _)) (Nat.le_refl _)) (Nat.le_refl _)⟩
  · by_cases h1 : x = 1
    · subst h1
      obtain ⟨v3, hv3, Z0, B1, hz1⟩ := one_box w3 (ints [0, C + 1, 9, 10]) 3
      have HV := Lib.hid hv3
      clear hv3
      have k0 : w3.cell? ⟨w1.heap.size, 1, none⟩ = some (.int .i64 C) := (XB.cell 1).trans rfl
      go_wp2_with fail
      rewrite [show w3.alloc (.cells ([.int .i64 0, .int .i64 (C + 1), .int .i64 9, .int .i64 10] : List Value).toArray 3) = v3 from HV.out]
      clear HV k0
      refine (among_any p _ (some ⟨w3.heap.size, 0, none⟩) 4 [0, C + 1, 9, 10] _ (c3.keep (below_grown (row := none) B1) (by simp)) (by omega) (by simp) (by simp) Z0.rdI (by simp; omega)).mono ?_; rintro e w4 ⟨y, rfl, hy, c4, g4⟩
      replace Y := (Y.new B1).grownC g4 (by omega)
      replace XB := (XB.new B1).grownC g4 (by omega)
      replace WG := (WG.new B1).grownC g4 (by omega)
      replace gw := (gw.trans (below_grown B1)).trans g4
      clear Z0 B1 hz1 g4 c3
      have q0 : w4.cell? ⟨w.heap.size, 0, none⟩ = some (.int .i64 0) := (Y.cell 0).trans rfl
      have q1 : w4.cell? ⟨w.heap.size, 1, none⟩ = some (.int .i64 0) := (Y.cell 1).trans rfl
      have q2 : w4.cell? ⟨w.heap.size, 2, none⟩ = some (.slice none 0 0) := (Y.cell 2).trans rfl
      have k0 : w4.cell? ⟨w1.heap.size, 0, none⟩ = some (.int .i64 R) := (XB.cell 0).trans rfl
      have k1 : w4.cell? ⟨w1.heap.size, 1, none⟩ = some (.int .i64 C) := (XB.cell 1).trans rfl
      have k2 : w4.cell? ⟨w1.heap.size, 2, none⟩ = some (.slice (some ⟨g, 0, none⟩) l.length cap) := (XB.cell 2).trans rfl
      have Yf0 := Y.frozen 0; have Yf1 := Y.frozen 1; have Yf2 := Y.frozen 2
      have k3 := XB.frozen 0
      have k4 := XB.frozen 1
      have k5 := XB.frozen 2
      go_wp2
      refine bodyPost_ret (v := .agg #[.int .i64 R, .int .i64 y, .slice (some ⟨g, 0, none⟩) l.length cap]) ?_ rfl ?_; (focus (simp [results, Tryz.results30, go_sem, *]; done))
      refine ⟨R, y, _, cap, l, rfl, (by simp at hy; omega), (by simp at hy; omega), hl90, hcap, fun _ => ⟨g, [], rest, rfl, (((WG.set_far _ _ (by simp; omega)).set_far _ _ (by simp; omega)).set_far _ _ (by simp; omega)).set_far _ _ (by simp; omega)⟩, fun a ha => by cases ha; exact Nat.le_of_lt hgn, ((((c4.mono (by omega)).set_far (by omega)).set_far hp).set_far hp).set_far hp, grown_set_new (grown_set_new (grown_set_new (grown_set_new gw (by omega)) (Nat.le_refl _)) (Nat.le_refl _)) (Nat.le_refl _)⟩
    · by_cases h2 : x = 2
      · subst h2
        have k2 : w3.cell? ⟨w1.heap.size, 2, none⟩ = some (.slice (some ⟨g, 0, none⟩) l.length cap) := (XB.cell 2).trans rfl
        have hgne : g ≠ w1.heap.size := by omega
        have hgne' : w1.heap.size ≠ g := by omega
        go_upto_region 8 with fail
        go_region_held3 (fun w' => w'.cell? ⟨w1.heap.size, 2, none⟩ = some (.slice (some ⟨g, 0, none⟩) l.length cap))
          (first | exact keep_set (keep_set (((XB5.new (by (repeat' (first | (with_reducible exact Below.refl _ _) | (with_reducible assumption) | (with_reducible refine Below.alloc ?_ ?_ _) | (with_reducible refine Below.setCell ?_ ?_ _) | (with_reducible refine Below.drew ?_) | (with_reducible refine below_drewN ?_ _) | (with_reducible refine Below.trans ?_ (Below.mono (by assumption) ?_)) | go_size)) : Below w5.heap.size w5 _)).cell 2).trans rfl) hgne) hgne | exact ((XB5.new (by (repeat' (first | (with_reducible exact Below.refl _ _) | (with_reducible assumption) | (with_reducible refine Below.alloc ?_ ?_ _) | (with_reducible refine Below.setCell ?_ ?_ _) | (with_reducible refine Below.drew ?_) | (with_reducible refine below_drewN ?_ _) | (with_reducible refine Below.trans ?_ (Below.mono (by assumption) ?_)) | go_size)) : Below w5.heap.size w5 _)).cell 2).trans rfl | exact ((XB4.new (by (repeat' (first | (with_reducible exact Below.refl _ _) | (with_reducible assumption) | (with_reducible refine Below.alloc ?_ ?_ _) | (with_reducible refine Below.setCell ?_ ?_ _) | (with_reducible refine Below.drew ?_) | (with_reducible refine below_drewN ?_ _) | (with_reducible refine Below.trans ?_ (Below.mono (by assumption) ?_)) | go_size)) : Below w4.heap.size w4 _)).cell 2).trans rfl | exact ((XB.new (by (repeat' (first | (with_reducible exact Below.refl _ _) | (with_reducible assumption) | (with_reducible refine Below.alloc ?_ ?_ _) | (with_reducible refine Below.setCell ?_ ?_ _) | (with_reducible refine Below.drew ?_) | (with_reducible refine below_drewN ?_ _) | (with_reducible refine Below.trans ?_ (Below.mono (by assumption) ?_)) | go_size)) : Below w3.heap.size w3 _)).cell 2).trans rfl | fail)
          ((first | (go_at_call 51; (with_reducible refine (pick_any p (n + 2100 + 2) l.length _ ?_ (by omega) (by omega) (by omega)).mono ?_); (focus exact c3.keep (below_grown (row := none) (by (repeat' (first | (with_reducible exact Below.refl _ _) | (with_reducible assumption) | (with_reducible refine Below.alloc ?_ ?_ _) | (with_reducible refine Below.setCell ?_ ?_ _) | (with_reducible refine Below.drew ?_) | (with_reducible refine below_drewN ?_ _) | (with_reducible refine Below.trans ?_ (Below.mono (by assumption) ?_)) | go_size)) : Below w3.heap.size w3 _)) (by simp)); rintro e w4 ⟨y, rfl, y0, y1, c4, g4⟩; (obtain ⟨k, rfl⟩ := Int.eq_ofNat_of_zero_le y0); have hk : k < l.length := (by omega); have hki : (k : Int) < (l.length : Int) := (by omega); have G4 := (below_grown (row := some p) (by (repeat' (first | (with_reducible exact Below.refl _ _) | (with_reducible assumption) | (with_reducible refine Below.alloc ?_ ?_ _) | (with_reducible refine Below.setCell ?_ ?_ _) | (with_reducible refine Below.drew ?_) | (with_reducible refine below_drewN ?_ _) | (with_reducible refine Below.trans ?_ (Below.mono (by assumption) ?_)) | go_size)) : Below w3.heap.size w3 _)).trans g4; have XB4 := XB.grownC G4 (by omega); have WG4 := WG.grownC G4 (by omega); clear g4) | (go_at_call 53; (with_reducible refine (anyCell_any p (n + 2100 + 2 + 2) _ ?_ (by omega)).mono ?_); (focus exact c4.keep (below_grown (row := none) (by (repeat' (first | (with_reducible exact Below.refl _ _) | (with_reducible assumption) | (with_reducible refine Below.alloc ?_ ?_ _) | (with_reducible refine Below.setCell ?_ ?_ _) | (with_reducible refine Below.drew ?_) | (with_reducible refine below_drewN ?_ _) | (with_reducible refine Below.trans ?_ (Below.mono (by assumption) ?_)) | go_size)) : Below w4.heap.size w4 _)) (by simp)); rintro e w5 ⟨a, b, rfl, hab, c5, g5⟩; have G5 := G4.trans ((below_grown (row := some p) (by (repeat' (first | (with_reducible exact Below.refl _ _) | (with_reducible assumption) | (with_reducible refine Below.alloc ?_ ?_ _) | (with_reducible refine Below.setCell ?_ ?_ _) | (with_reducible refine Below.drew ?_) | (with_reducible refine below_drewN ?_ _) | (with_reducible refine Below.trans ?_ (Below.mono (by assumption) ?_)) | go_size)) : Below w4.heap.size w4 _)).trans g5); have XB5 := XB.grownC G5 (by omega); have WG5 := WG.grownC G5 (by omega); clear g5; have m0 : w5.cell? ⟨g, k * 2, none⟩ = some (.int .i64 l[k].1) := (WG5.cell (k * 2)).trans (cell_left (flat_at l k hk).1); have m1 : w5.cell? ⟨g, k * 2 + 1, none⟩ = some (.int .i64 l[k].2) := (WG5.cell (k * 2 + 1)).trans (cell_left (flat_at l k hk).2); have m2 := WG5.frozen (k * 2); have m3 := WG5.frozen (k * 2 + 1)) | fail))
        have WF := (WG5.set (k * 2) (.int .i64 a)).set (k * 2 + 1) (.int .i64 b)
        rw [flat_set _ _ _ _ hk] at WF
        replace Y := ((Y.grownC G5 (by omega)).set_far ⟨g, k * 2, none⟩ (.int .i64 a) (by simp; omega)).set_far ⟨g, k * 2 + 1, none⟩ (.int .i64 b) (by simp; omega)
        replace XB := (XB5.set_far ⟨g, k * 2, none⟩ (.int .i64 a) hgne).set_far ⟨g, k * 2 + 1, none⟩ (.int .i64 b) hgne
        have c6 := (c5.set_far (show p < g by omega) (j := k * 2) (u := .int .i64 a)).set_far (show p < g by omega) (j := k * 2 + 1) (u := .int .i64 b)
        replace gw := grown_set_new (grown_set_new (gw.trans G5) (show w.heap.size ≤ g by omega) (j := k * 2) (u := .int .i64 a)) (show w.heap.size ≤ g by omega) (j := k * 2 + 1) (u := .int .i64 b)
        clear XB4 XB5 WG4 WG5 WG G4 G5 m0 m1 m2 m3 k2 c5 c4
        generalize (w5.setCell ⟨g, k * 2, none⟩ (.int .i64 a)).setCell ⟨g, k * 2 + 1, none⟩ (.int .i64 b) = w6 at *
        have q0 : w6.cell? ⟨w.heap.size, 0, none⟩ = some (.int .i64 0) := (Y.cell 0).trans rfl
        have q1 : w6.cell? ⟨w.heap.size, 1, none⟩ = some (.int .i64 0) := (Y.cell 1).trans rfl
        have q2 : w6.cell? ⟨w.heap.size, 2, none⟩ = some (.slice none 0 0) := (Y.cell 2).trans rfl
        have k0 : w6.cell? ⟨w1.heap.size, 0, none⟩ = some (.int .i64 R) := (XB.cell 0).trans rfl
        have k1 : w6.cell? ⟨w1.heap.size, 1, none⟩ = some (.int .i64 C) := (XB.cell 1).trans rfl
        have k2 : w6.cell? ⟨w1.heap.size, 2, none⟩ = some (.slice (some ⟨g, 0, none⟩) l.length cap) := (XB.cell 2).trans rfl
        have Yf0 := Y.frozen 0; have Yf1 := Y.frozen 1; have Yf2 := Y.frozen 2
        have k3 := XB.frozen 0
        have k4 := XB.frozen 1
        have k5 := XB.frozen 2
        go_wp2
        refine bodyPost_ret (v := .agg #[.int .i64 R, .int .i64 C, .slice (some ⟨g, 0, none⟩) l.length cap]) ?_ rfl ?_; (focus (simp [results, Tryz.results30, go_sem, *]; done))
        refine ⟨R, C, some ⟨g, 0, none⟩, cap, l.set k (a, b), by rw [List.length_set], by omega, by omega, by rw [List.length_set]; exact hl90, by rw [List.length_set]; exact hcap, fun _ => ⟨g, [], rest, rfl, ((WF.set_far _ _ (by simp; omega)).set_far _ _ (by simp; omega)).set_far _ _ (by simp; omega)⟩, fun a ha => by cases ha; exact Nat.le_of_lt hgn, (((c6.mono (by omega)).set_far hp).set_far hp).set_far hp, grown_set_new (grown_set_new (grown_set_new gw (Nat.le_refl _)) (Nat.le_refl _)) (Nat.le_refl _)⟩
      · by_cases h3 : x = 3
        · subst h3
          have q0 : w3.cell? ⟨w.heap.size, 0, none⟩ = some (.int .i64 0) := (Y.cell 0).trans rfl
          have q1 : w3.cell? ⟨w.heap.size, 1, none⟩ = some (.int .i64 0) := (Y.cell 1).trans rfl
          have q2 : w3.cell? ⟨w.heap.size, 2, none⟩ = some (.slice none 0 0) := (Y.cell 2).trans rfl
          have k0 : w3.cell? ⟨w1.heap.size, 0, none⟩ = some (.int .i64 R) := (XB.cell 0).trans rfl
          have k1 : w3.cell? ⟨w1.heap.size, 1, none⟩ = some (.int .i64 C) := (XB.cell 1).trans rfl
          have k2 : w3.cell? ⟨w1.heap.size, 2, none⟩ = some (.slice (some ⟨g, 0, none⟩) l.length cap) := (XB.cell 2).trans rfl
          have Yf0 := Y.frozen 0; have Yf1 := Y.frozen 1; have Yf2 := Y.frozen 2
          have k3 := XB.frozen 0
          have k4 := XB.frozen 1
          have k5 := XB.frozen 2
          have e1 : (1 : Int) ≤ (l.length : Int) := by omega
          have e2 : (1 : Int) ≤ (cap : Int) := by omega
          go_wp2
          case inl =>
            have hl1 : l.length - 1 = 0 := by omega
            refine bodyPost_ret (v := .agg #[.int .i64 R, .int .i64 C, .slice (some ⟨g, 0, none⟩) (l.length - 1) 0]) ?_ rfl ?_; (focus (simp [results, Tryz.results30, go_sem, *]; done))
            refine ⟨R, C, some ⟨g, 0, none⟩, 0, [], (by rw [hl1]; rfl), by omega, by omega, by simp, Nat.zero_le _, fun hx => absurd hx (by simp [flat]), fun a ha => by cases ha; exact Nat.le_of_lt hgn, ((((c3.mono (by omega)).set_far (by omega)).set_far hp).set_far hp).set_far hp, grown_set_new (grown_set_new (grown_set_new (grown_set_new gw (by omega)) (Nat.le_refl _)) (Nat.le_refl _)) (Nat.le_refl _)⟩
          case inr =>
            refine bodyPost_ret (v := .agg #[.int .i64 R, .int .i64 C, .slice (some ⟨g, 2, none⟩) (l.length - 1) (cap - 1)]) ?_ rfl ?_; (focus (simp [results, Tryz.results30, go_sem, *]; done))
            obtain ⟨u, l', rfl⟩ : ∃ u l', l = u :: l' := by
              cases l with
              | nil => simp at hl0
              | cons u l' => exact ⟨u, l', rfl⟩
            simp only [List.length_cons] at hl90 hcap
            refine ⟨R, C, some ⟨g, 2, none⟩, cap - 1, l', (by simp), by omega, by omega, by omega, by omega, fun _ => ⟨g, [.int .i64 u.1, .int .i64 u.2], rest, rfl, ?_⟩, fun a ha => by cases ha; exact Nat.le_of_lt hgn, ((((c3.mono (by omega)).set_far (by omega)).set_far hp).set_far hp).set_far hp, grown_set_new (grown_set_new (grown_set_new (grown_set_new gw (by omega)) (Nat.le_refl _)) (Nat.le_refl _)) (Nat.le_refl _)⟩
            have WF := (((WG.set_far ⟨w1.heap.size, 2, none⟩ (.slice (some ⟨g, 2, none⟩) ((u :: l').length - 1) (cap - 1)) (by simp; omega)).set_far ⟨w.heap.size, 0, none⟩ (.int .i64 R) (by simp; omega)).set_far ⟨w.heap.size, 1, none⟩ (.int .i64 C) (by simp; omega)).set_far ⟨w.heap.size, 2, none⟩ (.slice (some ⟨g, 2, none⟩) ((u :: l').length - 1) (cap - 1)) (by simp; omega)
            simpa [flat] using WF
        · by_cases h4 : x = 4
          · subst h4
            obtain ⟨v3, hv3, Z0, B1, hz1⟩ := one_box w3 (zrow (2 * 22)) 86
            have hmk : (Instr.makeSlice 23 (.int .i64 22) (.int .i64 22)).run Tryz.prog w3 = .ok (.slice (some ⟨w3.heap.size, 0, none⟩) 22 22) v3 := by rw [← hv3]; exact run_makeN 22 (by omega) w3
            clear hv3
            replace Y := Y.new B1
            replace XB := XB.new B1
            replace gw := gw.trans (below_grown (row := some p) B1)
            have c4 := c3.keep (below_grown (row := none) B1) (by simp)
            clear B1
            have q0 : v3.cell? ⟨w.heap.size, 0, none⟩ = some (.int .i64 0) := (Y.cell 0).trans rfl
            have q1 : v3.cell? ⟨w.heap.size, 1, none⟩ = some (.int .i64 0) := (Y.cell 1).trans rfl
            have q2 : v3.cell? ⟨w.heap.size, 2, none⟩ = some (.slice none 0 0) := (Y.cell 2).trans rfl
            have k0 : v3.cell? ⟨w1.heap.size, 0, none⟩ = some (.int .i64 R) := (XB.cell 0).trans rfl
            have k1 : v3.cell? ⟨w1.heap.size, 1, none⟩ = some (.int .i64 C) := (XB.cell 1).trans rfl
            have k2 : v3.cell? ⟨w1.heap.size, 2, none⟩ = some (.slice (some ⟨g, 0, none⟩) l.length cap) := (XB.cell 2).trans rfl
            have Yf0 := Y.frozen 0; have Yf1 := Y.frozen 1; have Yf2 := Y.frozen 2
            have k3 := XB.frozen 0
            have k4 := XB.frozen 1
            have k5 := XB.frozen 2
            go_wp2
            refine bodyPost_ret (v := .agg #[.int .i64 11, .int .i64 2, .slice (some ⟨w3.heap.size, 0, none⟩) 22 22]) ?_ rfl ?_; (focus (simp [results, Tryz.results30, go_sem, *]; done))
            refine ⟨11, 2, some ⟨w3.heap.size, 0, none⟩, 22, List.replicate 22 (0, 0), rfl, by omega, by omega, by simp, by simp, fun _ => ⟨w3.heap.size, [], [], rfl, ?_⟩, fun a ha => by cases ha; simp; omega, ((((((c4.mono (by omega)).set_far (by omega)).set_far (by omega)).set_far (by omega)).set_far hp).set_far hp).set_far hp, grown_set_new (grown_set_new (grown_set_new (grown_set_new (grown_set_new (grown_set_new gw (by omega)) (by omega)) (by omega)) (Nat.le_refl _)) (Nat.le_refl _)) (Nat.le_refl _)⟩
            exact (((((Z0.set_far _ _ (by simp; omega)).set_far _ _ (by simp; omega)).set_far _ _ (by simp; omega)).set_far _ _ (by simp; omega)).set_far _ _ (by simp; omega)).set_far _ _ (by simp; omega)
          · by_cases h5 : x = 5
            · subst h5
              obtain ⟨v3, hv3, Z0, B1, hz1⟩ := one_box w3 (zrow (2 * 20)) 86
              have hmk : (Instr.makeSlice 23 (.int .i64 20) (.int .i64 20)).run Tryz.prog w3 = .ok (.slice (some ⟨w3.heap.size, 0, none⟩) 20 20) v3 := by rw [← hv3]; exact run_makeN 20 (by omega) w3
              clear hv3
              replace Y := Y.new B1
              replace XB := XB.new B1
              replace gw := gw.trans (below_grown (row := some p) B1)
              have c4 := c3.keep (below_grown (row := none) B1) (by simp)
              clear B1
              have q0 : v3.cell? ⟨w.heap.size, 0, none⟩ = some (.int .i64 0) := (Y.cell 0).trans rfl
              have q1 : v3.cell? ⟨w.heap.size, 1, none⟩ = some (.int .i64 0) := (Y.cell 1).trans rfl
              have q2 : v3.cell? ⟨w.heap.size, 2, none⟩ = some (.slice none 0 0) := (Y.cell 2).trans rfl
              have k0 : v3.cell? ⟨w1.heap.size, 0, none⟩ = some (.int .i64 R) := (XB.cell 0).trans rfl
              have k1 : v3.cell? ⟨w1.heap.size, 1, none⟩ = some (.int .i64 C) := (XB.cell 1).trans rfl
              have k2 : v3.cell? ⟨w1.heap.size, 2, none⟩ = some (.slice (some ⟨g, 0, none⟩) l.length cap) := (XB.cell 2).trans rfl
              have Yf0 := Y.frozen 0; have Yf1 := Y.frozen 1; have Yf2 := Y.frozen 2
              have k3 := XB.frozen 0
              have k4 := XB.frozen 1
              have k5 := XB.frozen 2
              go_wp2
              refine bodyPost_ret (v := .agg #[.int .i64 2, .int .i64 10, .slice (some ⟨w3.heap.size, 0, none⟩) 20 20]) ?_ rfl ?_; (focus (simp [results, Tryz.results30, go_sem, *]; done))
              refine ⟨2, 10, some ⟨w3.heap.size, 0, none⟩, 20, List.replicate 20 (0, 0), rfl, by omega, by omega, by simp, by simp, fun _ => ⟨w3.heap.size, [], [], rfl, ?_⟩, fun a ha => by cases ha; simp; omega, ((((((c4.mono (by omega)).set_far (by omega)).set_far (by omega)).set_far (by omega)).set_far hp).set_far hp).set_far hp, grown_set_new (grown_set_new (grown_set_new (grown_set_new (grown_set_new (grown_set_new gw (by omega)) (by omega)) (by omega)) (Nat.le_refl _)) (Nat.le_refl _)) (Nat.le_refl _)⟩
              exact (((((Z0.set_far _ _ (by simp; omega)).set_far _ _ (by simp; omega)).set_far _ _ (by simp; omega)).set_far _ _ (by simp; omega)).set_far _ _ (by simp; omega)).set_far _ _ (by simp; omega)
            · have q0 : w3.cell? ⟨w.heap.size, 0, none⟩ = some (.int .i64 0) := (Y.cell 0).trans rfl
              have q1 : w3.cell? ⟨w.heap.size, 1, none⟩ = some (.int .i64 0) := (Y.cell 1).trans rfl
              have q2 : w3.cell? ⟨w.heap.size, 2, none⟩ = some (.slice none 0 0) := (Y.cell 2).trans rfl
              have k0 : w3.cell? ⟨w1.heap.size, 0, none⟩ = some (.int .i64 R) := (XB.cell 0).trans rfl
              have k1 : w3.cell? ⟨w1.heap.size, 1, none⟩ = some (.int .i64 C) := (XB.cell 1).trans rfl
              have k2 : w3.cell? ⟨w1.heap.size, 2, none⟩ = some (.slice (some ⟨g, 0, none⟩) l.length cap) := (XB.cell 2).trans rfl
              have Yf0 := Y.frozen 0; have Yf1 := Y.frozen 1; have Yf2 := Y.frozen 2
              have k3 := XB.frozen 0
              have k4 := XB.frozen 1
              have k5 := XB.frozen 2
              go_wp2
              refine bodyPost_ret (v := .agg #[.int .i64 R, .int .i64 C, .slice (some ⟨g, 0, none⟩) l.length cap]) ?_ rfl ?_; (focus (simp [results, Tryz.results30, go_sem, *]; done))
              refine ⟨R, C, _, cap, l, rfl, by omega, by omega, hl90, hcap, fun _ => ⟨g, [], rest, rfl, ((WG.set_far _ _ (by simp; omega)).set_far _ _ (by simp; omega)).set_far _ _ (by simp; omega)⟩, fun a ha => by cases ha; exact Nat.le_of_lt hgn, (((c3.mono (by omega)).set_far hp).set_far hp).set_far hp, grown_set_new (grown_set_new (grown_set_new gw (Nat.le_refl _)) (Nat.le_refl _)) (Nat.le_refl _)⟩
end Go.Proofs.YtlnekfbhpfhcpaaGreat
namespace Go.Proofs.YtlnekfbhpfhcpaaGreat
open Go.ChangeShapes Go.WideShapes Go.ChangeAt Go.RowKit Go.Joins Go.Deep
set_option linter.unusedSimpArgs false
set_option linter.unusedVariables false
set_option maxRecDepth 100000
set_option maxHeartbeats 2000000
theorem l1Most_d (a b : Int) (w : World) : Calls Tryz.prog 55 #[.int .i64 a, .int .i64 b] w fun e w' => ∃ m : Int, e = .returned (.int .i64 m) ∧ m = (if b < a then a else b) ∧ w = w' := by
  go_enter Tryz.func55, Tryz.ntmps55
  by_cases h : b < a
  · go_wp2
    go_returns
    exact ⟨a, rfl, (by first | rfl | (split <;> omega)), rfl⟩
  · go_wp2
    go_returns
    exact ⟨b, rfl, (by first | rfl | (split <;> omega)), rfl⟩
theorem columnOf_any (p n : Nat) (R C : Int) (A : Option Addr) (k cap : Nat) (w : World) (h : Cr w p n) (hn : n ≤ 900000) (hR : 0 ≤ R ∧ R ≤ 20) (hC : 0 ≤ C ∧ C ≤ 20) :
    Calls Tryz.prog 62 #[.pointer (some ⟨p, 0, none⟩), .agg #[.int .i64 R, .int .i64 C, .slice A k cap]] w fun e w' => ∃ x : Int, e = .returned (.int .i64 x) ∧ (-1 ≤ x ∧ x ≤ 20) ∧ Cr w' p (n + 6) ∧ w.grownBy w' (some p) := by
  have hp := h.lt
  obtain ⟨v0, hv0, X0, B0, hz0⟩ := one_box w [.int .i64 R, .int .i64 C, .slice A k cap] 25
  have HV := Lib.hid hv0
  clear hv0
  have C0 : Cr v0 p n := h.keep (below_grown (row := none) B0) (by simp)
  have gw : w.grownBy v0 (some p) := below_grown B0
  go_enter Tryz.func62, Tryz.ntmps62
  go_wp2_with fail
  rewrite [show w.alloc (.cells ([.int .i64 R, .int .i64 C, .slice A k cap] : List Value).toArray 25) = v0 from HV.out]
  refine (l1Most_d _ _ _).mono ?_; rintro e w1 ⟨m, rfl, hm, rfl⟩
  have hm1 : 1 ≤ m ∧ m ≤ 20 := by split at hm <;> omega
  clear hm
  go_wp2_with fail
  refine (pick_any p _ 16 _ C0 (by omega) (by omega) (by omega)).mono ?_; rintro e w2 ⟨x, rfl, x0, x1, c2, g2⟩
  have hd : 0 ≤ x / 15 ∧ x / 15 ≤ 1 := by omega
  go_wp2_with fail
  refine (pick_any p _ _ _ c2 (by omega) (by omega) (by omega)).mono ?_; rintro e w3 ⟨y, rfl, y0, y1, c3, g3⟩
  go_wp2_with fail
  refine (pick_any p _ 24 _ c3 (by omega) (by omega) (by omega)).mono ?_; rintro e w4 ⟨z, rfl, z0, z1, c4, g4⟩
  have hd2 : 0 ≤ z / 23 ∧ z / 23 ≤ 1 := by omega
  go_wp2
  go_returns
  exact ⟨_, rfl, by omega, c4, ((gw.trans g2).trans g3).trans g4⟩
end Go.Proofs.YtlnekfbhpfhcpaaGreat
namespace Go.Proofs.YtlnekfbhpfhcpaaGreat
open Go.ChangeShapes Go.WideShapes Go.ChangeAt Go.RowKit Go.Joins Go.Deep
set_option linter.unusedSimpArgs false
set_option linter.unusedVariables false
set_option maxRecDepth 100000
set_option maxHeartbeats 4000000
/-- A slice of bytes that is read. -/
def Bytes (w : World) (A : Option Addr) (l : List Int) : Prop := l.length ≤ 9223372036854775807 ∧ (∀ x, x ∈ l → 0 ≤ x ∧ x ≤ 255) ∧ Rd w w.heap.size A (bytesV l)
/-- A board that a draw has handed out. -/
structure BoardOut (w w' : World) (R C : Int) (A : Option Addr) (cap : Nat) (l : List (Int × Int)) : Prop where
  rows : 0 ≤ R ∧ R ≤ 11
  cols : 0 ≤ C ∧ C ≤ 10
  few : l.length ≤ 90
  room : l.length ≤ cap
  own : OwnAt w' A 86 (flat l)
  new : New w A
theorem whole3 {w : World} {g : Nat} {t : TypeId} {x y z : Value} (h : Whole w g t [x, y, z]) : w.cell? ⟨g, 0, none⟩ = some x ∧ w.cell? ⟨g, 1, none⟩ = some y ∧ w.cell? ⟨g, 2, none⟩ = some z := ⟨(h.cell 0).trans rfl, (h.cell 1).trans rfl, (h.cell 2).trans rfl⟩
theorem cur_new {w v : World} {A : Option Addr} {cap : Nat} {l : List Int} {p : Nat} (h : Bytes w A l) (hb : Below w.heap.size w v) (hp : w.heap.size ≤ p) (hw : Whole v p 63 [.slice A l.length cap, .int .i64 0, .int .u64 0]) : Cr v p 0 :=
  ⟨A, cap, l, 0, 0, h.1, h.2.1, Nat.le_refl _, by decide, by decide, (h.2.2.below hb).mono hp, hw⟩
theorem grown_old {w v w' : World} {p : Nat} (hb : Below w.heap.size w v) (hg : v.grownBy w' (some p)) (hp : w.heap.size ≤ p) : Below w.heap.size w w' :=
  hb.trans (grown_under hg hp hb.size)
end Go.Proofs.YtlnekfbhpfhcpaaGreat
namespace Go.Proofs.YtlnekfbhpfhcpaaGreat
open Go.ChangeShapes Go.WideShapes Go.ChangeAt Go.RowKit Go.Joins Go.Deep
set_option linter.unusedSimpArgs false
set_option linter.unusedVariables false
set_option maxRecDepth 100000
theorem open_bytesB {H : Type} {enc : TypeId × Value → H} {W : World} {r : Reach} {b0 : Nat} {v : Value} {d : DataW H} {p : List MemPlace}
    (hv : Value.okWide Tryz.prog W r b0 22 v) (h : DataW.Trod enc Tryz.prog W 0 (fun _ => true) true 22 v d p) :
    ∃ (A : Option Addr) (cap : Nat) (l : List Int), v = .slice A l.length cap ∧ Bytes W A l := by
  obtain ⟨A, n, cap, rfl⟩ := okWide_slice Tryz.underlying22 hv
  obtain ⟨fuel, hf⟩ := h
  rcases Go.ChangeShapes.open_ints Tryz.underlying22 Tryz.underlying5 (by kernel_rfl) hf with ⟨hcs, hx⟩ | ⟨a, len, cap', zs, hcs, _, hl, hm, hz, hx, hi, hw⟩
  · obtain h1 := List.head_eq_of_cons_eq hcs
    rw [h1]
    exact ⟨none, 0, [], rfl, by simp, by simp, fun h => absurd h (by simp [bytesV])⟩
  · obtain h1 := List.head_eq_of_cons_eq hcs
    rw [h1]
    simp only [if_true] at hz
    have hlen : (zs.take len).length = len := by rw [List.length_take]; omega
    refine ⟨some a, cap', zs.take len, by rw [hlen], by unfold maxLen at *; omega, fun x hx => ?_, fun hpos => ?_⟩
    · obtain ⟨j, hj, rfl⟩ := List.getElem_of_mem hx
      rw [hlen] at hj
      have hb := range_u8 hw j
      rw [List.getElem?_eq_getElem (by omega)] at hb
      rw [List.getElem_take]
      simpa using hb
    · rw [bytesV, List.length_map, hlen] at hpos
      have h0 := hi 0 (by omega)
      obtain ⟨b, off, spot⟩ := a
      have hspot : spot = none := by simpa [Addr.add] using World.cell?_spot h0
      subst hspot
      refine ⟨b, off, rfl, by simpa [Addr.add] using lt_of_cell h0, fun j u hu => ?_⟩
      have hj : j < len := by
        have := (List.getElem?_eq_some_iff.1 hu).1
        rw [bytesV, List.length_map, hlen] at this
        exact this
      have h2 := hi j (by omega)
      rw [add_plain] at h2
      rw [h2, ← hu, bytesV, List.getElem?_map, List.getElem?_eq_getElem (by rw [hlen]; exact hj), List.getElem_take, List.getD_eq_getElem?_getD, List.getElem?_eq_getElem (by omega)]
      rfl
end Go.Proofs.YtlnekfbhpfhcpaaGreat
namespace Go.Proofs.YtlnekfbhpfhcpaaGreat
open Go.ChangeShapes Go.WideShapes Go.ChangeAt Go.RowKit Go.Joins Go.Deep
set_option linter.unusedSimpArgs false
set_option linter.unusedVariables false
set_option maxRecDepth 100000
set_option maxHeartbeats 1000000
/-- What holds in every world that lies above w. -/
def Kept (w : World) (Q : World → Prop) : Prop := ∀ w', Below w.heap.size w w' → Q w'
theorem Kept.step {w v : World} {Q : World → Prop} (h : Kept w Q) (b : Below w.heap.size w v) : Kept v Q := fun w' b' => h w' (b.trans (b'.mono b.size))
theorem Kept.add {w : World} {P Q : World → Prop} (h : Kept w Q) (hp : Kept w P) : Kept w (fun v => P v ∧ Q v) := fun w' b => ⟨hp w' b, h w' b⟩
theorem Kept.out {w : World} {Q : World → Prop} (h : Kept w Q) : Q w := h w (Below.refl _ _)
/-- A board in a box. -/
def BD (v : World) (g : Nat) (R C : Int) (A : Option Addr) (cap : Nat) (l : List (Int × Int)) : Prop :=
  Whole v g 25 [.int .i64 R, .int .i64 C, .slice A l.length cap] ∧ Rd v v.heap.size A (flat l)
theorem rd_up {w w' : World} {A : Option Addr} {xs : List Value} (h : Rd w w.heap.size A xs) (b : Below w.heap.size w w') : Rd w' w'.heap.size A xs := (h.below b).mono b.size
theorem BD.kept {v : World} {g : Nat} {R C : Int} {A : Option Addr} {cap : Nat} {l : List (Int × Int)} (h : BD v g R C A cap l) : Kept v (fun v => BD v g R C A cap l) := fun w' b => ⟨h.1.below b h.1.lt, rd_up h.2 b⟩
theorem Bytes.kept {w : World} {A : Option Addr} {l : List Int} (h : Bytes w A l) : Kept w (fun v => Bytes v A l) := fun w' b => ⟨h.1, h.2.1, rd_up h.2.2 b⟩
theorem Whole.kept {w : World} {g : Nat} {t : TypeId} {xs : List Value} (h : Whole w g t xs) : Kept w (fun v => Whole v g t xs) := fun w' b => h.below b h.lt
theorem rd_kept {w : World} {A : Option Addr} {xs : List Value} (h : Rd w w.heap.size A xs) : Kept w (fun v => Rd v v.heap.size A xs) := fun w' b => rd_up h b
theorem below_kept {w v : World} {n : Nat} (h : Below n w v) (hn : n ≤ v.heap.size) : Kept v (fun v => Below n w v) := fun w' b => h.trans (b.mono hn)
theorem box_kept {w v : World} {R C : Int} {A : Option Addr} {cap : Nat} {l : List (Int × Int)} {g : Nat} (h : Rd w w.heap.size A (flat l)) (X : Whole v g 25 [.int .i64 R, .int .i64 C, .slice A l.length cap]) (b : Below w.heap.size w v) : Kept v (fun v => BD v g R C A cap l) := BD.kept ⟨X, rd_up h b⟩
theorem qBoard_same (R C : Int) (A : Option Addr) (cap : Nat) (l : List (Int × Int)) (A' : Option Addr) (cap' : Nat) (w : World) (hn : l.length ≤ 1048576) (hr : Rd w w.heap.size A (flat l)) (hr' : Rd w w.heap.size A' (flat l)) :
    Calls Tryz.prog 21 #[.agg #[.int .i64 R, .int .i64 C, .slice A l.length cap], .agg #[.int .i64 R, .int .i64 C, .slice A' l.length cap']] w fun e w' => e = .returned (.bool true) ∧ Below w.heap.size w w' :=
  (qBoard_any R C A cap l R C A' cap' l w hn hn hr hr').mono fun e w' h => ⟨by rw [h.1]; simp, h.2⟩
theorem qInts_same (A A' : Option Addr) (cap cap' : Nat) (l : List Int) (w : World) (hn : l.length ≤ 1048576) (hr : Rd w w.heap.size A (ints l)) (hr' : Rd w w.heap.size A' (ints l)) :
    Calls Tryz.prog 22 #[.slice A l.length cap, .slice A' l.length cap'] w fun e w' => e = .returned (.bool true) ∧ Below w.heap.size w w' :=
  (qInts_any A A' cap cap' l l w hn hn hr hr').mono fun e w' h => ⟨by rw [h.1]; simp, h.2⟩
theorem qHas_no (A : Option Addr) (cap : Nat) (l : List Int) (n : Int) (w : World) (k : Nat) (hn : l.length ≤ 1048576) (hr : Rd w w.heap.size A (ints l)) (h : n ∉ l) :
    Calls Tryz.prog 28 #[.slice A l.length cap, .int .i64 n] (w.drewN k) fun e w' => e = .returned (.bool false) ∧ ∃ m, w' = w.drewN m :=
  (qHas_any A cap l n (w.drewN k) hn (rd_up hr (below_drewN (Below.refl _ _) k))).mono fun e w' h' => ⟨by rw [h'.1, decide_eq_false h], k, h'.2⟩
theorem qHas_yes (A : Option Addr) (cap : Nat) (l : List Int) (n : Int) (w : World) (k : Nat) (hn : l.length ≤ 1048576) (hr : Rd w w.heap.size A (ints l)) (h : n ∈ l) :
    Calls Tryz.prog 28 #[.slice A l.length cap, .int .i64 n] (w.drewN k) fun e w' => e = .returned (.bool true) ∧ ∃ m, w' = w.drewN m :=
  (qHas_any A cap l n (w.drewN k) hn (rd_up hr (below_drewN (Below.refl _ _) k))).mono fun e w' h' => ⟨by rw [h'.1, decide_eq_true h], k, h'.2⟩
end Go.Proofs.YtlnekfbhpfhcpaaGreat
