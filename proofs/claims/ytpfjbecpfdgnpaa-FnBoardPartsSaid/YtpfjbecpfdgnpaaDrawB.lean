/- Drawn boards: boardOf. -/
import Derived.Deep.DeepCutAuto
import Derived.Test.YtpfjbecpfdgnpaaValid
import Derived.Test.YtpfjbecpfdgnpaaRows2
import Derived.Test.YtpfjbecpfdgnpaaDraw
namespace Go.Proofs.Ytpfjbecpfdgnpaa
open Go.ChangeShapes Go.WideShapes Go.ChangeAt Go.RowKit Go.Joins Go.Deep
set_option linter.unusedSimpArgs false
set_option linter.unusedVariables false
set_option maxRecDepth 100000
set_option maxHeartbeats 8000000
/-- How long the list in a cell is. -/
def lenAt : Option Value → Nat
  | some (.slice _ n _) => n
  | _ => 0
/-- A row that the draws have made: at a block above base, as long as it may be. -/
theorem row_slice {w : World} {base n : Nat} {e : TypeId} {size : Nat} {v : Value} {xs : List Value} (h : w.ownsRow base e size v n xs) (hn : n = 0 → xs = []) : ∃ A cap, v = .slice A n cap := by
  rcases h.2 with ⟨rfl, h0⟩ | ⟨g, cap, _, rfl, _⟩
  · exact ⟨none, 0, by rw [h0]⟩
  · exact ⟨_, _, rfl⟩
theorem row_cur {w w' : World} {base n p : Nat} {e : TypeId} {size : Nat} {v : Value} {xs : List Value} (h : w.ownsRow base e size v n xs) (hg : w.grownBy w' (some p)) (hp : p < base) : w'.ownsRow base e size v n xs :=
  h.kept hg (by
    rcases h.2 with ⟨rfl, _⟩ | ⟨g, cap, cur, rfl, hb, _⟩
    · exact .inl rfl
    · exact .inr (by simp only [Value.ownBlock, ne_eq, Option.some.injEq]; omega))
theorem row_setD {w : World} {base : Nat} {e : TypeId} {size n : Nat} {v : Value} {xs : List Value} (h : w.ownsRow base e size v n xs) (p : Addr) (u : Value) (hne : some p.block ≠ v.ownBlock) : (w.setCell p u).ownsRow base e size v n xs :=
  h.kept (row := some p.block) ⟨rfl, rfl, rfl, by simp [World.setCell], fun i _ hi => Below.heap_setCell w p u i (fun e => hi (by rw [e]))⟩ (.inr (fun e => hne e.symm))
theorem grown_row {w a b : World} {p : Nat} {row : Option Nat} (h : w.grownBy a (some p)) (hg : a.grownBy b row) (hr : ∀ j, row = some j → w.heap.size ≤ j) : w.grownBy b (some p) :=
  ⟨hg.os.trans h.os, hg.tape.trans h.tape, hg.output.trans h.output, Nat.le_trans h.size hg.size, fun i hi hne => (hg.block i (Nat.lt_of_lt_of_le hi h.size) (fun e => by have := hr i e.symm; omega)).trans (h.block i hi hne)⟩
theorem grown_alloc {w a : World} {row : Option Nat} (h : w.grownBy a row) (o : Obj) : w.grownBy (a.alloc o) row := h.trans (below_grown ((Below.refl _ _).alloc (Nat.le_refl _) o))
theorem boardOf_any (p n r c : Nat) (w : World) (h : Cr w p n) (hn : n ≤ 800000) (hr1 : 1 ≤ r) (hr : r ≤ 10) (hc1 : 1 ≤ c) (hc : c ≤ 9) :
    Calls Try.prog 79 #[.pointer (some ⟨p, 0, none⟩), .int .i64 r, .int .i64 c] w fun e w' => ∃ (A : Option Addr) (cap : Nat) (l : List (Int × Int)), e = .returned (.agg #[.int .i64 r, .int .i64 c, .slice A l.length cap]) ∧ goodB r c l = true ∧ l.length ≤ cap ∧ Own w' A 27 (flat l) ∧ New w A ∧ Cr w' p (n + 2000) ∧ w.grownBy w' (some p) := by
  obtain ⟨i0, hi, hz0, hz1, hz2⟩ := info_parts cellInfo
  have hp := h.lt
  obtain ⟨N, hN⟩ : ∃ N : Nat, N = r * c := ⟨_, rfl⟩
  have hN1 : N ≤ 90 := by rw [hN]; exact Nat.mul_le_mul hr hc
  have hmul : (r : Int) * (c : Int) = (N : Int) := by rw [hN]; simp
  have HN := Lib.hid hN
  clear hN
  go_enter Try.func79, Try.ntmps79
  obtain ⟨v0, hv0, X0, X1, B0, hz0⟩ := two_boxes w [.int .i64 0, .int .i64 0, .slice none 0 0] 25 [.int .i64 (r : Int), .int .i64 (c : Int), .slice none 0 0] 25; have HV := Lib.hid hv0; have hz : w.heap.size + 1 < v0.heap.size := (by omega); have hy : w.heap.size < v0.heap.size := (by omega); have hb0 := B0.size; clear hv0; go_wp2_with fail; rewrite [show (w.alloc (.cells ([.int .i64 0, .int .i64 0, .slice none 0 0] : List Value).toArray 25)).alloc (.cells ([.int .i64 (r : Int), .int .i64 (c : Int), .slice none 0 0] : List Value).toArray 25) = v0 from HV.out]; clear HV
  rw [show w.heap.size + 1 + 1 = v0.heap.size by omega]
  obtain ⟨v1, hv1, Z0, B1, hz4⟩ := one_box v0 (ints [1, 2, 2]) 3
  have HV := Lib.hid hv1
  clear hv1
  rewrite [show v0.alloc (.cells ([.int .i64 1, .int .i64 2, .int .i64 2] : List Value).toArray 3) = v1 from HV.out]
  clear HV
  have C1 : Cr v1 p n := (h.keep (below_grown (row := none) B0) (by simp)).keep (below_grown (row := none) B1) (by simp)
  refine (among_any p n (some ⟨v0.heap.size, 0, none⟩) 3 [1, 2, 2] _ C1 (by omega) (by decide) (by decide) Z0.rdI (by simp; omega)).mono ?_; rintro e w1 ⟨m, rfl, hm, c1, g1⟩
  have g2 : w.grownBy w1 (some p) := ((below_grown B0).trans (below_grown B1)).trans g1
  have hm1 : 1 ≤ m ∧ m ≤ 2 := by simp at hm; omega
  have Y0 := (X0.new B1).grownC g1 (by omega)
  have Y1 := (X1.new B1).grownC g1 (by omega)
  have hw1 : w.heap.size + 1 < w1.heap.size := Y1.lt
  clear X0 X1 Z0 C1 B0 B1 g1 hm hz hy hb0 hz4 hz0
  have q0 : w1.cell? ⟨w.heap.size + 1, 2, none⟩ = some (.slice none 0 0) := (Y1.cell 2).trans rfl
  go_wp2
  go_loopw [9] (fun _ wr => ∃ (A : Option Addr) (cap : Nat) (l : List (Int × Int)), l.length ≤ N ∧ (∀ x ∈ l, good x.1 x.2 = true) ∧ wr.ownsRow w1.heap.size 27 2 (.slice A l.length cap) l.length (flat l) ∧ Whole wr w.heap.size 25 [.int .i64 0, .int .i64 0, .slice none 0 0] ∧ Whole wr (w.heap.size + 1) 25 [.int .i64 (r : Int), .int .i64 (c : Int), .slice A l.length cap] ∧ Cr wr p (n + 2 + 10 * l.length) ∧ w.grownBy wr (some p) ∧ w1.heap.size ≤ wr.heap.size) (fun _ wr => N - lenAt (wr.cell? ⟨w.heap.size + 1, 2, none⟩))
  case atStart => exact ⟨none, 0, [], Nat.zero_le _, by simp, World.ownsRow_nil _ _ _ _, Y0, Y1, c1, g2, Nat.le_refl _⟩
  case round =>
    obtain ⟨A, cap, l, hl, hgl, hown, W0, W1, cw, gw, hsz⟩ := hrel
    clear Y0 Y1 c1 g2 q0
    have q0 : wr.cell? ⟨w.heap.size + 1, 0, none⟩ = some (.int .i64 (r : Int)) := (W1.cell 0).trans rfl
    have q2 : wr.cell? ⟨w.heap.size + 1, 2, none⟩ = some (.slice A l.length cap) := (W1.cell 2).trans rfl
    have hmeas : lenAt (wr.cell? ⟨w.heap.size + 1, 2, none⟩) = l.length := by rw [q2]; rfl
    have HM := Lib.hid hmeas
    clear hmeas
    by_cases hlt : l.length < N
    · have hi9 : (l.length : Int) < (N : Int) := by omega
      obtain ⟨v2, hv2, XA, B2, hz5⟩ := one_box wr [.int .i64 0, .int .i64 0] 27
      have HV := Lib.hid hv2
      clear hv2
      go_wp2_with fail
      rewrite [show wr.alloc (.cells ([.int .i64 0, .int .i64 0] : List Value).toArray 27) = v2 from HV.out]
      clear HV
      have C2 : Cr v2 p (n + 2 + 10 * l.length) := cw.keep (below_grown (row := none) B2) (by simp)
      have hrow : some wr.heap.size ≠ (Value.slice A l.length cap).ownBlock := fun e => by have := (hown.lt _ e.symm).2; omega
      have HRow := Lib.hid hrow
      replace W0 := W0.new B2
      replace W1 := W1.new B2
      replace hown := row_keep hown B2
      replace gw := gw.trans (below_grown (row := some p) B2)
      have hsx := XA.lt
      clear B2 cw q0 q2 hrow
      refine (one_any p _ m _ C2 (by omega) (by omega) (by omega)).mono ?_; rintro e w2 ⟨t, rfl, c2, g3⟩
      replace XA := XA.grownC g3 (by omega); replace W0 := W0.grownC g3 (by omega); replace W1 := W1.grownC g3 (by omega); replace hown := row_cur hown g3 (by omega); replace gw := gw.trans g3; replace hsx := XA.lt; clear g3
      rcases t with _ | _
      · go_wp2_with fail
        refine (one_any p _ 3 _ c2 (by omega) (by omega) (by omega)).mono ?_; rintro e w3 ⟨t, rfl, c3, g4⟩
        replace XA := XA.grownC g4 (by omega); replace W0 := W0.grownC g4 (by omega); replace W1 := W1.grownC g4 (by omega); replace hown := row_cur hown g4 (by omega); replace gw := gw.trans g4; replace hsx := XA.lt; clear g4
        rcases t with _ | _
        · obtain ⟨a, ha⟩ : ∃ a : Int, a = 0 := ⟨_, rfl⟩
          rw [← ha] at XA
          have hga : good a a = true := by rw [ha]; decide
          clear ha
          have x0 : w3.cell? ⟨wr.heap.size, 0, none⟩ = some (.int .i64 a) := (XA.cell 0).trans rfl
          by_cases h5 : a = 5
          · have HG := Lib.hid hga
            go_wp2_with fail
            refine (one_any p _ 3 _ c3 (by omega) (by omega) (by omega)).mono ?_; rintro e w5 ⟨t, rfl, c5, g6⟩
            replace XA := XA.grownC g6 (by omega); replace W0 := W0.grownC g6 (by omega); replace W1 := W1.grownC g6 (by omega); replace hown := row_cur hown g6 (by omega); replace gw := gw.trans g6; replace hsx := XA.lt; clear g6
            clear x0
            rcases t with _ | _
            · go_wp2_with fail
              refine (pick_any p _ 2 _ c5 (by omega) (by omega) (by omega)).mono ?_; rintro e w6 ⟨y, rfl, y0, y1, c6, g7⟩
              replace XA := XA.grownC g7 (by omega); replace W0 := W0.grownC g7 (by omega); replace W1 := W1.grownC g7 (by omega); replace hown := row_cur hown g7 (by omega); replace gw := gw.trans g7; replace hsx := XA.lt; clear g7
              have hg3 : good 3 y = true := by rcases (show y = 0 ∨ y = 1 by omega) with rfl | rfl <;> decide
              have z0 : w6.cell? ⟨wr.heap.size, 0, none⟩ = some (.int .i64 a) := (XA.cell 0).trans rfl
              have z1 : w6.cell? ⟨wr.heap.size, 1, none⟩ = some (.int .i64 a) := (XA.cell 1).trans rfl
              have z2 := XA.frozen 0
              have z3 := XA.frozen 1
              go_upto_region 9 with fail
              replace W0 := (W0.set_far ⟨wr.heap.size, 0, none⟩ (.int .i64 3) (by simp; omega)).set_far ⟨wr.heap.size, 1, none⟩ (.int .i64 y) (by simp; omega)
              replace W1 := (W1.set_far ⟨wr.heap.size, 0, none⟩ (.int .i64 3) (by simp; omega)).set_far ⟨wr.heap.size, 1, none⟩ (.int .i64 y) (by simp; omega)
              replace hown := row_setD (row_setD hown ⟨wr.heap.size, 0, none⟩ (.int .i64 3) HRow.out) ⟨wr.heap.size, 1, none⟩ (.int .i64 y) HRow.out
              replace gw := grown_set_new (grown_set_new gw (show w.heap.size ≤ wr.heap.size by omega) (j := 0) (u := .int .i64 3)) (show w.heap.size ≤ wr.heap.size by omega) (j := 1) (u := .int .i64 y)
              have c9 := (c6.set_far (show p < wr.heap.size by omega) (j := 0) (u := .int .i64 3)).set_far (show p < wr.heap.size by omega) (j := 1) (u := .int .i64 y)
              have XB : Whole ((w6.setCell ⟨wr.heap.size, 0, none⟩ (.int .i64 3)).setCell ⟨wr.heap.size, 1, none⟩ (.int .i64 y)) wr.heap.size 27 [.int .i64 3, .int .i64 y] := (XA.set 0 (.int .i64 3)).set 1 (.int .i64 y)
              clear XA z0 z1 z2 z3 hsx
              generalize (w6.setCell ⟨wr.heap.size, 0, none⟩ (.int .i64 3)).setCell ⟨wr.heap.size, 1, none⟩ (.int .i64 y) = w9 at *
              have XA := XB
              clear XB
              have hsx := XA.lt
              have x0 : w9.cell? ⟨wr.heap.size, 0, none⟩ = some (.int .i64 3) := (XA.cell 0).trans rfl
              have x1 : w9.cell? ⟨wr.heap.size, 1, none⟩ = some (.int .i64 y) := (XA.cell 1).trans rfl
              have q2 : w9.cell? ⟨w.heap.size + 1, 2, none⟩ = some (.slice A l.length cap) := (W1.cell 2).trans rfl
              go_wp2_with (first | (at_builtin; refine wpList_append_own _ rfl (.tmp 45) (.tmp 47) 23 rfl w1.heap.size 27 i0 _ 2 16 Try.underlying23 hi hz0 hz1 hz2 rfl (by omega) _ l.length (flat l) rfl (hown.alloc _) ⟨w9.heap.size, 0, none⟩ 1 1 [.int .i64 3, .int .i64 y] rfl rfl two_cells two_one (by unfold maxLen; omega) (by omega) (by rw [World.size_alloc]; omega) ?_) | fail)
              intro v8 w8 hown8 hg8 _
              have hownX := hown.alloc (.cells #[.int .i64 3, .int .i64 y] 27)
              have W18 := (W1.alloc (.cells #[.int .i64 3, .int .i64 y] 27)).grown hg8 (row_apart hownX (W1.alloc _) (by decide))
              have W08 := (W0.alloc (.cells #[.int .i64 3, .int .i64 y] 27)).grown hg8 (row_apart hownX (W0.alloc _) (by decide))
              have C8 := (c9.keep (below_grown (row := none) ((Below.refl _ _).alloc (Nat.le_refl _) (.cells #[.int .i64 3, .int .i64 y] 27))) (by simp)).keep hg8 (fun j hj => by have := (hownX.lt j hj).1; omega)
              have g8 := grown_row (grown_alloc gw (.cells #[.int .i64 3, .int .i64 y] 27)) hg8 (fun j hj => by have := (hownX.lt j hj).1; omega)
              have hs8 : w1.heap.size ≤ w8.heap.size := by have := hg8.size; rw [World.size_alloc] at this; omega
              have hne := row_apart hown8 W18 (by decide)
              obtain ⟨A8, c8, rfl⟩ := slice_of_row hown8
              have q5 : w8.cell? ⟨w.heap.size + 1, 2, none⟩ = some (.slice A l.length cap) := (W18.cell 2).trans rfl
              have q6 := W18.frozen 2
              have hel : (l ++ [(3, y)]).length = l.length + 1 := by simp
              have HE := Lib.hid hel
              have HF := Lib.hid (show flat (l ++ [(3, y)]) = flat l ++ [.int .i64 3, .int .i64 y] by rw [flat_append]; rfl)
              clear hownX hown W0 W1 XA x0 x1 q2 hg8 gw hel
              go_wp2
              go_roundw
              case rel =>
                refine ⟨A8, c8, l ++ [(3, y)], by rw [HE.out]; omega, ?_, ?_, ?_, ?_, ?_, grown_set_new g8 (by omega), by simpa [World.setCell] using hs8⟩
                · intro x hx
                  rcases List.mem_append.1 hx with h | h
                  · exact hgl x h
                  · rw [List.mem_singleton.1 h]; exact hg3
                · rw [HE.out, HF.out]
                  exact row_setD hown8 _ _ hne
                · exact W08.set_far _ _ (by simp)
                · rw [HE.out]
                  exact W18.set 2 _
                · rw [HE.out]
                  exact (C8.mono (by omega)).set_far (by omega)
              case measure =>
                rw [HM.out]
                have hX := (W18.set 2 (.slice A8 (l.length + 1) c8)).cell 2
                have hY : lenAt ((w8.setCell ⟨w.heap.size + 1, 2, none⟩ (.slice A8 (l.length + 1) c8)).cell? ⟨w.heap.size + 1, 2, none⟩) = l.length + 1 := by rw [hX]; rfl
                first | (rw [hY]; omega) | (simp [hY]; omega)
            · clear h5
              have x0 : w5.cell? ⟨wr.heap.size, 0, none⟩ = some (.int .i64 a) := (XA.cell 0).trans rfl
              have x1 : w5.cell? ⟨wr.heap.size, 1, none⟩ = some (.int .i64 a) := (XA.cell 1).trans rfl
              have q2 : w5.cell? ⟨w.heap.size + 1, 2, none⟩ = some (.slice A l.length cap) := (W1.cell 2).trans rfl
              go_wp2_with (first | (at_builtin; refine wpList_append_own _ rfl (.tmp 45) (.tmp 47) 23 rfl w1.heap.size 27 i0 _ 2 16 Try.underlying23 hi hz0 hz1 hz2 rfl (by omega) _ l.length (flat l) rfl (hown.alloc _) ⟨w5.heap.size, 0, none⟩ 1 1 [.int .i64 a, .int .i64 a] rfl rfl two_cells two_one (by unfold maxLen; omega) (by omega) (by rw [World.size_alloc]; omega) ?_) | fail)
              intro v8 w8 hown8 hg8 _
              have hownX := hown.alloc (.cells #[.int .i64 a, .int .i64 a] 27)
              have W18 := (W1.alloc (.cells #[.int .i64 a, .int .i64 a] 27)).grown hg8 (row_apart hownX (W1.alloc _) (by decide))
              have W08 := (W0.alloc (.cells #[.int .i64 a, .int .i64 a] 27)).grown hg8 (row_apart hownX (W0.alloc _) (by decide))
              have C8 := (c5.keep (below_grown (row := none) ((Below.refl _ _).alloc (Nat.le_refl _) (.cells #[.int .i64 a, .int .i64 a] 27))) (by simp)).keep hg8 (fun j hj => by have := (hownX.lt j hj).1; omega)
              have g8 := grown_row (grown_alloc gw (.cells #[.int .i64 a, .int .i64 a] 27)) hg8 (fun j hj => by have := (hownX.lt j hj).1; omega)
              have hs8 : w1.heap.size ≤ w8.heap.size := by have := hg8.size; rw [World.size_alloc] at this; omega
              have hne := row_apart hown8 W18 (by decide)
              obtain ⟨A8, c8, rfl⟩ := slice_of_row hown8
              have q5 : w8.cell? ⟨w.heap.size + 1, 2, none⟩ = some (.slice A l.length cap) := (W18.cell 2).trans rfl
              have q6 := W18.frozen 2
              have hel : (l ++ [(a, a)]).length = l.length + 1 := by simp
              have HE := Lib.hid hel
              have HF := Lib.hid (show flat (l ++ [(a, a)]) = flat l ++ [.int .i64 a, .int .i64 a] by rw [flat_append]; rfl)
              clear hownX hown W0 W1 XA x0 x1 q2 hg8 gw hel
              go_wp2
              go_roundw
              case rel =>
                refine ⟨A8, c8, l ++ [(a, a)], by rw [HE.out]; omega, ?_, ?_, ?_, ?_, ?_, grown_set_new g8 (by omega), by simpa [World.setCell] using hs8⟩
                · intro x hx
                  rcases List.mem_append.1 hx with h | h
                  · exact hgl x h
                  · rw [List.mem_singleton.1 h]; exact HG.out
                · rw [HE.out, HF.out]
                  exact row_setD hown8 _ _ hne
                · exact W08.set_far _ _ (by simp)
                · rw [HE.out]
                  exact W18.set 2 _
                · rw [HE.out]
                  exact (C8.mono (by omega)).set_far (by omega)
              case measure =>
                rw [HM.out]
                have hX := (W18.set 2 (.slice A8 (l.length + 1) c8)).cell 2
                have hY : lenAt ((w8.setCell ⟨w.heap.size + 1, 2, none⟩ (.slice A8 (l.length + 1) c8)).cell? ⟨w.heap.size + 1, 2, none⟩) = l.length + 1 := by rw [hX]; rfl
                first | (rw [hY]; omega) | (simp [hY]; omega)
          · have h6 : (a == 5) = false := by simp [h5]
            have x0 : w3.cell? ⟨wr.heap.size, 0, none⟩ = some (.int .i64 a) := (XA.cell 0).trans rfl
            have x1 : w3.cell? ⟨wr.heap.size, 1, none⟩ = some (.int .i64 a) := (XA.cell 1).trans rfl
            have q2 : w3.cell? ⟨w.heap.size + 1, 2, none⟩ = some (.slice A l.length cap) := (W1.cell 2).trans rfl
            go_wp2_with (first | (at_builtin; refine wpList_append_own _ rfl (.tmp 45) (.tmp 47) 23 rfl w1.heap.size 27 i0 _ 2 16 Try.underlying23 hi hz0 hz1 hz2 rfl (by omega) _ l.length (flat l) rfl (hown.alloc _) ⟨w3.heap.size, 0, none⟩ 1 1 [.int .i64 a, .int .i64 a] rfl rfl two_cells two_one (by unfold maxLen; omega) (by omega) (by rw [World.size_alloc]; omega) ?_) | fail)
            intro v8 w8 hown8 hg8 _
            have hownX := hown.alloc (.cells #[.int .i64 a, .int .i64 a] 27)
            have W18 := (W1.alloc (.cells #[.int .i64 a, .int .i64 a] 27)).grown hg8 (row_apart hownX (W1.alloc _) (by decide))
            have W08 := (W0.alloc (.cells #[.int .i64 a, .int .i64 a] 27)).grown hg8 (row_apart hownX (W0.alloc _) (by decide))
            have C8 := (c3.keep (below_grown (row := none) ((Below.refl _ _).alloc (Nat.le_refl _) (.cells #[.int .i64 a, .int .i64 a] 27))) (by simp)).keep hg8 (fun j hj => by have := (hownX.lt j hj).1; omega)
            have g8 := grown_row (grown_alloc gw (.cells #[.int .i64 a, .int .i64 a] 27)) hg8 (fun j hj => by have := (hownX.lt j hj).1; omega)
            have hs8 : w1.heap.size ≤ w8.heap.size := by have := hg8.size; rw [World.size_alloc] at this; omega
            have hne := row_apart hown8 W18 (by decide)
            obtain ⟨A8, c8, rfl⟩ := slice_of_row hown8
            have q5 : w8.cell? ⟨w.heap.size + 1, 2, none⟩ = some (.slice A l.length cap) := (W18.cell 2).trans rfl
            have q6 := W18.frozen 2
            have hel : (l ++ [(a, a)]).length = l.length + 1 := by simp
            have HE := Lib.hid hel
            have HF := Lib.hid (show flat (l ++ [(a, a)]) = flat l ++ [.int .i64 a, .int .i64 a] by rw [flat_append]; rfl)
            clear hownX hown W0 W1 XA x0 x1 q2 hg8 gw hel
            go_wp2
            go_roundw
            case rel =>
              refine ⟨A8, c8, l ++ [(a, a)], by rw [HE.out]; omega, ?_, ?_, ?_, ?_, ?_, grown_set_new g8 (by omega), by simpa [World.setCell] using hs8⟩
              · intro x hx
                rcases List.mem_append.1 hx with h | h
                · exact hgl x h
                · rw [List.mem_singleton.1 h]; exact hga
              · rw [HE.out, HF.out]
                exact row_setD hown8 _ _ hne
              · exact W08.set_far _ _ (by simp)
              · rw [HE.out]
                exact W18.set 2 _
              · rw [HE.out]
                exact (C8.mono (by omega)).set_far (by omega)
            case measure =>
              rw [HM.out]
              have hX := (W18.set 2 (.slice A8 (l.length + 1) c8)).cell 2
              have hY : lenAt ((w8.setCell ⟨w.heap.size + 1, 2, none⟩ (.slice A8 (l.length + 1) c8)).cell? ⟨w.heap.size + 1, 2, none⟩) = l.length + 1 := by rw [hX]; rfl
              first | (rw [hY]; omega) | (simp [hY]; omega)
        · go_wp2_with fail
          refine (cell_any p _ _ c3 (by omega)).mono ?_; rintro e w4 ⟨a, b, rfl, hga, c4, g5⟩
          replace XA := XA.grownC g5 (by omega); replace W0 := W0.grownC g5 (by omega); replace W1 := W1.grownC g5 (by omega); replace hown := row_cur hown g5 (by omega); replace gw := gw.trans g5; replace hsx := XA.lt; clear g5
          have z0 : w4.cell? ⟨wr.heap.size, 0, none⟩ = some (.int .i64 0) := (XA.cell 0).trans rfl
          have z1 : w4.cell? ⟨wr.heap.size, 1, none⟩ = some (.int .i64 0) := (XA.cell 1).trans rfl
          have z2 := XA.frozen 0
          have z3 := XA.frozen 1
          go_upto_region 7 with fail
          replace W0 := (W0.set_far ⟨wr.heap.size, 0, none⟩ (.int .i64 a) (by simp; omega)).set_far ⟨wr.heap.size, 1, none⟩ (.int .i64 b) (by simp; omega)
          replace W1 := (W1.set_far ⟨wr.heap.size, 0, none⟩ (.int .i64 a) (by simp; omega)).set_far ⟨wr.heap.size, 1, none⟩ (.int .i64 b) (by simp; omega)
          replace hown := row_setD (row_setD hown ⟨wr.heap.size, 0, none⟩ (.int .i64 a) HRow.out) ⟨wr.heap.size, 1, none⟩ (.int .i64 b) HRow.out
          replace gw := grown_set_new (grown_set_new gw (show w.heap.size ≤ wr.heap.size by omega) (j := 0) (u := .int .i64 a)) (show w.heap.size ≤ wr.heap.size by omega) (j := 1) (u := .int .i64 b)
          have c7 := (c4.set_far (show p < wr.heap.size by omega) (j := 0) (u := .int .i64 a)).set_far (show p < wr.heap.size by omega) (j := 1) (u := .int .i64 b)
          have XB : Whole ((w4.setCell ⟨wr.heap.size, 0, none⟩ (.int .i64 a)).setCell ⟨wr.heap.size, 1, none⟩ (.int .i64 b)) wr.heap.size 27 [.int .i64 a, .int .i64 b] := (XA.set 0 (.int .i64 a)).set 1 (.int .i64 b)
          clear XA z0 z1 z2 z3 hsx
          generalize (w4.setCell ⟨wr.heap.size, 0, none⟩ (.int .i64 a)).setCell ⟨wr.heap.size, 1, none⟩ (.int .i64 b) = w7 at *
          have XA := XB
          clear XB
          have hsx := XA.lt
          have x0 : w7.cell? ⟨wr.heap.size, 0, none⟩ = some (.int .i64 a) := (XA.cell 0).trans rfl
          by_cases h5 : a = 5
          · have HG := Lib.hid hga
            go_wp2_with fail
            refine (one_any p _ 3 _ c7 (by omega) (by omega) (by omega)).mono ?_; rintro e w5 ⟨t, rfl, c5, g6⟩
            replace XA := XA.grownC g6 (by omega); replace W0 := W0.grownC g6 (by omega); replace W1 := W1.grownC g6 (by omega); replace hown := row_cur hown g6 (by omega); replace gw := gw.trans g6; replace hsx := XA.lt; clear g6
            clear x0
            rcases t with _ | _
            · go_wp2_with fail
              refine (pick_any p _ 2 _ c5 (by omega) (by omega) (by omega)).mono ?_; rintro e w6 ⟨y, rfl, y0, y1, c6, g7⟩
              replace XA := XA.grownC g7 (by omega); replace W0 := W0.grownC g7 (by omega); replace W1 := W1.grownC g7 (by omega); replace hown := row_cur hown g7 (by omega); replace gw := gw.trans g7; replace hsx := XA.lt; clear g7
              have hg3 : good 3 y = true := by rcases (show y = 0 ∨ y = 1 by omega) with rfl | rfl <;> decide
              have z0 : w6.cell? ⟨wr.heap.size, 0, none⟩ = some (.int .i64 a) := (XA.cell 0).trans rfl
              have z1 : w6.cell? ⟨wr.heap.size, 1, none⟩ = some (.int .i64 b) := (XA.cell 1).trans rfl
              have z2 := XA.frozen 0
              have z3 := XA.frozen 1
              go_upto_region 9 with fail
              replace W0 := (W0.set_far ⟨wr.heap.size, 0, none⟩ (.int .i64 3) (by simp; omega)).set_far ⟨wr.heap.size, 1, none⟩ (.int .i64 y) (by simp; omega)
              replace W1 := (W1.set_far ⟨wr.heap.size, 0, none⟩ (.int .i64 3) (by simp; omega)).set_far ⟨wr.heap.size, 1, none⟩ (.int .i64 y) (by simp; omega)
              replace hown := row_setD (row_setD hown ⟨wr.heap.size, 0, none⟩ (.int .i64 3) HRow.out) ⟨wr.heap.size, 1, none⟩ (.int .i64 y) HRow.out
              replace gw := grown_set_new (grown_set_new gw (show w.heap.size ≤ wr.heap.size by omega) (j := 0) (u := .int .i64 3)) (show w.heap.size ≤ wr.heap.size by omega) (j := 1) (u := .int .i64 y)
              have c9 := (c6.set_far (show p < wr.heap.size by omega) (j := 0) (u := .int .i64 3)).set_far (show p < wr.heap.size by omega) (j := 1) (u := .int .i64 y)
              have XB : Whole ((w6.setCell ⟨wr.heap.size, 0, none⟩ (.int .i64 3)).setCell ⟨wr.heap.size, 1, none⟩ (.int .i64 y)) wr.heap.size 27 [.int .i64 3, .int .i64 y] := (XA.set 0 (.int .i64 3)).set 1 (.int .i64 y)
              clear XA z0 z1 z2 z3 hsx
              generalize (w6.setCell ⟨wr.heap.size, 0, none⟩ (.int .i64 3)).setCell ⟨wr.heap.size, 1, none⟩ (.int .i64 y) = w9 at *
              have XA := XB
              clear XB
              have hsx := XA.lt
              have x0 : w9.cell? ⟨wr.heap.size, 0, none⟩ = some (.int .i64 3) := (XA.cell 0).trans rfl
              have x1 : w9.cell? ⟨wr.heap.size, 1, none⟩ = some (.int .i64 y) := (XA.cell 1).trans rfl
              have q2 : w9.cell? ⟨w.heap.size + 1, 2, none⟩ = some (.slice A l.length cap) := (W1.cell 2).trans rfl
              go_wp2_with (first | (at_builtin; refine wpList_append_own _ rfl (.tmp 45) (.tmp 47) 23 rfl w1.heap.size 27 i0 _ 2 16 Try.underlying23 hi hz0 hz1 hz2 rfl (by omega) _ l.length (flat l) rfl (hown.alloc _) ⟨w9.heap.size, 0, none⟩ 1 1 [.int .i64 3, .int .i64 y] rfl rfl two_cells two_one (by unfold maxLen; omega) (by omega) (by rw [World.size_alloc]; omega) ?_) | fail)
              intro v8 w8 hown8 hg8 _
              have hownX := hown.alloc (.cells #[.int .i64 3, .int .i64 y] 27)
              have W18 := (W1.alloc (.cells #[.int .i64 3, .int .i64 y] 27)).grown hg8 (row_apart hownX (W1.alloc _) (by decide))
              have W08 := (W0.alloc (.cells #[.int .i64 3, .int .i64 y] 27)).grown hg8 (row_apart hownX (W0.alloc _) (by decide))
              have C8 := (c9.keep (below_grown (row := none) ((Below.refl _ _).alloc (Nat.le_refl _) (.cells #[.int .i64 3, .int .i64 y] 27))) (by simp)).keep hg8 (fun j hj => by have := (hownX.lt j hj).1; omega)
              have g8 := grown_row (grown_alloc gw (.cells #[.int .i64 3, .int .i64 y] 27)) hg8 (fun j hj => by have := (hownX.lt j hj).1; omega)
              have hs8 : w1.heap.size ≤ w8.heap.size := by have := hg8.size; rw [World.size_alloc] at this; omega
              have hne := row_apart hown8 W18 (by decide)
              obtain ⟨A8, c8, rfl⟩ := slice_of_row hown8
              have q5 : w8.cell? ⟨w.heap.size + 1, 2, none⟩ = some (.slice A l.length cap) := (W18.cell 2).trans rfl
              have q6 := W18.frozen 2
              have hel : (l ++ [(3, y)]).length = l.length + 1 := by simp
              have HE := Lib.hid hel
              have HF := Lib.hid (show flat (l ++ [(3, y)]) = flat l ++ [.int .i64 3, .int .i64 y] by rw [flat_append]; rfl)
              clear hownX hown W0 W1 XA x0 x1 q2 hg8 gw hel
              go_wp2
              go_roundw
              case rel =>
                refine ⟨A8, c8, l ++ [(3, y)], by rw [HE.out]; omega, ?_, ?_, ?_, ?_, ?_, grown_set_new g8 (by omega), by simpa [World.setCell] using hs8⟩
                · intro x hx
                  rcases List.mem_append.1 hx with h | h
                  · exact hgl x h
                  · rw [List.mem_singleton.1 h]; exact hg3
                · rw [HE.out, HF.out]
                  exact row_setD hown8 _ _ hne
                · exact W08.set_far _ _ (by simp)
                · rw [HE.out]
                  exact W18.set 2 _
                · rw [HE.out]
                  exact (C8.mono (by omega)).set_far (by omega)
              case measure =>
                rw [HM.out]
                have hX := (W18.set 2 (.slice A8 (l.length + 1) c8)).cell 2
                have hY : lenAt ((w8.setCell ⟨w.heap.size + 1, 2, none⟩ (.slice A8 (l.length + 1) c8)).cell? ⟨w.heap.size + 1, 2, none⟩) = l.length + 1 := by rw [hX]; rfl
                first | (rw [hY]; omega) | (simp [hY]; omega)
            · clear h5
              have x0 : w5.cell? ⟨wr.heap.size, 0, none⟩ = some (.int .i64 a) := (XA.cell 0).trans rfl
              have x1 : w5.cell? ⟨wr.heap.size, 1, none⟩ = some (.int .i64 b) := (XA.cell 1).trans rfl
              have q2 : w5.cell? ⟨w.heap.size + 1, 2, none⟩ = some (.slice A l.length cap) := (W1.cell 2).trans rfl
              go_wp2_with (first | (at_builtin; refine wpList_append_own _ rfl (.tmp 45) (.tmp 47) 23 rfl w1.heap.size 27 i0 _ 2 16 Try.underlying23 hi hz0 hz1 hz2 rfl (by omega) _ l.length (flat l) rfl (hown.alloc _) ⟨w5.heap.size, 0, none⟩ 1 1 [.int .i64 a, .int .i64 b] rfl rfl two_cells two_one (by unfold maxLen; omega) (by omega) (by rw [World.size_alloc]; omega) ?_) | fail)
              intro v8 w8 hown8 hg8 _
              have hownX := hown.alloc (.cells #[.int .i64 a, .int .i64 b] 27)
              have W18 := (W1.alloc (.cells #[.int .i64 a, .int .i64 b] 27)).grown hg8 (row_apart hownX (W1.alloc _) (by decide))
              have W08 := (W0.alloc (.cells #[.int .i64 a, .int .i64 b] 27)).grown hg8 (row_apart hownX (W0.alloc _) (by decide))
              have C8 := (c5.keep (below_grown (row := none) ((Below.refl _ _).alloc (Nat.le_refl _) (.cells #[.int .i64 a, .int .i64 b] 27))) (by simp)).keep hg8 (fun j hj => by have := (hownX.lt j hj).1; omega)
              have g8 := grown_row (grown_alloc gw (.cells #[.int .i64 a, .int .i64 b] 27)) hg8 (fun j hj => by have := (hownX.lt j hj).1; omega)
              have hs8 : w1.heap.size ≤ w8.heap.size := by have := hg8.size; rw [World.size_alloc] at this; omega
              have hne := row_apart hown8 W18 (by decide)
              obtain ⟨A8, c8, rfl⟩ := slice_of_row hown8
              have q5 : w8.cell? ⟨w.heap.size + 1, 2, none⟩ = some (.slice A l.length cap) := (W18.cell 2).trans rfl
              have q6 := W18.frozen 2
              have hel : (l ++ [(a, b)]).length = l.length + 1 := by simp
              have HE := Lib.hid hel
              have HF := Lib.hid (show flat (l ++ [(a, b)]) = flat l ++ [.int .i64 a, .int .i64 b] by rw [flat_append]; rfl)
              clear hownX hown W0 W1 XA x0 x1 q2 hg8 gw hel
              go_wp2
              go_roundw
              case rel =>
                refine ⟨A8, c8, l ++ [(a, b)], by rw [HE.out]; omega, ?_, ?_, ?_, ?_, ?_, grown_set_new g8 (by omega), by simpa [World.setCell] using hs8⟩
                · intro x hx
                  rcases List.mem_append.1 hx with h | h
                  · exact hgl x h
                  · rw [List.mem_singleton.1 h]; exact HG.out
                · rw [HE.out, HF.out]
                  exact row_setD hown8 _ _ hne
                · exact W08.set_far _ _ (by simp)
                · rw [HE.out]
                  exact W18.set 2 _
                · rw [HE.out]
                  exact (C8.mono (by omega)).set_far (by omega)
              case measure =>
                rw [HM.out]
                have hX := (W18.set 2 (.slice A8 (l.length + 1) c8)).cell 2
                have hY : lenAt ((w8.setCell ⟨w.heap.size + 1, 2, none⟩ (.slice A8 (l.length + 1) c8)).cell? ⟨w.heap.size + 1, 2, none⟩) = l.length + 1 := by rw [hX]; rfl
                first | (rw [hY]; omega) | (simp [hY]; omega)
          · have h6 : (a == 5) = false := by simp [h5]
            have x0 : w7.cell? ⟨wr.heap.size, 0, none⟩ = some (.int .i64 a) := (XA.cell 0).trans rfl
            have x1 : w7.cell? ⟨wr.heap.size, 1, none⟩ = some (.int .i64 b) := (XA.cell 1).trans rfl
            have q2 : w7.cell? ⟨w.heap.size + 1, 2, none⟩ = some (.slice A l.length cap) := (W1.cell 2).trans rfl
            go_wp2_with (first | (at_builtin; refine wpList_append_own _ rfl (.tmp 45) (.tmp 47) 23 rfl w1.heap.size 27 i0 _ 2 16 Try.underlying23 hi hz0 hz1 hz2 rfl (by omega) _ l.length (flat l) rfl (hown.alloc _) ⟨w7.heap.size, 0, none⟩ 1 1 [.int .i64 a, .int .i64 b] rfl rfl two_cells two_one (by unfold maxLen; omega) (by omega) (by rw [World.size_alloc]; omega) ?_) | fail)
            intro v8 w8 hown8 hg8 _
            have hownX := hown.alloc (.cells #[.int .i64 a, .int .i64 b] 27)
            have W18 := (W1.alloc (.cells #[.int .i64 a, .int .i64 b] 27)).grown hg8 (row_apart hownX (W1.alloc _) (by decide))
            have W08 := (W0.alloc (.cells #[.int .i64 a, .int .i64 b] 27)).grown hg8 (row_apart hownX (W0.alloc _) (by decide))
            have C8 := (c7.keep (below_grown (row := none) ((Below.refl _ _).alloc (Nat.le_refl _) (.cells #[.int .i64 a, .int .i64 b] 27))) (by simp)).keep hg8 (fun j hj => by have := (hownX.lt j hj).1; omega)
            have g8 := grown_row (grown_alloc gw (.cells #[.int .i64 a, .int .i64 b] 27)) hg8 (fun j hj => by have := (hownX.lt j hj).1; omega)
            have hs8 : w1.heap.size ≤ w8.heap.size := by have := hg8.size; rw [World.size_alloc] at this; omega
            have hne := row_apart hown8 W18 (by decide)
            obtain ⟨A8, c8, rfl⟩ := slice_of_row hown8
            have q5 : w8.cell? ⟨w.heap.size + 1, 2, none⟩ = some (.slice A l.length cap) := (W18.cell 2).trans rfl
            have q6 := W18.frozen 2
            have hel : (l ++ [(a, b)]).length = l.length + 1 := by simp
            have HE := Lib.hid hel
            have HF := Lib.hid (show flat (l ++ [(a, b)]) = flat l ++ [.int .i64 a, .int .i64 b] by rw [flat_append]; rfl)
            clear hownX hown W0 W1 XA x0 x1 q2 hg8 gw hel
            go_wp2
            go_roundw
            case rel =>
              refine ⟨A8, c8, l ++ [(a, b)], by rw [HE.out]; omega, ?_, ?_, ?_, ?_, ?_, grown_set_new g8 (by omega), by simpa [World.setCell] using hs8⟩
              · intro x hx
                rcases List.mem_append.1 hx with h | h
                · exact hgl x h
                · rw [List.mem_singleton.1 h]; exact hga
              · rw [HE.out, HF.out]
                exact row_setD hown8 _ _ hne
              · exact W08.set_far _ _ (by simp)
              · rw [HE.out]
                exact W18.set 2 _
              · rw [HE.out]
                exact (C8.mono (by omega)).set_far (by omega)
            case measure =>
              rw [HM.out]
              have hX := (W18.set 2 (.slice A8 (l.length + 1) c8)).cell 2
              have hY : lenAt ((w8.setCell ⟨w.heap.size + 1, 2, none⟩ (.slice A8 (l.length + 1) c8)).cell? ⟨w.heap.size + 1, 2, none⟩) = l.length + 1 := by rw [hX]; rfl
              first | (rw [hY]; omega) | (simp [hY]; omega)
      · go_wp2_with fail
        refine (cell_any p _ _ c2 (by omega)).mono ?_; rintro e w4 ⟨a, b, rfl, hga, c4, g5⟩
        replace XA := XA.grownC g5 (by omega); replace W0 := W0.grownC g5 (by omega); replace W1 := W1.grownC g5 (by omega); replace hown := row_cur hown g5 (by omega); replace gw := gw.trans g5; replace hsx := XA.lt; clear g5
        have z0 : w4.cell? ⟨wr.heap.size, 0, none⟩ = some (.int .i64 0) := (XA.cell 0).trans rfl
        have z1 : w4.cell? ⟨wr.heap.size, 1, none⟩ = some (.int .i64 0) := (XA.cell 1).trans rfl
        have z2 := XA.frozen 0
        have z3 := XA.frozen 1
        go_upto_region 7 with fail
        replace W0 := (W0.set_far ⟨wr.heap.size, 0, none⟩ (.int .i64 a) (by simp; omega)).set_far ⟨wr.heap.size, 1, none⟩ (.int .i64 b) (by simp; omega)
        replace W1 := (W1.set_far ⟨wr.heap.size, 0, none⟩ (.int .i64 a) (by simp; omega)).set_far ⟨wr.heap.size, 1, none⟩ (.int .i64 b) (by simp; omega)
        replace hown := row_setD (row_setD hown ⟨wr.heap.size, 0, none⟩ (.int .i64 a) HRow.out) ⟨wr.heap.size, 1, none⟩ (.int .i64 b) HRow.out
        replace gw := grown_set_new (grown_set_new gw (show w.heap.size ≤ wr.heap.size by omega) (j := 0) (u := .int .i64 a)) (show w.heap.size ≤ wr.heap.size by omega) (j := 1) (u := .int .i64 b)
        have c7 := (c4.set_far (show p < wr.heap.size by omega) (j := 0) (u := .int .i64 a)).set_far (show p < wr.heap.size by omega) (j := 1) (u := .int .i64 b)
        have XB : Whole ((w4.setCell ⟨wr.heap.size, 0, none⟩ (.int .i64 a)).setCell ⟨wr.heap.size, 1, none⟩ (.int .i64 b)) wr.heap.size 27 [.int .i64 a, .int .i64 b] := (XA.set 0 (.int .i64 a)).set 1 (.int .i64 b)
        clear XA z0 z1 z2 z3 hsx
        generalize (w4.setCell ⟨wr.heap.size, 0, none⟩ (.int .i64 a)).setCell ⟨wr.heap.size, 1, none⟩ (.int .i64 b) = w7 at *
        have XA := XB
        clear XB
        have hsx := XA.lt
        have x0 : w7.cell? ⟨wr.heap.size, 0, none⟩ = some (.int .i64 a) := (XA.cell 0).trans rfl
        by_cases h5 : a = 5
        · have HG := Lib.hid hga
          go_wp2_with fail
          refine (one_any p _ 3 _ c7 (by omega) (by omega) (by omega)).mono ?_; rintro e w5 ⟨t, rfl, c5, g6⟩
          replace XA := XA.grownC g6 (by omega); replace W0 := W0.grownC g6 (by omega); replace W1 := W1.grownC g6 (by omega); replace hown := row_cur hown g6 (by omega); replace gw := gw.trans g6; replace hsx := XA.lt; clear g6
          clear x0
          rcases t with _ | _
          · go_wp2_with fail
            refine (pick_any p _ 2 _ c5 (by omega) (by omega) (by omega)).mono ?_; rintro e w6 ⟨y, rfl, y0, y1, c6, g7⟩
            replace XA := XA.grownC g7 (by omega); replace W0 := W0.grownC g7 (by omega); replace W1 := W1.grownC g7 (by omega); replace hown := row_cur hown g7 (by omega); replace gw := gw.trans g7; replace hsx := XA.lt; clear g7
            have hg3 : good 3 y = true := by rcases (show y = 0 ∨ y = 1 by omega) with rfl | rfl <;> decide
            have z0 : w6.cell? ⟨wr.heap.size, 0, none⟩ = some (.int .i64 a) := (XA.cell 0).trans rfl
            have z1 : w6.cell? ⟨wr.heap.size, 1, none⟩ = some (.int .i64 b) := (XA.cell 1).trans rfl
            have z2 := XA.frozen 0
            have z3 := XA.frozen 1
            go_upto_region 9 with fail
            replace W0 := (W0.set_far ⟨wr.heap.size, 0, none⟩ (.int .i64 3) (by simp; omega)).set_far ⟨wr.heap.size, 1, none⟩ (.int .i64 y) (by simp; omega)
            replace W1 := (W1.set_far ⟨wr.heap.size, 0, none⟩ (.int .i64 3) (by simp; omega)).set_far ⟨wr.heap.size, 1, none⟩ (.int .i64 y) (by simp; omega)
            replace hown := row_setD (row_setD hown ⟨wr.heap.size, 0, none⟩ (.int .i64 3) HRow.out) ⟨wr.heap.size, 1, none⟩ (.int .i64 y) HRow.out
            replace gw := grown_set_new (grown_set_new gw (show w.heap.size ≤ wr.heap.size by omega) (j := 0) (u := .int .i64 3)) (show w.heap.size ≤ wr.heap.size by omega) (j := 1) (u := .int .i64 y)
            have c9 := (c6.set_far (show p < wr.heap.size by omega) (j := 0) (u := .int .i64 3)).set_far (show p < wr.heap.size by omega) (j := 1) (u := .int .i64 y)
            have XB : Whole ((w6.setCell ⟨wr.heap.size, 0, none⟩ (.int .i64 3)).setCell ⟨wr.heap.size, 1, none⟩ (.int .i64 y)) wr.heap.size 27 [.int .i64 3, .int .i64 y] := (XA.set 0 (.int .i64 3)).set 1 (.int .i64 y)
            clear XA z0 z1 z2 z3 hsx
            generalize (w6.setCell ⟨wr.heap.size, 0, none⟩ (.int .i64 3)).setCell ⟨wr.heap.size, 1, none⟩ (.int .i64 y) = w9 at *
            have XA := XB
            clear XB
            have hsx := XA.lt
            have x0 : w9.cell? ⟨wr.heap.size, 0, none⟩ = some (.int .i64 3) := (XA.cell 0).trans rfl
            have x1 : w9.cell? ⟨wr.heap.size, 1, none⟩ = some (.int .i64 y) := (XA.cell 1).trans rfl
            have q2 : w9.cell? ⟨w.heap.size + 1, 2, none⟩ = some (.slice A l.length cap) := (W1.cell 2).trans rfl
            go_wp2_with (first | (at_builtin; refine wpList_append_own _ rfl (.tmp 45) (.tmp 47) 23 rfl w1.heap.size 27 i0 _ 2 16 Try.underlying23 hi hz0 hz1 hz2 rfl (by omega) _ l.length (flat l) rfl (hown.alloc _) ⟨w9.heap.size, 0, none⟩ 1 1 [.int .i64 3, .int .i64 y] rfl rfl two_cells two_one (by unfold maxLen; omega) (by omega) (by rw [World.size_alloc]; omega) ?_) | fail)
            intro v8 w8 hown8 hg8 _
            have hownX := hown.alloc (.cells #[.int .i64 3, .int .i64 y] 27)
            have W18 := (W1.alloc (.cells #[.int .i64 3, .int .i64 y] 27)).grown hg8 (row_apart hownX (W1.alloc _) (by decide))
            have W08 := (W0.alloc (.cells #[.int .i64 3, .int .i64 y] 27)).grown hg8 (row_apart hownX (W0.alloc _) (by decide))
            have C8 := (c9.keep (below_grown (row := none) ((Below.refl _ _).alloc (Nat.le_refl _) (.cells #[.int .i64 3, .int .i64 y] 27))) (by simp)).keep hg8 (fun j hj => by have := (hownX.lt j hj).1; omega)
            have g8 := grown_row (grown_alloc gw (.cells #[.int .i64 3, .int .i64 y] 27)) hg8 (fun j hj => by have := (hownX.lt j hj).1; omega)
            have hs8 : w1.heap.size ≤ w8.heap.size := by have := hg8.size; rw [World.size_alloc] at this; omega
            have hne := row_apart hown8 W18 (by decide)
            obtain ⟨A8, c8, rfl⟩ := slice_of_row hown8
            have q5 : w8.cell? ⟨w.heap.size + 1, 2, none⟩ = some (.slice A l.length cap) := (W18.cell 2).trans rfl
            have q6 := W18.frozen 2
            have hel : (l ++ [(3, y)]).length = l.length + 1 := by simp
            have HE := Lib.hid hel
            have HF := Lib.hid (show flat (l ++ [(3, y)]) = flat l ++ [.int .i64 3, .int .i64 y] by rw [flat_append]; rfl)
            clear hownX hown W0 W1 XA x0 x1 q2 hg8 gw hel
            go_wp2
            go_roundw
            case rel =>
              refine ⟨A8, c8, l ++ [(3, y)], by rw [HE.out]; omega, ?_, ?_, ?_, ?_, ?_, grown_set_new g8 (by omega), by simpa [World.setCell] using hs8⟩
              · intro x hx
                rcases List.mem_append.1 hx with h | h
                · exact hgl x h
                · rw [List.mem_singleton.1 h]; exact hg3
              · rw [HE.out, HF.out]
                exact row_setD hown8 _ _ hne
              · exact W08.set_far _ _ (by simp)
              · rw [HE.out]
                exact W18.set 2 _
              · rw [HE.out]
                exact (C8.mono (by omega)).set_far (by omega)
            case measure =>
              rw [HM.out]
              have hX := (W18.set 2 (.slice A8 (l.length + 1) c8)).cell 2
              have hY : lenAt ((w8.setCell ⟨w.heap.size + 1, 2, none⟩ (.slice A8 (l.length + 1) c8)).cell? ⟨w.heap.size + 1, 2, none⟩) = l.length + 1 := by rw [hX]; rfl
              first | (rw [hY]; omega) | (simp [hY]; omega)
          · clear h5
            have x0 : w5.cell? ⟨wr.heap.size, 0, none⟩ = some (.int .i64 a) := (XA.cell 0).trans rfl
            have x1 : w5.cell? ⟨wr.heap.size, 1, none⟩ = some (.int .i64 b) := (XA.cell 1).trans rfl
            have q2 : w5.cell? ⟨w.heap.size + 1, 2, none⟩ = some (.slice A l.length cap) := (W1.cell 2).trans rfl
            go_wp2_with (first | (at_builtin; refine wpList_append_own _ rfl (.tmp 45) (.tmp 47) 23 rfl w1.heap.size 27 i0 _ 2 16 Try.underlying23 hi hz0 hz1 hz2 rfl (by omega) _ l.length (flat l) rfl (hown.alloc _) ⟨w5.heap.size, 0, none⟩ 1 1 [.int .i64 a, .int .i64 b] rfl rfl two_cells two_one (by unfold maxLen; omega) (by omega) (by rw [World.size_alloc]; omega) ?_) | fail)
            intro v8 w8 hown8 hg8 _
            have hownX := hown.alloc (.cells #[.int .i64 a, .int .i64 b] 27)
            have W18 := (W1.alloc (.cells #[.int .i64 a, .int .i64 b] 27)).grown hg8 (row_apart hownX (W1.alloc _) (by decide))
            have W08 := (W0.alloc (.cells #[.int .i64 a, .int .i64 b] 27)).grown hg8 (row_apart hownX (W0.alloc _) (by decide))
            have C8 := (c5.keep (below_grown (row := none) ((Below.refl _ _).alloc (Nat.le_refl _) (.cells #[.int .i64 a, .int .i64 b] 27))) (by simp)).keep hg8 (fun j hj => by have := (hownX.lt j hj).1; omega)
            have g8 := grown_row (grown_alloc gw (.cells #[.int .i64 a, .int .i64 b] 27)) hg8 (fun j hj => by have := (hownX.lt j hj).1; omega)
            have hs8 : w1.heap.size ≤ w8.heap.size := by have := hg8.size; rw [World.size_alloc] at this; omega
            have hne := row_apart hown8 W18 (by decide)
            obtain ⟨A8, c8, rfl⟩ := slice_of_row hown8
            have q5 : w8.cell? ⟨w.heap.size + 1, 2, none⟩ = some (.slice A l.length cap) := (W18.cell 2).trans rfl
            have q6 := W18.frozen 2
            have hel : (l ++ [(a, b)]).length = l.length + 1 := by simp
            have HE := Lib.hid hel
            have HF := Lib.hid (show flat (l ++ [(a, b)]) = flat l ++ [.int .i64 a, .int .i64 b] by rw [flat_append]; rfl)
            clear hownX hown W0 W1 XA x0 x1 q2 hg8 gw hel
            go_wp2
            go_roundw
            case rel =>
              refine ⟨A8, c8, l ++ [(a, b)], by rw [HE.out]; omega, ?_, ?_, ?_, ?_, ?_, grown_set_new g8 (by omega), by simpa [World.setCell] using hs8⟩
              · intro x hx
                rcases List.mem_append.1 hx with h | h
                · exact hgl x h
                · rw [List.mem_singleton.1 h]; exact HG.out
              · rw [HE.out, HF.out]
                exact row_setD hown8 _ _ hne
              · exact W08.set_far _ _ (by simp)
              · rw [HE.out]
                exact W18.set 2 _
              · rw [HE.out]
                exact (C8.mono (by omega)).set_far (by omega)
            case measure =>
              rw [HM.out]
              have hX := (W18.set 2 (.slice A8 (l.length + 1) c8)).cell 2
              have hY : lenAt ((w8.setCell ⟨w.heap.size + 1, 2, none⟩ (.slice A8 (l.length + 1) c8)).cell? ⟨w.heap.size + 1, 2, none⟩) = l.length + 1 := by rw [hX]; rfl
              first | (rw [hY]; omega) | (simp [hY]; omega)
        · have h6 : (a == 5) = false := by simp [h5]
          have x0 : w7.cell? ⟨wr.heap.size, 0, none⟩ = some (.int .i64 a) := (XA.cell 0).trans rfl
          have x1 : w7.cell? ⟨wr.heap.size, 1, none⟩ = some (.int .i64 b) := (XA.cell 1).trans rfl
          have q2 : w7.cell? ⟨w.heap.size + 1, 2, none⟩ = some (.slice A l.length cap) := (W1.cell 2).trans rfl
          go_wp2_with (first | (at_builtin; refine wpList_append_own _ rfl (.tmp 45) (.tmp 47) 23 rfl w1.heap.size 27 i0 _ 2 16 Try.underlying23 hi hz0 hz1 hz2 rfl (by omega) _ l.length (flat l) rfl (hown.alloc _) ⟨w7.heap.size, 0, none⟩ 1 1 [.int .i64 a, .int .i64 b] rfl rfl two_cells two_one (by unfold maxLen; omega) (by omega) (by rw [World.size_alloc]; omega) ?_) | fail)
          intro v8 w8 hown8 hg8 _
          have hownX := hown.alloc (.cells #[.int .i64 a, .int .i64 b] 27)
          have W18 := (W1.alloc (.cells #[.int .i64 a, .int .i64 b] 27)).grown hg8 (row_apart hownX (W1.alloc _) (by decide))
          have W08 := (W0.alloc (.cells #[.int .i64 a, .int .i64 b] 27)).grown hg8 (row_apart hownX (W0.alloc _) (by decide))
          have C8 := (c7.keep (below_grown (row := none) ((Below.refl _ _).alloc (Nat.le_refl _) (.cells #[.int .i64 a, .int .i64 b] 27))) (by simp)).keep hg8 (fun j hj => by have := (hownX.lt j hj).1; omega)
          have g8 := grown_row (grown_alloc gw (.cells #[.int .i64 a, .int .i64 b] 27)) hg8 (fun j hj => by have := (hownX.lt j hj).1; omega)
          have hs8 : w1.heap.size ≤ w8.heap.size := by have := hg8.size; rw [World.size_alloc] at this; omega
          have hne := row_apart hown8 W18 (by decide)
          obtain ⟨A8, c8, rfl⟩ := slice_of_row hown8
          have q5 : w8.cell? ⟨w.heap.size + 1, 2, none⟩ = some (.slice A l.length cap) := (W18.cell 2).trans rfl
          have q6 := W18.frozen 2
          have hel : (l ++ [(a, b)]).length = l.length + 1 := by simp
          have HE := Lib.hid hel
          have HF := Lib.hid (show flat (l ++ [(a, b)]) = flat l ++ [.int .i64 a, .int .i64 b] by rw [flat_append]; rfl)
          clear hownX hown W0 W1 XA x0 x1 q2 hg8 gw hel
          go_wp2
          go_roundw
          case rel =>
            refine ⟨A8, c8, l ++ [(a, b)], by rw [HE.out]; omega, ?_, ?_, ?_, ?_, ?_, grown_set_new g8 (by omega), by simpa [World.setCell] using hs8⟩
            · intro x hx
              rcases List.mem_append.1 hx with h | h
              · exact hgl x h
              · rw [List.mem_singleton.1 h]; exact hga
            · rw [HE.out, HF.out]
              exact row_setD hown8 _ _ hne
            · exact W08.set_far _ _ (by simp)
            · rw [HE.out]
              exact W18.set 2 _
            · rw [HE.out]
              exact (C8.mono (by omega)).set_far (by omega)
          case measure =>
            rw [HM.out]
            have hX := (W18.set 2 (.slice A8 (l.length + 1) c8)).cell 2
            have hY : lenAt ((w8.setCell ⟨w.heap.size + 1, 2, none⟩ (.slice A8 (l.length + 1) c8)).cell? ⟨w.heap.size + 1, 2, none⟩) = l.length + 1 := by rw [hX]; rfl
            first | (rw [hY]; omega) | (simp [hY]; omega)
    · have hi9 : decide ((l.length : Int) < (N : Int)) = false := by simp; omega
      have q1 := W0.frozen 0
      have q3 := W0.frozen 1
      have q4 := W0.frozen 2
      have p0 : wr.cell? ⟨w.heap.size, 0, none⟩ = some (.int .i64 0) := (W0.cell 0).trans rfl
      have p1 : wr.cell? ⟨w.heap.size, 1, none⟩ = some (.int .i64 0) := (W0.cell 1).trans rfl
      have p2 : wr.cell? ⟨w.heap.size, 2, none⟩ = some (.slice none 0 0) := (W0.cell 2).trans rfl
      have k1 : wr.cell? ⟨w.heap.size + 1, 1, none⟩ = some (.int .i64 (c : Int)) := (W1.cell 1).trans rfl
      go_wp2
      refine bodyPost_ret (v := .agg #[.int .i64 (r : Int), .int .i64 (c : Int), .slice A l.length cap]) ?_ rfl ?_; (focus (simp [results, Try.results79, go_sem, *]; done))
      have hlN : l.length = N := by omega
      have ho := own_of_row hown
      have hcap : l.length ≤ cap := by
        rcases hown.2 with ⟨h1, h2⟩ | ⟨g, cp, cur, h1, _, _, h2, _⟩
        · omega
        · injection h1 with e1 e2 e3
          omega
      have hg : goodB r c l = true := by
        unfold goodB sizeB
        simp only [Bool.and_eq_true, decide_eq_true_eq, List.all_eq_true]
        exact ⟨⟨by omega, by rw [hmul, hlN]⟩, fun x hx => hgl x hx⟩
      have hne := row_apart hown W0 (by decide)
      refine ⟨A, cap, l, rfl, hg, hcap, ?_, fun a ha => Nat.le_trans (by omega) (ho.2 a ha), ((((cw.mono (by omega)).set_far (by omega)).set_far (by omega)).set_far (by omega)), grown_set_new (grown_set_new (grown_set_new gw (by omega)) (by omega)) (by omega)⟩
      exact (own_of_row (row_setD (row_setD (row_setD hown _ _ hne) _ _ hne) _ _ hne)).1
end Go.Proofs.Ytpfjbecpfdgnpaa
