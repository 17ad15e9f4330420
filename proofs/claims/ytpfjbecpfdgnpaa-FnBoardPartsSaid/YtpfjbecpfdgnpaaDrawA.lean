/- Drawn boards: board. -/
import Derived.Test.YtpfjbecpfdgnpaaBoxes
import Derived.Test.YtpfjbecpfdgnpaaDrawB
namespace Go.Proofs.Ytpfjbecpfdgnpaa
open Go.ChangeShapes Go.WideShapes Go.ChangeAt Go.RowKit Go.Joins Go.Deep
set_option linter.unusedSimpArgs false
set_option linter.unusedVariables false
set_option maxRecDepth 100000
set_option maxHeartbeats 4000000
/-- What a draw of a board leaves: a good board of its own. -/
def GoodDraw (w : World) (p m : Nat) (e : Ending) (w' : World) : Prop := ∃ (R C : Int) (A : Option Addr) (cap : Nat) (l : List (Int × Int)), e = .returned (.agg #[.int .i64 R, .int .i64 C, .slice A l.length cap]) ∧ goodB R C l = true ∧ l.length ≤ cap ∧ Own w' A 27 (flat l) ∧ New w A ∧ Cr w' p m ∧ w.grownBy w' (some p)
theorem board_any (p n : Nat) (w : World) (h : Cr w p n) (hn : n ≤ 700000) :
    Calls Try.prog 108 #[.pointer (some ⟨p, 0, none⟩)] w (GoodDraw w p (n + 2100)) := by
  have hp := h.lt
  obtain ⟨v0, hv0, X0, B0, hz0⟩ := one_box w [.int .i64 0, .int .i64 0, .slice none 0 0] 25
  have HV := Lib.hid hv0
  clear hv0
  have C0 : Cr v0 p n := h.keep (below_grown (row := none) B0) (by simp)
  have gw : w.grownBy v0 (some p) := below_grown B0
  go_enter Try.func108, Try.ntmps108
  go_wp2_with fail
  rewrite [show w.alloc (.cells ([.int .i64 0, .int .i64 0, .slice none 0 0] : List Value).toArray 25) = v0 from HV.out]
  clear HV B0
  refine (one_any p _ 20 _ C0 (by omega) (by omega) (by omega)).mono ?_; rintro e w1 ⟨t, rfl, c1, g1⟩
  replace X0 := X0.grownC g1 (by omega)
  replace gw := gw.trans g1
  clear C0 g1 hz0
  rcases t with _ | _
  · go_wp2_with fail
    refine (pick_any p _ 5 _ c1 (by omega) (by omega) (by omega)).mono ?_; rintro e w2 ⟨x, rfl, x0, x1, c2, g2⟩
    replace X0 := X0.grownC g2 (by omega)
    replace gw := gw.trans g2
    obtain ⟨r, hr⟩ := Int.eq_ofNat_of_zero_le (show 0 ≤ 1 + x by omega)
    go_wp2_with fail
    refine (pick_any p _ 5 _ c2 (by omega) (by omega) (by omega)).mono ?_; rintro e w3 ⟨y, rfl, y0, y1, c3, g3⟩
    replace X0 := X0.grownC g3 (by omega)
    replace gw := gw.trans g3
    obtain ⟨c, hc⟩ := Int.eq_ofNat_of_zero_le (show 0 ≤ 1 + y by omega)
    go_wp2_with fail
    refine (boardOf_any p _ r c _ c3 (by omega) (by omega) (by omega) (by omega) (by omega)).mono ?_
    rintro e w9 ⟨A, cap, l, rfl, hg, hcap, ho, hn9, c9, g9⟩
    have Y := X0.grownC g9 (by omega)
    have q0 : w9.cell? ⟨w.heap.size, 0, none⟩ = some (.int .i64 0) := (Y.cell 0).trans rfl
    have q1 : w9.cell? ⟨w.heap.size, 1, none⟩ = some (.int .i64 0) := (Y.cell 1).trans rfl
    have q2 : w9.cell? ⟨w.heap.size, 2, none⟩ = some (.slice none 0 0) := (Y.cell 2).trans rfl
    have Yf0 := Y.frozen 0; have Yf1 := Y.frozen 1; have Yf2 := Y.frozen 2
    have hA : ∀ a, A = some a → w.heap.size < a.block := fun a ha => Nat.lt_of_lt_of_le X0.lt (hn9 a ha)
    go_wp2
    refine bodyPost_ret (v := .agg #[.int .i64 (r : Nat), .int .i64 (c : Nat), .slice A l.length cap]) ?_ rfl ?_; (focus (simp [results, Try.results108, go_sem, *]; done))
    refine ⟨_, _, A, cap, l, rfl, hg, hcap, ?_, fun a ha => Nat.le_of_lt (hA a ha), (((c9.mono (by omega)).set_far hp).set_far hp).set_far hp, grown_set_new (grown_set_new (grown_set_new (gw.trans g9) (Nat.le_refl _)) (Nat.le_refl _)) (Nat.le_refl _)⟩
    exact ((ho.set_far2 _ _ (fun _ a ha => by have := hA a ha; simp; omega)).set_far2 _ _ (fun _ a ha => by have := hA a ha; simp; omega)).set_far2 _ _ (fun _ a ha => by have := hA a ha; simp; omega)
  · obtain ⟨v1, hv1, Z0, B1, hz1⟩ := one_box w1 (ints [1, 10]) 3
    have HV := Lib.hid hv1
    clear hv1
    go_wp2_with fail
    rewrite [show w1.alloc (.cells ([.int .i64 1, .int .i64 10] : List Value).toArray 3) = v1 from HV.out]
    clear HV
    refine (among_any p _ (some ⟨w1.heap.size, 0, none⟩) 2 [1, 10] _ (c1.keep (below_grown (row := none) B1) (by simp)) (by omega) (by decide) (by decide) Z0.rdI (by have := c1.lt; simp; omega)).mono ?_; rintro e w2 ⟨x, rfl, hx, c2, g2⟩
    replace X0 := (X0.new B1).grownC g2 (by omega)
    replace gw := (gw.trans (below_grown B1)).trans g2
    clear Z0 B1 hz1 g2 c1
    obtain ⟨r, rfl⟩ := Int.eq_ofNat_of_zero_le (show 0 ≤ x by simp at hx; omega)
    have hr : r = 1 ∨ r = 10 := by simp at hx; omega
    obtain ⟨v3, hv3, Z0, B1, hz1⟩ := one_box w2 (ints [1, 9]) 3
    have HV := Lib.hid hv3
    clear hv3
    go_wp2_with fail
    rewrite [show w2.alloc (.cells ([.int .i64 1, .int .i64 9] : List Value).toArray 3) = v3 from HV.out]
    clear HV
    refine (among_any p _ (some ⟨w2.heap.size, 0, none⟩) 2 [1, 9] _ (c2.keep (below_grown (row := none) B1) (by simp)) (by omega) (by decide) (by decide) Z0.rdI (by have := c2.lt; simp; omega)).mono ?_; rintro e w3 ⟨y, rfl, hy, c3, g3⟩
    replace X0 := (X0.new B1).grownC g3 (by omega)
    replace gw := (gw.trans (below_grown B1)).trans g3
    clear Z0 B1 hz1 g3 c2
    obtain ⟨c, rfl⟩ := Int.eq_ofNat_of_zero_le (show 0 ≤ y by simp at hy; omega)
    have hc : c = 1 ∨ c = 9 := by simp at hy; omega
    go_wp2_with fail
    refine (boardOf_any p _ r c _ c3 (by omega) (by omega) (by omega) (by omega) (by omega)).mono ?_
    rintro e w9 ⟨A, cap, l, rfl, hg, hcap, ho, hn9, c9, g9⟩
    have Y := X0.grownC g9 (by omega)
    have q0 : w9.cell? ⟨w.heap.size, 0, none⟩ = some (.int .i64 0) := (Y.cell 0).trans rfl
    have q1 : w9.cell? ⟨w.heap.size, 1, none⟩ = some (.int .i64 0) := (Y.cell 1).trans rfl
    have q2 : w9.cell? ⟨w.heap.size, 2, none⟩ = some (.slice none 0 0) := (Y.cell 2).trans rfl
    have Yf0 := Y.frozen 0; have Yf1 := Y.frozen 1; have Yf2 := Y.frozen 2
    have hA : ∀ a, A = some a → w.heap.size < a.block := fun a ha => Nat.lt_of_lt_of_le X0.lt (hn9 a ha)
    go_wp2
    refine bodyPost_ret (v := .agg #[.int .i64 (r : Nat), .int .i64 (c : Nat), .slice A l.length cap]) ?_ rfl ?_; (focus (simp [results, Try.results108, go_sem, *]; done))
    refine ⟨_, _, A, cap, l, rfl, hg, hcap, ?_, fun a ha => Nat.le_of_lt (hA a ha), (((c9.mono (by omega)).set_far hp).set_far hp).set_far hp, grown_set_new (grown_set_new (grown_set_new (gw.trans g9) (Nat.le_refl _)) (Nat.le_refl _)) (Nat.le_refl _)⟩
    exact ((ho.set_far2 _ _ (fun _ a ha => by have := hA a ha; simp; omega)).set_far2 _ _ (fun _ a ha => by have := hA a ha; simp; omega)).set_far2 _ _ (fun _ a ha => by have := hA a ha; simp; omega)
end Go.Proofs.Ytpfjbecpfdgnpaa
