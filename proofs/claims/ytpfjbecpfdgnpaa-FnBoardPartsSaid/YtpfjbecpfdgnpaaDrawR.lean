/- Drawn rows and columns. -/
import Derived.Test.YtpfjbecpfdgnpaaDrawA
namespace Go.Proofs.Ytpfjbecpfdgnpaa
open Go.ChangeShapes Go.WideShapes Go.ChangeAt Go.RowKit Go.Joins Go.Deep
set_option linter.unusedSimpArgs false
set_option linter.unusedVariables false
set_option maxRecDepth 100000
set_option maxHeartbeats 2000000
theorem l1Most_d (a b : Int) (w : World) : Calls Try.prog 77 #[.int .i64 a, .int .i64 b] w fun e w' => ∃ m : Int, e = .returned (.int .i64 m) ∧ m = (if b < a then a else b) ∧ w = w' := by
  go_enter Try.func77, Try.ntmps77
  by_cases h : b < a
  · go_wp2
    go_returns
    exact ⟨a, rfl, (by first | rfl | (split <;> omega)), rfl⟩
  · go_wp2
    go_returns
    exact ⟨b, rfl, (by first | rfl | (split <;> omega)), rfl⟩
theorem l1Least_d (a b : Int) (w : World) : Calls Try.prog 78 #[.int .i64 a, .int .i64 b] w fun e w' => ∃ m : Int, e = .returned (.int .i64 m) ∧ m = (if a < b then a else b) ∧ w = w' := by
  go_enter Try.func78, Try.ntmps78
  by_cases h : a < b
  · go_wp2
    go_returns
    exact ⟨a, rfl, (by first | rfl | (split <;> omega)), rfl⟩
  · go_wp2
    go_returns
    exact ⟨b, rfl, (by first | rfl | (split <;> omega)), rfl⟩
theorem rowOf_any (p n : Nat) (R C : Int) (A : Option Addr) (k cap : Nat) (w : World) (h : Cr w p n) (hn : n ≤ 900000) (hR : 0 ≤ R ∧ R ≤ 20) (hC : 0 ≤ C ∧ C ≤ 20) :
    Calls Try.prog 66 #[.pointer (some ⟨p, 0, none⟩), .agg #[.int .i64 R, .int .i64 C, .slice A k cap]] w fun e w' => ∃ x : Int, e = .returned (.int .i64 x) ∧ (-1 ≤ x ∧ x ≤ 20) ∧ Cr w' p (n + 6) ∧ w.grownBy w' (some p) := by
  have hp := h.lt
  obtain ⟨v0, hv0, X0, B0, hz0⟩ := one_box w [.int .i64 R, .int .i64 C, .slice A k cap] 25
  have HV := Lib.hid hv0
  clear hv0
  have C0 : Cr v0 p n := h.keep (below_grown (row := none) B0) (by simp)
  have gw : w.grownBy v0 (some p) := below_grown B0
  go_enter Try.func66, Try.ntmps66
  go_wp2_with fail
  rewrite [show w.alloc (.cells ([.int .i64 R, .int .i64 C, .slice A k cap] : List Value).toArray 25) = v0 from HV.out]
  refine (l1Most_d _ _ _).mono ?_; rintro e w1 ⟨m, rfl, hm, rfl⟩
  have hm1 : 1 ≤ m ∧ m ≤ 20 := by split at hm <;> omega
  clear hm
  go_wp2_with fail
  refine (pick_any p _ 16 _ C0 (by omega) (by omega) (by omega)).mono ?_; rintro e w2 ⟨x, rfl, x0, x1, c2, g2⟩
  have hd : 0 ≤ x / 15 ∧ x / 15 ≤ 1 := by omega
  go_wp2_with fail
  refine (pick_any p _ _ _ c2 (by omega) (by omega) (by omega)).mono ?_; rintro e w3 ⟨y, rfl, y0, y1, c3, g3⟩
  go_wp2_with fail
  refine (pick_any p _ 24 _ c3 (by omega) (by omega) (by omega)).mono ?_; rintro e w4 ⟨z, rfl, z0, z1, c4, g4⟩
  have hd2 : 0 ≤ z / 23 ∧ z / 23 ≤ 1 := by omega
  go_wp2
  go_returns
  exact ⟨_, rfl, by omega, c4, ((gw.trans g2).trans g3).trans g4⟩
theorem columnOf_any (p n : Nat) (R C : Int) (A : Option Addr) (k cap : Nat) (w : World) (h : Cr w p n) (hn : n ≤ 900000) (hR : 0 ≤ R ∧ R ≤ 20) (hC : 0 ≤ C ∧ C ≤ 20) :
    Calls Try.prog 67 #[.pointer (some ⟨p, 0, none⟩), .agg #[.int .i64 R, .int .i64 C, .slice A k cap]] w fun e w' => ∃ x : Int, e = .returned (.int .i64 x) ∧ (-1 ≤ x ∧ x ≤ 20) ∧ Cr w' p (n + 6) ∧ w.grownBy w' (some p) := by
  have hp := h.lt
  obtain ⟨v0, hv0, X0, B0, hz0⟩ := one_box w [.int .i64 R, .int .i64 C, .slice A k cap] 25
  have HV := Lib.hid hv0
  clear hv0
  have C0 : Cr v0 p n := h.keep (below_grown (row := none) B0) (by simp)
  have gw : w.grownBy v0 (some p) := below_grown B0
  go_enter Try.func67, Try.ntmps67
  go_wp2_with fail
  rewrite [show w.alloc (.cells ([.int .i64 R, .int .i64 C, .slice A k cap] : List Value).toArray 25) = v0 from HV.out]
  refine (l1Most_d _ _ _).mono ?_; rintro e w1 ⟨m, rfl, hm, rfl⟩
  have hm1 : 1 ≤ m ∧ m ≤ 20 := by split at hm <;> omega
  clear hm
  go_wp2_with fail
  refine (pick_any p _ 16 _ C0 (by omega) (by omega) (by omega)).mono ?_; rintro e w2 ⟨x, rfl, x0, x1, c2, g2⟩
  have hd : 0 ≤ x / 15 ∧ x / 15 ≤ 1 := by omega
  go_wp2_with fail
  refine (pick_any p _ _ _ c2 (by omega) (by omega) (by omega)).mono ?_; rintro e w3 ⟨y, rfl, y0, y1, c3, g3⟩
  go_wp2_with fail
  refine (pick_any p _ 24 _ c3 (by omega) (by omega) (by omega)).mono ?_; rintro e w4 ⟨z, rfl, z0, z1, c4, g4⟩
  have hd2 : 0 ≤ z / 23 ∧ z / 23 ≤ 1 := by omega
  go_wp2
  go_returns
  exact ⟨_, rfl, by omega, c4, ((gw.trans g2).trans g3).trans g4⟩
end Go.Proofs.Ytpfjbecpfdgnpaa
