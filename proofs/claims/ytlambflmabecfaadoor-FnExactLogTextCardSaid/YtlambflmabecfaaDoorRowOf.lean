/- The cells of a row of a valid board, program and model. -/
import Derived.Test.YtlambflmabecfaaDoorCut
import Derived.Test.YtlambflmabecfaaDoorRows2
namespace Go.Proofs.YtlambflmabecfaaDoor
open Go.ChangeShapes Go.WideShapes Go.ChangeAt Go.RowKit Go.Joins Go.Deep
set_option linter.unusedSimpArgs false
set_option linter.unusedVariables false
set_option maxRecDepth 100000
set_option maxHeartbeats 1000000
def rowL (C : Int) (l : List (Int × Int)) (k : Nat) : List (Int × Int) := piece l (k * C.toNat) ((k + 1) * C.toNat)
theorem row_facts {R C : Int} {l : List (Int × Int)} {k : Nat} (hg : goodB R C l = true) (hk : (k : Int) < R) :
    (k + 1) * C.toNat ≤ l.length ∧ k * C.toNat < (k + 1) * C.toNat ∧ l.length ≤ 90 ∧ k ≤ 9 ∧ C.toNat ≤ 9 ∧ 0 < C.toNat ∧
      IntKind.i64.wrap ((k : Int) * C) = ((k * C.toNat : Nat) : Int) ∧ IntKind.i64.wrap (((k : Int) + 1) * C) = (((k + 1) * C.toNat : Nat) : Int) ∧ (k + 1) * C.toNat - k * C.toNat = C.toNat := by
  obtain ⟨hs, hl, _⟩ := goodB_iff.1 hg
  have hm := mul_bound hs
  obtain ⟨s1, s2, s3, s4⟩ := sizeB_iff.1 hs
  obtain ⟨n, rfl⟩ : ∃ n : Nat, C = (n : Int) := ⟨C.toNat, by omega⟩
  obtain ⟨r, rfl⟩ : ∃ r : Nat, R = (r : Int) := ⟨R.toNat, by omega⟩
  simp only [Int.toNat_natCast]
  have hrn : l.length = r * n := by exact_mod_cast hl
  have hk' : k + 1 ≤ r := by omega
  have h1 : (k + 1) * n ≤ r * n := Nat.mul_le_mul_right n hk'
  have h2 : (k + 1) * n = k * n + n := Nat.succ_mul k n
  have h3 : r * n ≤ 90 := by omega
  have e1 : (k : Int) * (n : Int) = ((k * n : Nat) : Int) := by push_cast; rfl
  have e2 : ((k : Int) + 1) * (n : Int) = (((k + 1) * n : Nat) : Int) := by push_cast; rfl
  refine ⟨by omega, by omega, by omega, by omega, by omega, by omega, ?_, ?_, by omega⟩
  · rw [e1]; exact IntWalk.i64_in _ (by omega)
  · rw [e2]; exact IntWalk.i64_in _ (by omega)
theorem rowL_len {R C : Int} {l : List (Int × Int)} {k : Nat} (hg : goodB R C l = true) (hk : (k : Int) < R) : (rowL C l k).length = C.toNat := by
  have h := row_facts hg hk
  unfold rowL
  rw [piece_len h.1]
  exact h.2.2.2.2.2.2.2.2
theorem rowL_good {R C : Int} {l : List (Int × Int)} {k : Nat} (hg : goodB R C l = true) (hk : (k : Int) < R) : goodL (rowL C l k) = true := by
  have h := row_facts hg hk
  have hlen := rowL_len hg hk
  unfold goodL
  rw [hlen, decide_eq_true (by omega), Bool.true_and, List.all_eq_true]
  intro c hc
  refine (goodB_iff.1 hg).2.2 c ?_
  unfold rowL piece at hc
  exact List.mem_of_mem_drop (List.mem_of_mem_take hc)
theorem rowL_rd {w : World} {B b o : Nat} {R C : Int} {l : List (Int × Int)} {k : Nat} (hg : goodB R C l = true) (hk : (k : Int) < R) (hr : Rd w B (some ⟨b, o, none⟩) (flat l)) : Rd w B (some ⟨b, o + (k * C.toNat) * 2, none⟩) (flat (rowL C l k)) :=
  piece_rd hr (row_facts hg hk).1 (row_facts hg hk).2.1
end Go.Proofs.YtlambflmabecfaaDoor
