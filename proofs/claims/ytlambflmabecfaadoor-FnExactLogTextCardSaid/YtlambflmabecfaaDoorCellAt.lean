/- The cell in a row and a column, program and model. -/
import Derived.Test.YtlambflmabecfaaDoorRows2
namespace Go.Proofs.YtlambflmabecfaaDoor
open Go.ChangeShapes Go.WideShapes Go.ChangeAt Go.RowKit Go.Joins Go.Deep
set_option linter.unusedSimpArgs false
set_option linter.unusedVariables false
set_option maxRecDepth 100000
set_option maxHeartbeats 400000
theorem cell_two {w : World} {b o : Nat} {l : List (Int × Int)} (hc : ∀ j u, (flat l)[j]? = some u → w.cell? ⟨b, o + j, none⟩ = some u) {k : Nat} (h : k < l.length) :
    w.cell? ⟨b, o + k * 2, none⟩ = some (.int .i64 l[k].1) ∧ w.cell? ⟨b, o + k * 2 + 1, none⟩ = some (.int .i64 l[k].2) :=
  ⟨hc _ _ (flat_at l k h).1, hc _ _ (flat_at l k h).2⟩
def inB (R C i j : Int) : Bool := decide (0 ≤ i ∧ i < R ∧ 0 ≤ j ∧ j < C)
def hasB (R C : Int) (l : List (Int × Int)) (i j : Int) : Bool := goodB R C l && inB R C i j
theorem inB_iff {R C i j : Int} : inB R C i j = true ↔ 0 ≤ i ∧ i < R ∧ 0 ≤ j ∧ j < C := by unfold inB; simp
def atI (C i j : Int) : Nat := (i * C + j).toNat
theorem at_bound {R C : Int} {l : List (Int × Int)} {i j : Int} (hg : goodB R C l = true) (hi : inB R C i j = true) :
    (0 ≤ i * C ∧ i * C ≤ 90) ∧ i * C + j = (atI C i j : Int) ∧ atI C i j < l.length ∧ l.length ≤ 90 := by
  obtain ⟨hs, hl, _⟩ := goodB_iff.1 hg
  obtain ⟨a, b, c, d⟩ := inB_iff.1 hi
  have hm := mul_bound hs
  obtain ⟨s1, s2, s3, s4⟩ := sizeB_iff.1 hs
  have h1 : i * C ≤ (R - 1) * C := Int.mul_le_mul_of_nonneg_right (by omega) (by omega)
  have h2 : (R - 1) * C = R * C - C := by rw [Int.sub_mul, Int.one_mul]
  have h3 : 0 ≤ i * C := Int.mul_nonneg a (by omega)
  unfold atI
  omega
theorem wrap_at {R C : Int} {l : List (Int × Int)} {i j : Int} (hg : goodB R C l = true) (hi : inB R C i j = true) :
    IntKind.i64.wrap (i * C) = i * C ∧ IntKind.i64.wrap (i * C + j) = (atI C i j : Int) := by
  obtain ⟨h1, h2, h3, h4⟩ := at_bound hg hi
  refine ⟨IntWalk.i64_in (i * C) (by omega), ?_⟩
  rw [IntWalk.i64_in (i * C + j) (by omega), h2]
def cellK (R C : Int) (l : List (Int × Int)) (i j : Int) : Int := selI (hasB R C l i j) (l.getD (atI C i j) (0, 0)).1
def cellS (R C : Int) (l : List (Int × Int)) (i j : Int) : Int := selI (hasB R C l i j) (l.getD (atI C i j) (0, 0)).2
theorem hasB_and {R C : Int} {l : List (Int × Int)} {i j : Int} (h : hasB R C l i j = true) : goodB R C l = true ∧ inB R C i j = true := by
  unfold hasB at h; simpa using h
end Go.Proofs.YtlambflmabecfaaDoor
