/- CutRows, program and model; a piece of a list in memory. -/
import Derived.Test.YtlambflmabecfaaDoorPut
namespace Go.Proofs.YtlambflmabecfaaDoor
open Go.ChangeShapes Go.WideShapes Go.ChangeAt Go.RowKit Go.Joins Go.Deep
set_option linter.unusedSimpArgs false
set_option linter.unusedVariables false
set_option maxRecDepth 100000
set_option maxHeartbeats 1000000
def cutIn (R f t : Int) : Bool := decide (0 ≤ f ∧ f < t ∧ t ≤ R)
def okCut (R C : Int) (l : List (Int × Int)) (f t : Int) : Bool := goodB R C l && cutIn R f t
def piece (l : List (Int × Int)) (p q : Nat) : List (Int × Int) := (l.drop p).take (q - p)
def cutL (R C : Int) (l : List (Int × Int)) (f t : Int) : List (Int × Int) := if okCut R C l f t then piece l (f * C).toNat (t * C).toNat else []
theorem piece_len {l : List (Int × Int)} {p q : Nat} (hq : q ≤ l.length) : (piece l p q).length = q - p := by
  unfold piece
  rw [List.length_take, List.length_drop]
  omega
theorem cutL_len (R C : Int) (l : List (Int × Int)) (f t : Int) (h : l.length ≤ 1048576) : (cutL R C l f t).length ≤ 1048576 := by
  unfold cutL piece
  split
  · rw [List.length_take, List.length_drop]; omega
  · simp
theorem flat_drop (l : List (Int × Int)) (p : Nat) : flat (l.drop p) = (flat l).drop (p * 2) := by
  induction p generalizing l with
  | zero => rfl
  | succ p ih =>
    cases l with
    | nil => simp [flat]
    | cons c l =>
      rw [List.drop_succ_cons, ih, show (p + 1) * 2 = p * 2 + 1 + 1 by omega]
      rfl
theorem piece_rd {w : World} {B b o : Nat} {l : List (Int × Int)} {p q : Nat} (hr : Rd w B (some ⟨b, o, none⟩) (flat l)) (hq : q ≤ l.length) (hpq : p < q) : Rd w B (some ⟨b, o + p * 2, none⟩) (flat (piece l p q)) := by
  intro _
  obtain ⟨b', o', e, hlt, hc⟩ := hr (by rw [flat_length]; omega)
  cases e
  refine ⟨b, o + p * 2, rfl, hlt, fun j u hj => ?_⟩
  have hl := flat_length (piece l p q)
  rw [piece_len hq] at hl
  have hj' := (List.getElem?_eq_some_iff.1 hj).1
  rw [Nat.add_assoc]
  refine hc (p * 2 + j) u ?_
  rw [← List.getElem?_drop, ← flat_drop, ← hj]
  have e1 : l.drop p = piece l p q ++ (l.drop p).drop (q - p) := (List.take_append_drop (q - p) (l.drop p)).symm
  rw [e1, flat_append, List.getElem?_append_left hj']
theorem cut_bound {R C : Int} {l : List (Int × Int)} {f t : Int} (hg : goodB R C l = true) (hc : cutIn R f t = true) :
    (f * C).toNat < (t * C).toNat ∧ (t * C).toNat ≤ l.length ∧ l.length ≤ 90 ∧ IntKind.i64.wrap (f * C) = ((f * C).toNat : Int) ∧ IntKind.i64.wrap (t * C) = ((t * C).toNat : Int) := by
  obtain ⟨hs, hl, _⟩ := goodB_iff.1 hg
  unfold cutIn at hc
  rw [decide_eq_true_eq] at hc
  have hm := mul_bound hs
  obtain ⟨s1, s2, s3, s4⟩ := sizeB_iff.1 hs
  have h1 : f * C < t * C := Int.mul_lt_mul_of_pos_right (by omega) (by omega)
  have h2 : t * C ≤ R * C := Int.mul_le_mul_of_nonneg_right (by omega) (by omega)
  have h3 : 0 ≤ f * C := Int.mul_nonneg (by omega) (by omega)
  refine ⟨by omega, by omega, by omega, ?_, ?_⟩
  · rw [IntWalk.i64_in (f * C) (by omega)]; omega
  · rw [IntWalk.i64_in (t * C) (by omega)]; omega
end Go.Proofs.YtlambflmabecfaaDoor
