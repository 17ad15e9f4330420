/- The gear or cog in a row and a column; groups by a cell. -/
import Derived.Test.YtoflhjekldlaiaaGsW
namespace Go.Proofs.Ytoflhjekldlaiaa
open Go.ChangeShapes Go.WideShapes Go.ChangeAt Go.RowKit Go.Joins Go.Deep
set_option linter.unusedSimpArgs false
set_option linter.unusedVariables false
set_option maxRecDepth 100000
set_option maxHeartbeats 2000000
def okJ (R C : Int) (l : List (Int × Int)) (i j : Int) : Bool := hasB R C l i j && joins (l.getD (atI C i j) (0, 0)).1
theorem okJ_parts {R C : Int} {l : List (Int × Int)} {i j : Int} (h : okJ R C l i j = true) : goodB R C l = true ∧ inB R C i j = true ∧ J l (atI C i j) = true := by
  unfold okJ at h
  rw [Bool.and_eq_true] at h
  obtain ⟨a, b⟩ := hasB_and h.1
  exact ⟨a, b, h.2⟩
theorem geo_of {R C : Int} {l : List (Int × Int)} (h : goodB R C l = true) : ∃ r c : Nat, R = (r : Int) ∧ C = (c : Int) ∧ Geo r c l.length := by
  obtain ⟨hs, hl, _⟩ := goodB_iff.1 h
  obtain ⟨s1, s2, s3, s4⟩ := sizeB_iff.1 hs
  refine ⟨R.toNat, C.toNat, by omega, by omega, by omega, by omega, by omega, by omega, ?_⟩
  have e : ((R.toNat * C.toNat : Nat) : Int) = R * C := by
    rw [Int.natCast_mul]
    rw [show (R.toNat : Int) = R by omega, show (C.toNat : Int) = C by omega]
  omega
def GG (C : Int) (l : List (Int × Int)) : List (List Nat) := gat (J l) (nearL C.toNat l.length) l.length l.length
def nmb (C : Int) (l : List (Int × Int)) (x : Nat) : Int := num (GG C l) 0 x
theorem groups_all {r c : Nat} {l : List (Int × Int)} (hG : Geo r c l.length) : Groups (J l) (nearL c l.length) l.length l.length (GG (c : Int) l) := by
  unfold GG
  rw [Int.toNat_natCast]
  exact groups_at hG.near hG.sym l.length (Nat.le_refl _)
def grpL (C : Int) (l : List (Int × Int)) (k : Nat) : List Nat := (List.range l.length).filter fun x => decide (nmb C l x = nmb C l k)
/-- The group that the program takes from a cell is that of the cell's number. -/
theorem grp_of_cell {r c k : Nat} {l : List (Int × Int)} (hG : Geo r c l.length) (hk : k < l.length) (hJ : J l k = true) : sortN l.length (brs (J l) (nearL c l.length) [] [k] l.length) = grpL (c : Int) l k := by
  have hA := groups_all hG
  obtain ⟨g, hg, hkg⟩ := List.mem_flatten.1 (hA.all k hk hJ)
  obtain ⟨m, hm, rfl⟩ := List.getElem_of_mem hg
  have e1 : nmb (c : Int) l k = ((0 + m : Nat) : Int) := (num_is _ 0 m hA.apart (List.getElem?_eq_getElem hm)).2 hkg
  unfold sortN grpL
  refine List.filter_congr fun x _ => ?_
  rw [e1, Bool.eq_iff_iff, List.contains_iff_mem, decide_eq_true_eq, hA.each _ hg k hkg x]
  exact (num_is _ 0 m hA.apart (List.getElem?_eq_getElem hm)).symm
end Go.Proofs.Ytoflhjekldlaiaa
