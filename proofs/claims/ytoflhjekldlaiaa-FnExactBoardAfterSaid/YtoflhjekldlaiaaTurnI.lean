/- TurnGear, the program's. -/
import Derived.Test.YtoflhjekldlaiaaTurnG
namespace Go.Proofs.Ytoflhjekldlaiaa
open Go.ChangeShapes Go.WideShapes Go.ChangeAt Go.RowKit Go.Joins Go.Deep
set_option linter.unusedSimpArgs false
set_option linter.unusedVariables false
set_option maxRecDepth 100000
set_option maxHeartbeats 4000000
theorem impl_groupWithN (r c : Nat) (A : Option Addr) (cap : Nat) (l : List (Int × Int)) (i : Nat) (w : World) (hG : Geo r c l.length) (hr : Rd w w.heap.size A (flat l)) (hi : i < l.length) (hJ : J l i = true) :
    Calls Try.prog 115 #[.agg #[.int .i64 (r : Int), .int .i64 (c : Int), .slice A l.length cap], .int .i64 (i : Int)] w fun e w' => ∃ A' cap', e = .returned (.slice A' (grpL (c : Int) l i).length cap') ∧ Own w' A' 3 (ints (nI (grpL (c : Int) l i))) ∧ New w A' ∧ Below w.heap.size w w' :=
  (impl_groupWith r c A cap l i w hG hr hi hJ).mono fun e w' h => by
    rw [grp_of_cell hG hi hJ] at h
    obtain ⟨A', cap', rfl, a, b, d⟩ := h
    exact ⟨A', cap', by rw [nI_length], a, b, d⟩
theorem impl_gearsAmongN (R C : Int) (A : Option Addr) (cap : Nat) (l : List (Int × Int)) (A1 : Option Addr) (cap1 : Nat) (q : List Nat) (w : World) (hr : Rd w w.heap.size A (flat l)) (hq : q.length ≤ 1048576) (hx : ∀ x ∈ q, x < l.length) (h1 : Rd w w.heap.size A1 (ints (nI q))) :
    Calls Try.prog 114 #[.agg #[.int .i64 R, .int .i64 C, .slice A l.length cap], .slice A1 q.length cap1] w fun e w' => ∃ A' cap', e = .returned (.slice A' (q.filter (gearK l)).length cap') ∧ Own w' A' 3 (ints (nI (q.filter (gearK l)))) ∧ New w A' ∧ Below w.heap.size w w' :=
  (impl_gearsAmong R C A cap l A1 cap1 q w hr hq hx h1).mono fun e w' h => by
    obtain ⟨A', cap', rfl, a, b, d⟩ := h
    exact ⟨A', cap', by rw [nI_length], a, b, d⟩
def gearsOf (C : Int) (l : List (Int × Int)) (k : Nat) : List Nat := (grpL C l k).filter (gearK l)
theorem gearsOf_at {C : Int} {l : List (Int × Int)} {k j : Nat} (hj : j < (gearsOf C l k).length) :
    (gearsOf C l k)[j] < l.length ∧ gearK l (gearsOf C l k)[j] = true ∧ (gearsOf C l k)[j] ∉ (gearsOf C l k).take j := by
  have hm := List.getElem_mem hj
  have hp : (gearsOf C l k).Pairwise (· < ·) := (List.pairwise_lt_range.filter _).filter _
  refine ⟨?_, ?_, fun h => ?_⟩
  · exact List.mem_range.1 (List.mem_filter.1 (List.mem_filter.1 hm).1).1
  · exact (List.mem_filter.1 hm).2
  · rw [List.mem_iff_getElem] at h
    obtain ⟨i, hi, hie⟩ := h
    rw [List.getElem_take] at hie
    rw [List.length_take] at hi
    have := List.pairwise_iff_getElem.1 hp i j (by omega) hj (by omega)
    omega
theorem gearsOf_len (C : Int) (l : List (Int × Int)) (k : Nat) : (gearsOf C l k).length ≤ l.length := by
  have h1 := List.length_filter_le (gearK l) (grpL C l k)
  have h2 := grpL_len C l k
  unfold gearsOf
  omega
theorem grpL_lt (C : Int) (l : List (Int × Int)) (k : Nat) : ∀ x ∈ grpL C l k, x < l.length := fun x hx => List.mem_range.1 (List.mem_filter.1 hx).1
def inTake (gs : List Nat) (j : Nat) (x : Nat) : Bool := (gs.take j).contains x
theorem inTake_step {l : List (Int × Int)} {gs : List Nat} {j : Nat} (hj : j < gs.length) (hx : gs[j] < l.length) :
    (tnS l (inTake gs j)).set gs[j] ((l.getD gs[j] (0, 0)).1, 1 - (l.getD gs[j] (0, 0)).2) = tnS l (inTake gs (j + 1)) := by
  refine tnS_set hx fun x _ => ?_
  unfold inTake
  rw [List.take_succ_eq_append_getElem hj, List.contains_eq_any_beq, List.contains_eq_any_beq, List.any_append]
  simp [eq_comm]
theorem inTake_zero {l : List (Int × Int)} {gs : List Nat} : tnS l (inTake gs 0) = l := by
  rw [show tnS l (inTake gs 0) = tnS l (fun _ => false) from tnS_congr fun x _ => by simp [inTake]]
  exact tnS_none
theorem inTake_all {C : Int} {l : List (Int × Int)} {k : Nat} : tnS l (inTake (gearsOf C l k) (gearsOf C l k).length) = tnS l (isIn C l (nmb C l k)) := by
  refine tnS_congr fun x hx => ?_
  unfold inTake isIn gearsOf grpL
  rw [List.take_length, Bool.eq_iff_iff, List.contains_iff_mem, List.mem_filter, List.mem_filter, List.mem_range, Bool.and_eq_true]
  exact ⟨fun h => ⟨h.1.2, h.2⟩, fun h => ⟨⟨hx, h.1⟩, h.2⟩⟩
theorem okT_join {R C : Int} {l : List (Int × Int)} {i j : Int} (h : okT R C l i j = true) : okJ R C l i j = true := by
  unfold okT at h
  rw [Bool.and_eq_true] at h
  unfold okJ
  rw [h.1, Bool.true_and]
  have h2 := h.2
  unfold gearK at h2
  rw [decide_eq_true_eq] at h2
  rw [h2]
  rfl
end Go.Proofs.Ytoflhjekldlaiaa
