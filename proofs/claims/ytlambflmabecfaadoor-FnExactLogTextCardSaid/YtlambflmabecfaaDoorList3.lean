/-
  LISTS IN MEMORY: marking a list and looking at the marks.
-/
import Derived.Test.YtlambflmabecfaaDoorList2
namespace Go.Proofs.YtlambflmabecfaaDoor
open Go.ChangeShapes Go.WideShapes Go.ChangeAt Go.RowKit Go.Joins Go.Deep
set_option linter.unusedSimpArgs false
set_option linter.unusedVariables false
set_option maxRecDepth 100000
set_option maxHeartbeats 400000
/-- The numbers k, k + 1, .. as words. -/
def marks (k : Int) : Nat → List Value
  | 0 => []
  | n + 1 => .int .i64 k :: marks (k + 1) n
theorem marks_length (k : Int) (n : Nat) : (marks k n).length = n := by
  induction n generalizing k with
  | zero => rfl
  | succ n ih => simp [marks, ih]
theorem marks_at (k : Int) (n i : Nat) (h : i < n) : (marks k n)[i]? = some (.int .i64 (k + i)) := by
  induction n generalizing k i with
  | zero => omega
  | succ n ih =>
    cases i with
    | zero => simp [marks]
    | succ i => simp only [marks, List.getElem?_cons_succ]; rw [ih (k + 1) i (by omega)]; congr 2; omega
theorem marks_snoc (k : Int) (n : Nat) : marks k (n + 1) = marks k n ++ [.int .i64 (k + n)] := by
  induction n generalizing k with
  | zero => simp [marks]
  | succ n ih =>
    have := ih (k + 1)
    rw [marks, this]
    simp only [marks, List.cons_append, List.cons.injEq, true_and]
    congr 3; omega
/-- A slice of the call's own: nil, or at the head of a block that begins with these words. -/
def Own (w : World) (A : Option Addr) (t : TypeId) (xs : List Value) : Prop :=
  0 < xs.length → ∃ g rest, A = some ⟨g, 0, none⟩ ∧ Whole w g t (xs ++ rest)
/-- Only the block of A, and what is new, has turned. -/
def Only (w w' : World) (A : Option Addr) : Prop := w.grownBy w' (A.map (·.block))
theorem marked_step (k : Int) (xs rest : List Value) (i : Nat) (h : i < xs.length) : ((marks k i ++ xs.drop i) ++ rest).set i (.int .i64 (k + i)) = (marks k (i + 1) ++ xs.drop (i + 1)) ++ rest := by
  rw [marks_snoc, List.append_assoc, List.set_append_right _ _ (by rw [marks_length]; omega), marks_length, Nat.sub_self]
  rw [List.drop_eq_getElem_cons h, List.cons_append, List.set_cons_zero]
  simp only [List.append_assoc, List.singleton_append, List.cons_append, List.nil_append]
theorem marked_at (k : Int) (xs rest : List Value) (i : Nat) (h : i < xs.length) : ∃ u, ((marks k i ++ xs.drop i) ++ rest)[i]? = some u := by
  refine ⟨xs[i], ?_⟩
  rw [List.append_assoc, List.getElem?_append_right (by rw [marks_length]; omega), marks_length, Nat.sub_self, List.getElem?_append_left (by simp; omega)]
  simp
theorem only_setCell {w wr : World} {g : Nat} (h : w.grownBy wr (some g)) (j : Nat) (u : Value) : w.grownBy (wr.setCell ⟨g, j, none⟩ u) (some g) :=
  ⟨h.os, h.tape, h.output, by simpa [World.setCell] using h.size, fun i hi hne => (Below.heap_setCell wr ⟨g, j, none⟩ u i (fun e => hne (by rw [e]))).trans (h.block i hi hne)⟩
theorem marks_two (k : Int) (n : Nat) : marks k (2 * (n + 1)) = .int .i64 k :: .int .i64 (k + 1) :: marks (k + 2) (2 * n) := by
  rw [show 2 * (n + 1) = 2 * n + 1 + 1 by omega]
  simp only [marks]
  rw [show k + 1 + 1 = k + 2 by omega]
/-- A list of numbers, as memory holds it. -/
def ints (l : List Int) : List Value := l.map (.int .i64)
theorem ints_length (l : List Int) : (ints l).length = l.length := by simp [ints]
theorem ints_at (l : List Int) (k : Nat) (h : k < l.length) : (ints l)[k]? = some (.int .i64 l[k]) := by simp [ints, h]
theorem take_step1 {l m : List Int} {k : Nat} (h1 : k < l.length) (h2 : k < m.length) (h : l.take k = m.take k) : l[k] = m[k] → l.take (k + 1) = m.take (k + 1) := fun a => by
  rw [List.take_succ_eq_append_getElem h1, List.take_succ_eq_append_getElem h2, h, a]
end Go.Proofs.YtlambflmabecfaaDoor
