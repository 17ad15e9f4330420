/-
  LISTS OF CELLS AND OF NUMBERS IN MEMORY: how a slice reads, a block that is known whole, and the contracts of the laws' own helpers over them.
-/
import Derived.Test.YtlambflmabecfaaDoorCell
namespace Go.Proofs.YtlambflmabecfaaDoor
open Go.ChangeShapes Go.WideShapes Go.ChangeAt Go.RowKit Go.Joins Go.Deep
set_option linter.unusedSimpArgs false
set_option linter.unusedVariables false
set_option maxRecDepth 100000
set_option maxHeartbeats 400000
/-- The cells of a list, as memory holds them: two words each. -/
def flat (l : List (Int × Int)) : List Value := l.flatMap fun c => [.int .i64 c.1, .int .i64 c.2]
/-- The slice that begins at A reads as these words; it lies below block B. -/
def Rd (w : World) (B : Nat) (A : Option Addr) (xs : List Value) : Prop :=
  0 < xs.length → ∃ b o, A = some ⟨b, o, none⟩ ∧ b < B ∧ ∀ j u, xs[j]? = some u → w.cell? ⟨b, o + j, none⟩ = some u
theorem Rd.below {w w' : World} {B : Nat} {A : Option Addr} {xs : List Value} (h : Rd w B A xs) (hb : Below B w w') : Rd w' B A xs := fun hx => by
  obtain ⟨b, o, e, hlt, hc⟩ := h hx
  exact ⟨b, o, e, hlt, fun j u hu => (hb.cell (p := ⟨b, o + j, none⟩) hlt).trans (hc j u hu)⟩
theorem Rd.mono {w : World} {B B' : Nat} {A : Option Addr} {xs : List Value} (h : Rd w B A xs) (hB : B ≤ B') : Rd w B' A xs := fun hx => by
  obtain ⟨b, o, e, hlt, hc⟩ := h hx
  exact ⟨b, o, e, Nat.lt_of_lt_of_le hlt hB, hc⟩
/-- Block g holds just these words, of element type t, none of them frozen. -/
def Whole (w : World) (g : Nat) (t : TypeId) (xs : List Value) : Prop := w.heap[g]? = some (.cells xs.toArray t (0, 0))
theorem Whole.lt {w : World} {g : Nat} {t : TypeId} {xs : List Value} (h : Whole w g t xs) : g < w.heap.size := by
  rcases Nat.lt_or_ge g w.heap.size with hlt | hge
  · exact hlt
  · unfold Whole at h
    rw [Array.getElem?_eq_none hge] at h
    cases h
theorem Whole.cell {w : World} {g : Nat} {t : TypeId} {xs : List Value} (h : Whole w g t xs) (j : Nat) : w.cell? ⟨g, j, none⟩ = xs[j]? := by
  have := cell_of_row w g j xs.toArray t (0, 0) h
  simpa using this
theorem Whole.frozen {w : World} {g : Nat} {t : TypeId} {xs : List Value} (h : Whole w g t xs) (j : Nat) : w.frozen? ⟨g, j, none⟩ = false := by
  unfold Whole at h
  simp [World.frozen?, h]
theorem Whole.below {w w' : World} {B g : Nat} {t : TypeId} {xs : List Value} (h : Whole w g t xs) (hb : Below B w w') (hg : g < B) : Whole w' g t xs := (hb.block g hg).trans h
theorem Whole.alloc {w : World} {g : Nat} {t : TypeId} {xs : List Value} (h : Whole w g t xs) (o : Obj) : Whole (w.alloc o) g t xs := (Below.heap_alloc w o g h.lt).trans h
theorem Whole.set {w : World} {g : Nat} {t : TypeId} {xs : List Value} (h : Whole w g t xs) (j : Nat) (u : Value) : Whole (w.setCell ⟨g, j, none⟩ u) g t (xs.set j u) := by
  unfold Whole at h ⊢
  simp [World.setCell, Array.getElem?_modify, h]
theorem Whole.rd {w : World} {g : Nat} {t : TypeId} {xs : List Value} (h : Whole w g t xs) {B : Nat} (hB : g < B) : Rd w B (some ⟨g, 0, none⟩) xs := fun _ =>
  ⟨g, 0, rfl, hB, fun j u hu => by rw [Nat.zero_add, h.cell]; exact hu⟩
theorem flat_length (l : List (Int × Int)) : (flat l).length = 2 * l.length := by
  induction l with
  | nil => rfl
  | cons c l ih => simp [flat] at ih ⊢; omega
theorem flat_at (l : List (Int × Int)) (k : Nat) (h : k < l.length) : (flat l)[k * 2]? = some (.int .i64 l[k].1) ∧ (flat l)[k * 2 + 1]? = some (.int .i64 l[k].2) := by
  induction l generalizing k with
  | nil => simp at h
  | cons c l ih =>
    cases k with
    | zero => exact ⟨rfl, rfl⟩
    | succ k =>
      have := ih k (by simpa using h)
      have e1 : (flat (c :: l))[(k + 1) * 2]? = (flat l)[k * 2]? := by rw [show (k + 1) * 2 = k * 2 + 1 + 1 by omega]; rfl
      have e2 : (flat (c :: l))[(k + 1) * 2 + 1]? = (flat l)[k * 2 + 1]? := by rw [show (k + 1) * 2 = k * 2 + 1 + 1 by omega]; rfl
      rw [e1, e2]
      exact this
/-- n zero words. -/
def zrow (n : Nat) : List Value := List.replicate n (.int .i64 0)
theorem made_cells (n : Nat) : madeCells (Value.agg #[.int .i64 0, .int .i64 0]).cells (n * 2) = (zrow (2 * n)).toArray := by
  apply Array.ext
  · simp [madeCells, zrow]; omega
  · intro i h1 h2
    have h3 : i % 2 = 0 ∨ i % 2 = 1 := by omega
    rcases h3 with h3 | h3 <;> simp [madeCells, zrow, Value.cells, h3]
/-- What the copy holds after k rounds. -/
def part (l : List (Int × Int)) (k : Nat) : List Value := flat (l.take k) ++ zrow (2 * (l.length - k))
theorem part_zero (l : List (Int × Int)) : part l 0 = zrow (2 * l.length) := by simp [part, flat]
theorem part_all (l : List (Int × Int)) : part l l.length = flat l := by simp [part, zrow]
theorem part_at (l : List (Int × Int)) (k : Nat) (h : k < l.length) : (part l k)[k * 2]? = some (.int .i64 0) ∧ (part l k)[k * 2 + 1]? = some (.int .i64 0) := by
  have e : (flat (l.take k)).length = k * 2 := by rw [flat_length, List.length_take]; omega
  constructor
  · rw [part, List.getElem?_append_right (by omega), e]
    rw [zrow, List.getElem?_replicate, if_pos (by omega)]
  · rw [part, List.getElem?_append_right (by omega), e]
    rw [zrow, List.getElem?_replicate, if_pos (by omega)]
theorem part_step (l : List (Int × Int)) (k : Nat) (h : k < l.length) : ((part l k).set (k * 2) (.int .i64 l[k].1)).set (k * 2 + 1) (.int .i64 l[k].2) = part l (k + 1) := by
  have e : (flat (l.take k)).length = k * 2 := by rw [flat_length, List.length_take]; omega
  have ez : zrow (2 * (l.length - k)) = .int .i64 0 :: .int .i64 0 :: zrow (2 * (l.length - (k + 1))) := by
    rw [show 2 * (l.length - k) = 2 * (l.length - (k + 1)) + 1 + 1 by omega]
    rfl
  have ef : flat (l.take (k + 1)) = flat (l.take k) ++ [.int .i64 l[k].1, .int .i64 l[k].2] := by
    rw [List.take_succ_eq_append_getElem h]
    simp only [flat, List.flatMap_append, List.flatMap_cons, List.flatMap_nil, List.append_nil]
  rw [part, part, ez, ef, List.set_append_right _ _ (by omega), List.set_append_right _ _ (by omega), e]
  rw [Nat.sub_self, show k * 2 + 1 - k * 2 = 1 by omega]
  simp
end Go.Proofs.YtlambflmabecfaaDoor
