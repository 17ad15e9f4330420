/-
  LISTS OF CELLS AND OF NUMBERS IN MEMORY: how a slice reads, a block that is known whole, and the contracts of the laws' own helpers over them.
-/
import Derived.Test.YtlambflmabecfaaCell
namespace Go.Proofs.Ytlambflmabecfaa
open Go.ChangeShapes Go.WideShapes Go.ChangeAt Go.RowKit Go.Joins Go.Deep
set_option linter.unusedSimpArgs false
set_option linter.unusedVariables false
set_option maxRecDepth 100000
set_option maxHeartbeats 400000
/-- The cells of a list, as memory holds them: two words each. -/
def flat (l : List (Int × Int)) : List Value := l.flatMap fun c => [.int .i64 c.1, .int .i64 c.2]
/-- The slice that begins at A reads as these words; it lies below block B. -/
def Rd (w : World) (B : Nat) (A : Option Addr) (xs : List Value) : Prop :=
  0 < xs.length → ∃ b o, A = some ⟨b, o, none⟩ ∧ b < B ∧ ∀ j u, xs[j]? = some u → w.cell? ⟨b, o + j, none⟩ = some u
theorem Rd.below {w w' : World} {B : Nat} {A : Option Addr} {xs : List Value} (h : Rd w B A xs) (hb : Below B w w') : Rd w' B A xs := fun hx => by
  obtain ⟨b, o, e, hlt, hc⟩ := h hx
  exact ⟨b, o, e, hlt, fun j u hu => (hb.cell (p := ⟨b, o + j, none⟩) hlt).trans (hc j u hu)⟩
theorem Rd.mono {w : World} {B B' : Nat} {A : Option Addr} {xs : List Value} (h : Rd w B A xs) (hB : B ≤ B') : Rd w B' A xs := fun hx => by
  obtain ⟨b, o, e, hlt, hc⟩ := h hx
  exact ⟨b, o, e, Nat.lt_of_lt_of_le hlt hB, hc⟩
/-- Block g holds just these words, of element type t, none of them frozen. -/
def Whole (w : World) (g : Nat) (t : TypeId) (xs : List Value) : Prop := w.heap[g]? = some (.cells xs.toArray t (0, 0))
theorem Whole.lt {w : World} {g : Nat} {t : TypeId} {xs : List Value} (h : Whole w g t xs) : g < w.heap.size := by
  rcases Nat.lt_or_ge g w.heap.size with hlt | hge
  · exact hlt
  · unfold Whole at h
    rw [Array.getElem?_eq_none hge] at h
    cases h
theorem Whole.cell {w : World} {g : Nat} {t : TypeId} {xs : List Value} (h : Whole w g t xs) (j : Nat) : w.cell? ⟨g, j, none⟩ = xs[j]? := by
  have := cell_of_row w g j xs.toArray t (0, 0) h
  simpa using this
theorem Whole.frozen {w : World} {g : Nat} {t : TypeId} {xs : List Value} (h : Whole w g t xs) (j : Nat) : w.frozen? ⟨g, j, none⟩ = false := by
  unfold Whole at h
  simp [World.frozen?, h]
theorem Whole.below {w w' : World} {B g : Nat} {t : TypeId} {xs : List Value} (h : Whole w g t xs) (hb : Below B w w') (hg : g < B) : Whole w' g t xs := (hb.block g hg).trans h
theorem Whole.alloc {w : World} {g : Nat} {t : TypeId} {xs : List Value} (h : Whole w g t xs) (o : Obj) : Whole (w.alloc o) g t xs := (Below.heap_alloc w o g h.lt).trans h
theorem Whole.set {w : World} {g : Nat} {t : TypeId} {xs : List Value} (h : Whole w g t xs) (j : Nat) (u : Value) : Whole (w.setCell ⟨g, j, none⟩ u) g t (xs.set j u) := by
  unfold Whole at h ⊢
  simp [World.setCell, Array.getElem?_modify, h]
theorem Whole.rd {w : World} {g : Nat} {t : TypeId} {xs : List Value} (h : Whole w g t xs) {B : Nat} (hB : g < B) : Rd w B (some ⟨g, 0, none⟩) xs := fun _ =>
  ⟨g, 0, rfl, hB, fun j u hu => by rw [Nat.zero_add, h.cell]; exact hu⟩
theorem flat_length (l : List (Int × Int)) : (flat l).length = 2 * l.length := by
  induction l with
  | nil => rfl
  | cons c l ih => simp [flat] at ih ⊢; omega
theorem flat_at (l : List (Int × Int)) (k : Nat) (h : k < l.length) : (flat l)[k * 2]? = some (.int .i64 l[k].1) ∧ (flat l)[k * 2 + 1]? = some (.int .i64 l[k].2) := by
  induction l generalizing k with
  | nil => simp at h
  | cons c l ih =>
    cases k with
    | zero => exact ⟨rfl, rfl⟩
    | succ k =>
      have := ih k (by simpa using h)
      have e1 : (flat (c :: l))[(k + 1) * 2]? = (flat l)[k * 2]? := by rw [show (k + 1) * 2 = k * 2 + 1 + 1 by omega]; rfl
      have e2 : (flat (c :: l))[(k + 1) * 2 + 1]? = (flat l)[k * 2 + 1]? := by rw [show (k + 1) * 2 = k * 2 + 1 + 1 by omega]; rfl
      rw [e1, e2]
      exact this
theorem cellInfo : (Try.prog.info? 104).map (fun i => (i.zero, i.size, i.bytes)) = some (some (.agg #[.int .i64 0, .int .i64 0]), 2, 16) := by kernel_rfl
/-- n zero words. -/
def zrow (n : Nat) : List Value := List.replicate n (.int .i64 0)
theorem made_cells (n : Nat) : madeCells (Value.agg #[.int .i64 0, .int .i64 0]).cells (n * 2) = (zrow (2 * n)).toArray := by
  apply Array.ext
  · simp [madeCells, zrow]; omega
  · intro i h1 h2
    have h3 : i % 2 = 0 ∨ i % 2 = 1 := by omega
    rcases h3 with h3 | h3 <;> simp [madeCells, zrow, Value.cells, h3]
theorem run_make_cells (n : Nat) (hn : n ≤ 1048576) (w : World) :
    (Instr.makeSlice 37 (.int .i64 (n : Int)) (.int .i64 (n : Int))).run Try.prog w = .ok (.slice (some ⟨w.heap.size, 0, none⟩) n n) (w.alloc (.cells (zrow (2 * n)).toArray 104)) := by
  obtain ⟨i0, hi, hz0, hz1, hz2⟩ := info_parts cellInfo
  have h := run_make (P := Try.prog) w 37 104 i0 _ Try.underlying37 hi hz0 .i64 .i64 (n : Int) (n : Int) (by omega) (by omega) (by rw [hz2]; omega) (by omega)
  rw [hz1] at h
  simp only [Int.toNat_natCast] at h
  rw [h, made_cells]
/-- What the copy holds after k rounds. -/
def part (l : List (Int × Int)) (k : Nat) : List Value := flat (l.take k) ++ zrow (2 * (l.length - k))
theorem part_zero (l : List (Int × Int)) : part l 0 = zrow (2 * l.length) := by simp [part, flat]
theorem part_all (l : List (Int × Int)) : part l l.length = flat l := by simp [part, zrow]
theorem part_at (l : List (Int × Int)) (k : Nat) (h : k < l.length) : (part l k)[k * 2]? = some (.int .i64 0) ∧ (part l k)[k * 2 + 1]? = some (.int .i64 0) := by
  have e : (flat (l.take k)).length = k * 2 := by rw [flat_length, List.length_take]; omega
  constructor
  · rw [part, List.getElem?_append_right (by omega), e]
    rw [zrow, List.getElem?_replicate, if_pos (by omega)]
  · rw [part, List.getElem?_append_right (by omega), e]
    rw [zrow, List.getElem?_replicate, if_pos (by omega)]
theorem part_step (l : List (Int × Int)) (k : Nat) (h : k < l.length) : ((part l k).set (k * 2) (.int .i64 l[k].1)).set (k * 2 + 1) (.int .i64 l[k].2) = part l (k + 1) := by
  have e : (flat (l.take k)).length = k * 2 := by rw [flat_length, List.length_take]; omega
  have ez : zrow (2 * (l.length - k)) = .int .i64 0 :: .int .i64 0 :: zrow (2 * (l.length - (k + 1))) := by
    rw [show 2 * (l.length - k) = 2 * (l.length - (k + 1)) + 1 + 1 by omega]
    rfl
  have ef : flat (l.take (k + 1)) = flat (l.take k) ++ [.int .i64 l[k].1, .int .i64 l[k].2] := by
    rw [List.take_succ_eq_append_getElem h]
    simp only [flat, List.flatMap_append, List.flatMap_cons, List.flatMap_nil, List.append_nil]
  rw [part, part, ez, ef, List.set_append_right _ _ (by omega), List.set_append_right _ _ (by omega), e]
  rw [Nat.sub_self, show k * 2 + 1 - k * 2 = 1 by omega]
  simp
theorem toCellS_any (A : Option Addr) (cap : Nat) (l : List (Int × Int)) (w : World) (hn : l.length ≤ 1048576) (hr : Rd w w.heap.size A (flat l)) :
    Calls Try.prog 56 #[.slice A l.length cap] w fun e w' => e = .returned (.slice (some ⟨w.heap.size, 0, none⟩) l.length l.length) ∧ Whole w' w.heap.size 104 (flat l) ∧ Below w.heap.size w w' := by
  have hmk := run_make_cells l.length hn
  go_enter Try.func56, Try.ntmps56
  go_wp2_with (fail)
  go_loopw [4] (fun i wr => ∃ k : Nat, k ≤ l.length ∧ i = .int .i64 k ∧ Whole wr w.heap.size 104 (part l k) ∧ Below w.heap.size w wr) (fun i _ => l.length - (intOf i).toNat)
  case atStart => exact ⟨0, Nat.zero_le _, rfl, by rw [part_zero]; exact heap_alloc_new w _, by (repeat' (first | (with_reducible exact Below.refl _ _) | (with_reducible assumption) | (with_reducible refine Below.alloc ?_ ?_ _) | (with_reducible refine Below.setCell ?_ ?_ _) | (with_reducible refine Below.drew ?_) | (with_reducible refine below_drewN ?_ _) | (with_reducible refine Below.trans ?_ (Below.mono (by assumption) ?_)) | (with_reducible exact Nat.le_refl _) | (simp; done) | omega | (simp at *; omega)))⟩
  case round =>
    obtain ⟨k, hk, rfl, hw, hb⟩ := hrel
    by_cases hlt : k < l.length
    · obtain ⟨b, o, rfl, hbl, hc⟩ := hr (by rw [flat_length]; omega)
      have hc0 : wr.cell? ⟨b, o + k * 2, none⟩ = some (.int .i64 l[k].1) := (hb.cell (p := ⟨b, _, none⟩) hbl).trans (hc _ _ (flat_at l k hlt).1)
      have hc1 : wr.cell? ⟨b, o + k * 2 + 1, none⟩ = some (.int .i64 l[k].2) := (hb.cell (p := ⟨b, _, none⟩) hbl).trans (hc _ _ (flat_at l k hlt).2)
      have hs : w.heap.size < wr.heap.size := hw.lt
      have HP := Lib.hid (part_step l k hlt)
      obtain ⟨pa, pb⟩ := part_at l k hlt
      generalize l[k].1 = x at *
      generalize l[k].2 = y at *
      clear hr hc
      go_wp2_with fail
      refine (toCell_any _ _ _).mono ?_; rintro e w1 ⟨rfl, b1⟩
      have hw1 := hw.below b1 hs
      have q0 : w1.cell? ⟨w.heap.size, k * 2, none⟩ = some (.int .i64 0) := by rw [hw1.cell]; exact pa
      have q1 : w1.cell? ⟨w.heap.size, k * 2 + 1, none⟩ = some (.int .i64 0) := by rw [hw1.cell]; exact pb
      have f0 : w1.frozen? ⟨w.heap.size, k * 2, none⟩ = false := hw1.frozen _
      have f1 : w1.frozen? ⟨w.heap.size, k * 2 + 1, none⟩ = false := hw1.frozen _
      clear pa pb hc0 hc1
      go_wp2
      go_roundw
      case rel => exact ⟨k + 1, by omega, by go_num, by rw [← HP.out]; exact (hw1.set _ _).set _ _, by (repeat' (first | (with_reducible exact Below.refl _ _) | (with_reducible assumption) | (with_reducible refine Below.alloc ?_ ?_ _) | (with_reducible refine Below.setCell ?_ ?_ _) | (with_reducible refine Below.drew ?_) | (with_reducible refine below_drewN ?_ _) | (with_reducible refine Below.trans ?_ (Below.mono (by assumption) ?_)) | (with_reducible exact Nat.le_refl _) | (simp; done) | omega | (simp at *; omega)))⟩
      case measure => simp [intOf]; omega
    · obtain rfl : k = l.length := by omega
      rw [part_all] at hw
      go_wp2
      go_returns
      exact ⟨rfl, hw, hb⟩
end Go.Proofs.Ytlambflmabecfaa
