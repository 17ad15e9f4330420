/- The model's counted gears. -/
import Derived.Test.YtgecihedocifjaaAlignS
namespace Go.Proofs.Ytgecihedocifjaa
open Go.ChangeShapes Go.WideShapes Go.ChangeAt Go.RowKit Go.Joins Go.Deep
set_option linter.unusedSimpArgs false
set_option linter.unusedVariables false
set_option maxRecDepth 100000
set_option maxHeartbeats 8000000
def gcn (C : Int) (l : List (Int × Int)) (k : Nat) (m s : Int) : Nat := ((List.range k).filter fun x => gearK l x && decide (nmb C l x = m) && decide ((l.getD x (0, 0)).2 = s)).length
theorem gcn_le (C : Int) (l : List (Int × Int)) (k : Nat) (m s : Int) : gcn C l k m s ≤ k := by
  unfold gcn
  have := List.length_filter_le (fun x => gearK l x && decide (nmb C l x = m) && decide ((l.getD x (0, 0)).2 = s)) (List.range k)
  rw [List.length_range] at this
  exact this
theorem gcn_step (C : Int) (l : List (Int × Int)) (k : Nat) (m s : Int) : gcn C l (k + 1) m s = gcn C l k m s + (if gearK l k && decide (nmb C l k = m) && decide ((l.getD k (0, 0)).2 = s) then 1 else 0) := by
  unfold gcn
  rw [List.range_succ, List.filter_append, List.length_append]
  congr 1
  by_cases h : (gearK l k && decide (nmb C l k = m) && decide ((l.getD k (0, 0)).2 = s)) = true
  · rw [if_pos h]; simp only [List.filter_cons, h, if_true]; rfl
  · rw [if_neg h]; simp only [List.filter_cons, h]; rfl
def gpr (C : Int) (l : List (Int × Int)) (k m : Nat) : List Int := [(gcn C l k m 0 : Int), (gcn C l k m 1 : Int)]
def hdr (P m : Nat) : Value := .slice (some ⟨P + 1 + m, 0, none⟩) 2 2
def hdrs (P n k : Nat) : List Value := (List.range k).map (hdr P) ++ List.replicate (n - k) (.slice none 0 0)
theorem hdrs_set {P n k : Nat} (h : k < n) : (hdrs P n k).set k (hdr P k) = hdrs P n (k + 1) := by
  unfold hdrs
  rw [List.range_succ, List.map_append, List.append_assoc, List.set_append_right k (hdr P k) (by simp)]
  congr 1
  rw [List.length_map, List.length_range, Nat.sub_self, show n - k = (n - (k + 1)) + 1 by omega, List.replicate_succ]
  rfl
theorem hdrs_all (P n : Nat) : hdrs P n n = (List.range n).map (hdr P) := by simp [hdrs]
theorem hdrs_at {P n m : Nat} (h : m < n) : ((List.range n).map (hdr P))[m]? = some (hdr P m) := by simp [h]
theorem hdrs_no {P n k : Nat} (h : k < n) : (hdrs P n k)[k]? = some (.slice none 0 0) := by
  unfold hdrs
  rw [List.getElem?_append_right (by simp), List.length_map, List.length_range, Nat.sub_self, List.getElem?_replicate, if_pos (by omega)]
def zlist (n : Nat) : List Value := List.replicate n (.slice none 0 0)
theorem made_lists (n : Nat) : madeCells (Value.slice none 0 0).cells (n * 1) = (zlist n).toArray := by
  apply Array.ext
  · simp [madeCells, zlist]
  · intro i h1 h2
    simp [madeCells, zlist, Value.cells, Nat.mod_one]
theorem run_make_lists (n : Nat) (hn : n ≤ 1048576) (w : World) :
    (Instr.makeSlice 56 (.int .i64 (n : Int)) (.int .i64 (n : Int))).run Try.prog w = .ok (.slice (some ⟨w.heap.size, 0, none⟩) n n) (w.alloc (.cells (zlist n).toArray 26)) := by
  obtain ⟨i0, hi, hz0, hz1, hz2⟩ := info_parts listInfo
  have h := run_make (P := Try.prog) w 56 26 i0 _ Try.underlying56 hi hz0 .i64 .i64 (n : Int) (n : Int) (by omega) (by omega) (by rw [hz2]; omega) (by omega)
  rw [hz1] at h
  simp only [Int.toNat_natCast] at h
  rw [h, made_lists]
/-- n pairs of numbers, the block of each behind the blocks of those before it. -/
def GRow (w : World) (P n : Nat) (f : Nat → List Int) : Prop := Whole w P 26 ((List.range n).map (hdr P)) ∧ ∀ m, m < n → Whole w (P + 1 + m) 3 (ints (f m))
theorem GRow.keep {w w' : World} {P n : Nat} {f : Nat → List Int} (h : GRow w P n f) (hb : Below w.heap.size w w') : GRow w' P n f :=
  ⟨h.1.below hb h.1.lt, fun m hm => (h.2 m hm).below hb (h.2 m hm).lt⟩
theorem GRow.below {w w' : World} {P n B : Nat} {f : Nat → List Int} (h : GRow w P n f) (hb : Below B w w') (hB : P + 1 + n ≤ B) : GRow w' P n f :=
  ⟨h.1.below hb (by omega), fun m hm => (h.2 m hm).below hb (by omega)⟩
theorem GRow.congr {w : World} {P n : Nat} {f g : Nat → List Int} (h : GRow w P n f) (e : ∀ m, m < n → f m = g m) : GRow w P n g :=
  ⟨h.1, fun m hm => by rw [← e m hm]; exact h.2 m hm⟩
theorem GRow.set {w : World} {P n m j : Nat} {f g : Nat → List Int} {x : Int} (h : GRow w P n f) (e : (ints (f m)).set j (.int .i64 x) = ints (g m)) (e' : ∀ m', m' < n → m' ≠ m → f m' = g m') : GRow (w.setCell ⟨P + 1 + m, j, none⟩ (.int .i64 x)) P n g := by
  refine ⟨h.1.set_far _ _ (by show P + 1 + m ≠ P; omega), fun m' hm' => ?_⟩
  by_cases q : m' = m
  · subst q
    rw [← e]
    exact (h.2 m' hm').set _ _
  · rw [← e' m' hm' q]
    exact (h.2 m' hm').set_far _ _ (by show P + 1 + m ≠ P + 1 + m'; omega)
theorem gpr_zero {C : Int} {l : List (Int × Int)} {m : Nat} : gpr C l 0 m = [0, 0] := rfl
theorem gpr_skip {C : Int} {l : List (Int × Int)} {k m : Nat} (h : gearK l k = false ∨ ¬ nmb C l k = (m : Int)) : gpr C l k m = gpr C l (k + 1) m := by
  have e : (gearK l k && decide (nmb C l k = (m : Int))) = false := by
    rcases h with h | h
    · rw [h, Bool.false_and]
    · rw [decide_eq_false h, Bool.and_false]
  unfold gpr
  rw [gcn_step, gcn_step, e]
  rfl
theorem gpr_0 {C : Int} {l : List (Int × Int)} {k m : Nat} (h : gearK l k = true) (hm : nmb C l k = (m : Int)) (hs : (l.getD k (0, 0)).2 = 0) : (ints (gpr C l k m)).set 0 (.int .i64 ((gcn C l k m 0 : Int) + 1)) = ints (gpr C l (k + 1) m) := by
  unfold gpr
  rw [gcn_step, gcn_step, h, decide_eq_true hm, hs]
  rfl
theorem gpr_1 {C : Int} {l : List (Int × Int)} {k m : Nat} (h : gearK l k = true) (hm : nmb C l k = (m : Int)) (hs : (l.getD k (0, 0)).2 = 1) : (ints (gpr C l k m)).set 1 (.int .i64 ((gcn C l k m 1 : Int) + 1)) = ints (gpr C l (k + 1) m) := by
  unfold gpr
  rw [gcn_step, gcn_step, h, decide_eq_true hm, hs]
  rfl
theorem good_state {r c : Int} {l : List (Int × Int)} (hg : goodB r c l = true) : ∀ y, y < l.length → (l.getD y (0, 0)).2 = 0 ∨ (l.getD y (0, 0)).2 = 1 := by
  intro y hy
  have h := (goodB_iff.1 hg).2.2 _ (List.getElem_mem hy)
  rw [List.getD_eq_getElem?_getD, List.getElem?_eq_getElem hy]
  show l[y].2 = 0 ∨ l[y].2 = 1
  unfold good at h
  simp at h
  omega
theorem gpr_len (C : Int) (l : List (Int × Int)) (k m : Nat) : (ints (gpr C l k m)).length = 2 := rfl
end Go.Proofs.Ytgecihedocifjaa
