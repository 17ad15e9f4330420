/- Logs: lists of entries in memory, and the laws' own helpers over them. -/
import Derived.StillTailTactics
import Derived.Deep.Slices
import Derived.ChangeSame
import Derived.Test.YtlambflmabecfaaDoorFallQ
namespace Go.Proofs.YtlambflmabecfaaDoor
open Go.ChangeShapes Go.WideShapes Go.ChangeAt Go.RowKit Go.Joins Go.Deep
set_option linter.unusedSimpArgs false
set_option linter.unusedVariables false
set_option maxRecDepth 100000
set_option maxHeartbeats 2000000
/-- The entries of a list, as memory holds them: four words each. -/
def flatL (l : List (Int × Int × Int × Int)) : List Value := l.flatMap fun e => [.int .i64 e.1, .int .i64 e.2.1, .int .i64 e.2.2.1, .int .i64 e.2.2.2]
theorem flatL_len (l : List (Int × Int × Int × Int)) : (flatL l).length = 4 * l.length := by
  induction l with
  | nil => rfl
  | cons c l ih =>
    have h : (flatL (c :: l)).length = (flatL l).length + 1 + 1 + 1 + 1 := rfl
    rw [h, ih, List.length_cons]
    omega
theorem flatL_app (l m : List (Int × Int × Int × Int)) : flatL (l ++ m) = flatL l ++ flatL m := by unfold flatL; rw [List.flatMap_append]
theorem flatL_at (l : List (Int × Int × Int × Int)) (k : Nat) (h : k < l.length) : (flatL l)[k * 4]? = some (.int .i64 l[k].1) ∧ (flatL l)[k * 4 + 1]? = some (.int .i64 l[k].2.1) ∧ (flatL l)[k * 4 + 2]? = some (.int .i64 l[k].2.2.1) ∧ (flatL l)[k * 4 + 3]? = some (.int .i64 l[k].2.2.2) := by
  induction l generalizing k with
  | nil => simp at h
  | cons c l ih =>
    cases k with
    | zero => exact ⟨rfl, rfl, rfl, rfl⟩
    | succ k =>
      have := ih k (by simpa using h)
      have e1 : (flatL (c :: l))[(k + 1) * 4]? = (flatL l)[k * 4]? := by rw [show (k + 1) * 4 = k * 4 + 1 + 1 + 1 + 1 by omega]; rfl
      have e2 : (flatL (c :: l))[(k + 1) * 4 + 1]? = (flatL l)[k * 4 + 1]? := by rw [show (k + 1) * 4 + 1 = k * 4 + 1 + 1 + 1 + 1 + 1 by omega]; rfl
      have e3 : (flatL (c :: l))[(k + 1) * 4 + 2]? = (flatL l)[k * 4 + 2]? := by rw [show (k + 1) * 4 + 2 = k * 4 + 2 + 1 + 1 + 1 + 1 by omega]; rfl
      have e4 : (flatL (c :: l))[(k + 1) * 4 + 3]? = (flatL l)[k * 4 + 3]? := by rw [show (k + 1) * 4 + 3 = k * 4 + 3 + 1 + 1 + 1 + 1 by omega]; rfl
      rw [e1, e2, e3, e4]
      exact this
theorem flatL_pos {l : List (Int × Int × Int × Int)} (h : 0 < (flatL l).length) : 0 < l.length := by rw [flatL_len] at h; omega
theorem pos_flatL {l : List (Int × Int × Int × Int)} (h : 0 < l.length) : 0 < (flatL l).length := by rw [flatL_len]; omega
theorem flatL_get (l : List (Int × Int × Int × Int)) (j : Nat) (u : Value) (h : (flatL l)[j]? = some u) : ∃ k, ∃ hk : k < l.length, (j = k * 4 ∧ u = .int .i64 l[k].1) ∨ (j = k * 4 + 1 ∧ u = .int .i64 l[k].2.1) ∨ (j = k * 4 + 2 ∧ u = .int .i64 l[k].2.2.1) ∨ (j = k * 4 + 3 ∧ u = .int .i64 l[k].2.2.2) := by
  have hj : j < 4 * l.length := by rw [← flatL_len]; exact (List.getElem?_eq_some_iff.1 h).1
  have hk : j / 4 < l.length := by omega
  obtain ⟨h0, h1, h2, h3⟩ := flatL_at l (j / 4) hk
  refine ⟨j / 4, hk, ?_⟩
  rcases (show j = j / 4 * 4 ∨ j = j / 4 * 4 + 1 ∨ j = j / 4 * 4 + 2 ∨ j = j / 4 * 4 + 3 by omega) with e | e | e | e
  · refine .inl ⟨e, ?_⟩
    rw [← e, h] at h0
    exact Option.some.inj h0
  · refine .inr (.inl ⟨e, ?_⟩)
    rw [← e, h] at h1
    exact Option.some.inj h1
  · refine .inr (.inr (.inl ⟨e, ?_⟩))
    rw [← e, h] at h2
    exact Option.some.inj h2
  · refine .inr (.inr (.inr ⟨e, ?_⟩))
    rw [← e, h] at h3
    exact Option.some.inj h3
theorem takeL_step {l m : List (Int × Int × Int × Int)} {k : Nat} (h1 : k < l.length) (h2 : k < m.length) (h : l.take k = m.take k) : l[k].1 = m[k].1 → l[k].2.1 = m[k].2.1 → l[k].2.2.1 = m[k].2.2.1 → l[k].2.2.2 = m[k].2.2.2 → l.take (k + 1) = m.take (k + 1) := fun a b c d => by
  rw [List.take_succ_eq_append_getElem h1, List.take_succ_eq_append_getElem h2, h, Prod.ext a (Prod.ext b (Prod.ext c d))]
theorem listL_of (n : Nat) (f : Nat → Int × Int × Int × Int) : ∃ l : List (Int × Int × Int × Int), l.length = n ∧ ∀ i (h : i < l.length), l[i] = f i :=
  ⟨(List.range n).map f, by simp, fun i h => by simp⟩
/-- What the copy holds after k rounds. -/
def partL (l : List (Int × Int × Int × Int)) (k : Nat) : List Value := flatL (l.take k) ++ zrow (4 * (l.length - k))
theorem partL_zero (l : List (Int × Int × Int × Int)) : partL l 0 = zrow (4 * l.length) := by simp [partL, flatL]
theorem partL_all (l : List (Int × Int × Int × Int)) : partL l l.length = flatL l := by simp [partL, zrow]
theorem partL_at (l : List (Int × Int × Int × Int)) (k j : Nat) (h : k < l.length) (hj : j < 4) : (partL l k)[k * 4 + j]? = some (.int .i64 0) := by
  have e : (flatL (l.take k)).length = k * 4 := by rw [flatL_len, List.length_take]; omega
  rw [partL, List.getElem?_append_right (by omega), e]
  rw [zrow, List.getElem?_replicate, if_pos (by omega)]
theorem partL_step (l : List (Int × Int × Int × Int)) (k : Nat) (h : k < l.length) : ((((partL l k).set (k * 4) (.int .i64 l[k].1)).set (k * 4 + 1) (.int .i64 l[k].2.1)).set (k * 4 + 2) (.int .i64 l[k].2.2.1)).set (k * 4 + 3) (.int .i64 l[k].2.2.2) = partL l (k + 1) := by
  have e : (flatL (l.take k)).length = k * 4 := by rw [flatL_len, List.length_take]; omega
  have ez : zrow (4 * (l.length - k)) = .int .i64 0 :: .int .i64 0 :: .int .i64 0 :: .int .i64 0 :: zrow (4 * (l.length - (k + 1))) := by
    rw [show 4 * (l.length - k) = 4 * (l.length - (k + 1)) + 1 + 1 + 1 + 1 by omega]
    rfl
  have ef : flatL (l.take (k + 1)) = flatL (l.take k) ++ [.int .i64 l[k].1, .int .i64 l[k].2.1, .int .i64 l[k].2.2.1, .int .i64 l[k].2.2.2] := by
    rw [List.take_succ_eq_append_getElem h]
    simp only [flatL, List.flatMap_append, List.flatMap_cons, List.flatMap_nil, List.append_nil]
  rw [partL, partL, ez, ef, List.set_append_right _ _ (by omega), List.set_append_right _ _ (by omega), List.set_append_right _ _ (by omega), List.set_append_right _ _ (by omega), e]
  rw [Nat.sub_self, show k * 4 + 1 - k * 4 = 1 by omega, show k * 4 + 2 - k * 4 = 2 by omega, show k * 4 + 3 - k * 4 = 3 by omega]
  simp
theorem logInfo : (Tryd.prog.info? 39).map (fun i => (i.zero, i.size, i.bytes)) = some (some (.agg #[.int .i64 0, .int .i64 0, .int .i64 0, .int .i64 0]), 4, 32) := by kernel_rfl
theorem made_logs (n : Nat) : madeCells (Value.agg #[.int .i64 0, .int .i64 0, .int .i64 0, .int .i64 0]).cells (n * 4) = (zrow (4 * n)).toArray := by
  apply Array.ext
  · simp [madeCells, zrow]; omega
  · intro i h1 h2
    have h3 : i % 4 = 0 ∨ i % 4 = 1 ∨ i % 4 = 2 ∨ i % 4 = 3 := by omega
    rcases h3 with h3 | h3 | h3 | h3 <;> simp [madeCells, zrow, Value.cells, h3]
theorem run_make_logs (n : Nat) (hn : n ≤ 1048576) (w : World) :
    (Instr.makeSlice 26 (.int .i64 (n : Int)) (.int .i64 (n : Int))).run Tryd.prog w = .ok (.slice (some ⟨w.heap.size, 0, none⟩) n n) (w.alloc (.cells (zrow (4 * n)).toArray 39)) := by
  obtain ⟨i0, hi, hz0, hz1, hz2⟩ := info_parts logInfo
  have h := run_make (P := Tryd.prog) w 26 39 i0 _ Tryd.underlying26 hi hz0 .i64 .i64 (n : Int) (n : Int) (by omega) (by omega) (by rw [hz2]; omega) (by omega)
  rw [hz1] at h
  simp only [Int.toNat_natCast] at h
  rw [h, made_logs]
theorem szLogS_any (A : Option Addr) (n cap : Nat) (left : Int) (w : World) (hn : n ≤ maxLen) (h0 : 0 ≤ left) (h1 : left ≤ 1048576) :
    Calls Tryd.prog 5 #[.slice A n cap, .int .i64 left] w fun e w' => e = .returned (.int .i64 (if left < n then -1 else left - n)) ∧ w = w' := by
  unfold maxLen at hn
  go_enter Tryd.func5, Tryd.ntmps5
  go_wp2
  all_goals go_returns
  all_goals refine ⟨ret_int (by (repeat' split) <;> omega), rfl⟩
theorem toLog_any (a b c d : Int) (w : World) :
    Calls Tryd.prog 16 #[.agg #[.int .i64 a, .int .i64 b, .int .i64 c, .int .i64 d]] w fun e w' => e = .returned (.agg #[.int .i64 a, .int .i64 b, .int .i64 c, .int .i64 d]) ∧ Below w.heap.size w w' := by
  go_enter Tryd.func16, Tryd.ntmps16
  go_wp2
  all_goals go_returns
  all_goals exact ⟨rfl, by go_grown⟩
theorem toLogS_any (A : Option Addr) (cap : Nat) (l : List (Int × Int × Int × Int)) (w : World) (hn : l.length ≤ 1048576) (hr : Rd w w.heap.size A (flatL l)) :
    Calls Tryd.prog 7 #[.slice A l.length cap] w fun e w' => ∃ g, e = .returned (.slice (some ⟨g, 0, none⟩) l.length l.length) ∧ Whole w' g 39 (flatL l) ∧ w.heap.size ≤ g ∧ Below w.heap.size w w' := by
  have hmk := run_make_logs l.length hn
  go_enter Tryd.func7, Tryd.ntmps7
  go_wp2_with (fail)
  go_loopw [4] (fun i wr => ∃ k : Nat, k ≤ l.length ∧ i = .int .i64 k ∧ Whole wr w.heap.size 39 (partL l k) ∧ Below w.heap.size w wr) (fun i _ => l.length - (intOf i).toNat)
  case atStart => exact ⟨0, Nat.zero_le _, rfl, by rw [partL_zero]; exact heap_alloc_new w _, by (repeat' (first | (with_reducible exact Below.refl _ _) | (with_reducible assumption) | (with_reducible refine Below.alloc ?_ ?_ _) | (with_reducible refine Below.setCell ?_ ?_ _) | (with_reducible refine Below.drew ?_) | (with_reducible refine below_drewN ?_ _) | (with_reducible refine Below.trans ?_ (Below.mono (by assumption) ?_)) | (with_reducible exact Nat.le_refl _) | (simp; done) | omega | (simp at *; omega)))⟩
  case round =>
    obtain ⟨k, hk, rfl, hw, hb⟩ := hrel
    by_cases hlt : k < l.length
    · obtain ⟨b, o, rfl, hbl, hc⟩ := hr (by rw [flatL_len]; omega)
      obtain ⟨a0, a1, a2, a3⟩ := flatL_at l k hlt
      have hc0 : wr.cell? ⟨b, o + k * 4, none⟩ = some (.int .i64 l[k].1) := (hb.cell (p := ⟨b, _, none⟩) hbl).trans (hc _ _ a0)
      have hc1 : wr.cell? ⟨b, o + k * 4 + 1, none⟩ = some (.int .i64 l[k].2.1) := (hb.cell (p := ⟨b, _, none⟩) hbl).trans (hc _ _ a1)
      have hc2 : wr.cell? ⟨b, o + k * 4 + 2, none⟩ = some (.int .i64 l[k].2.2.1) := (hb.cell (p := ⟨b, _, none⟩) hbl).trans (hc _ _ a2)
      have hc3 : wr.cell? ⟨b, o + k * 4 + 3, none⟩ = some (.int .i64 l[k].2.2.2) := (hb.cell (p := ⟨b, _, none⟩) hbl).trans (hc _ _ a3)
      have hs : w.heap.size < wr.heap.size := hw.lt
      have HP := Lib.hid (partL_step l k hlt)
      have p0 := partL_at l k 0 hlt (by omega)
      have p1 := partL_at l k 1 hlt (by omega)
      have p2 := partL_at l k 2 hlt (by omega)
      have p3 := partL_at l k 3 hlt (by omega)
      clear hr hc a0 a1 a2 a3
      generalize l[k].1 = x at *
      generalize l[k].2.1 = y at *
      generalize l[k].2.2.1 = z at *
      generalize l[k].2.2.2 = u at *
      go_wp2_with fail
      refine (toLog_any _ _ _ _ _).mono ?_; rintro e w1 ⟨rfl, b1⟩
      have hw1 := hw.below b1 hs
      have q0 : w1.cell? ⟨w.heap.size, k * 4, none⟩ = some (.int .i64 0) := by rw [hw1.cell]; exact p0
      have q1 : w1.cell? ⟨w.heap.size, k * 4 + 1, none⟩ = some (.int .i64 0) := by rw [hw1.cell]; exact p1
      have q2 : w1.cell? ⟨w.heap.size, k * 4 + 2, none⟩ = some (.int .i64 0) := by rw [hw1.cell]; exact p2
      have q3 : w1.cell? ⟨w.heap.size, k * 4 + 3, none⟩ = some (.int .i64 0) := by rw [hw1.cell]; exact p3
      have f0 : w1.frozen? ⟨w.heap.size, k * 4, none⟩ = false := hw1.frozen _
      have f1 : w1.frozen? ⟨w.heap.size, k * 4 + 1, none⟩ = false := hw1.frozen _
      have f2 : w1.frozen? ⟨w.heap.size, k * 4 + 2, none⟩ = false := hw1.frozen _
      have f3 : w1.frozen? ⟨w.heap.size, k * 4 + 3, none⟩ = false := hw1.frozen _
      clear p0 p1 p2 p3 hc0 hc1 hc2 hc3
      have hb1 := hb.trans (b1.mono (Nat.le_of_lt hs))
      clear b1 hb hw
      have HW := Lib.hid hw1
      go_wp2
      go_roundw
      case rel => exact ⟨k + 1, by omega, by go_num, by rw [← HP.out]; exact (((HW.out.set _ _).set _ _).set _ _).set _ _, by (repeat' (first | (with_reducible exact Below.refl _ _) | (with_reducible assumption) | (with_reducible refine Below.alloc ?_ ?_ _) | (with_reducible refine Below.setCell ?_ ?_ _) | (with_reducible refine Below.drew ?_) | (with_reducible refine below_drewN ?_ _) | (with_reducible refine Below.trans ?_ (Below.mono (by assumption) ?_)) | (with_reducible exact Nat.le_refl _) | (simp; done) | omega | (simp at *; omega)))⟩
      case measure => simp [intOf]; omega
    · obtain rfl : k = l.length := by omega
      rw [partL_all] at hw
      go_wp2
      go_returns
      exact ⟨w.heap.size, rfl, hw, Nat.le_refl _, hb⟩
theorem eqLog_any (a b c d a' b' c' d' : Int) (w : World) :
    Calls Tryd.prog 21 #[.agg #[.int .i64 a, .int .i64 b, .int .i64 c, .int .i64 d], .agg #[.int .i64 a', .int .i64 b', .int .i64 c', .int .i64 d']] w fun e w' => e = .returned (.bool (decide (a = a' ∧ b = b' ∧ c = c' ∧ d = d'))) ∧ Below w.heap.size w w' := by
  by_cases h1 : a = a'
  · subst h1
    by_cases h2 : b = b' ∧ c = c' ∧ d = d'
    · have HL := Lib.hid h2
      have he : decide (b = b' ∧ c = c' ∧ d = d') = true := decide_eq_true h2
      clear h2
      go_enter Tryd.func21, Tryd.ntmps21
      go_wp2_with fail
      refine (eqFall_any _ _ _ _ _ _ _).mono ?_; rintro e w1 ⟨rfl, b1⟩
      rw [he]
      clear he
      go_wp2
      go_returns
      exact ⟨ret_bool (by first | exact (decide_eq_true ⟨trivial, HL.out⟩).symm | exact (decide_eq_true ⟨rfl, HL.out⟩).symm), by (repeat' (first | (with_reducible exact Below.refl _ _) | (with_reducible assumption) | (with_reducible refine Below.alloc ?_ ?_ _) | (with_reducible refine Below.setCell ?_ ?_ _) | (with_reducible refine Below.drew ?_) | (with_reducible refine below_drewN ?_ _) | (with_reducible refine Below.trans ?_ (Below.mono (by assumption) ?_)) | (with_reducible exact Nat.le_refl _) | (simp; done) | omega | (simp at *; omega)))⟩
    · have HL := Lib.hid h2
      have he : decide (b = b' ∧ c = c' ∧ d = d') = false := decide_eq_false h2
      clear h2
      go_enter Tryd.func21, Tryd.ntmps21
      go_wp2_with fail
      refine (eqFall_any _ _ _ _ _ _ _).mono ?_; rintro e w1 ⟨rfl, b1⟩
      rw [he]
      clear he
      go_wp2
      go_returns
      exact ⟨ret_bool (decide_eq_false (fun h => HL.out h.2)).symm, by (repeat' (first | (with_reducible exact Below.refl _ _) | (with_reducible assumption) | (with_reducible refine Below.alloc ?_ ?_ _) | (with_reducible refine Below.setCell ?_ ?_ _) | (with_reducible refine Below.drew ?_) | (with_reducible refine below_drewN ?_ _) | (with_reducible refine Below.trans ?_ (Below.mono (by assumption) ?_)) | (with_reducible exact Nat.le_refl _) | (simp; done) | omega | (simp at *; omega)))⟩
  · have hb : (a != a') = true := by simpa using h1
    have HL := Lib.hid h1
    clear h1
    go_enter Tryd.func21, Tryd.ntmps21
    go_wp2
    go_returns
    exact ⟨ret_bool (decide_eq_false (fun h => HL.out h.1)).symm, by (repeat' (first | (with_reducible exact Below.refl _ _) | (with_reducible assumption) | (with_reducible refine Below.alloc ?_ ?_ _) | (with_reducible refine Below.setCell ?_ ?_ _) | (with_reducible refine Below.drew ?_) | (with_reducible refine below_drewN ?_ _) | (with_reducible refine Below.trans ?_ (Below.mono (by assumption) ?_)) | (with_reducible exact Nat.le_refl _) | (simp; done) | omega | (simp at *; omega)))⟩
set_option maxRecDepth 100000 in
theorem eqLogS_any (A A' : Option Addr) (cap cap' : Nat) (l m : List (Int × Int × Int × Int)) (w : World) (hn : l.length ≤ 1048576) (hm : m.length ≤ 1048576) (hr : Rd w w.heap.size A (flatL l)) (hr' : Rd w w.heap.size A' (flatL m)) :
    Calls Tryd.prog 9 #[.slice A l.length cap, .slice A' m.length cap'] w fun e w' => e = .returned (.bool (decide (l = m))) ∧ Below w.heap.size w w' := by
  by_cases hlm : l.length = m.length
  · have hlb : ((l.length : Int) != (m.length : Int)) = false := by simp [hlm]
    rw [← hlm] at hlb ⊢
    have HL := Lib.hid hlm
    clear hlm
    go_enter Tryd.func9, Tryd.ntmps9
    go_wp2
    go_loopw [5] (fun i wr => ∃ k : Nat, k ≤ l.length ∧ i = .int .i64 k ∧ l.take k = m.take k ∧ Below w.heap.size w wr) (fun i _ => l.length - (intOf i).toNat)
    case atStart => exact ⟨0, Nat.zero_le _, rfl, rfl, by (repeat' (first | (with_reducible exact Below.refl _ _) | (with_reducible assumption) | (with_reducible refine Below.alloc ?_ ?_ _) | (with_reducible refine Below.setCell ?_ ?_ _) | (with_reducible refine Below.drew ?_) | (with_reducible refine below_drewN ?_ _) | (with_reducible refine Below.trans ?_ (Below.mono (by assumption) ?_)) | (with_reducible exact Nat.le_refl _) | (simp; done) | omega | (simp at *; omega)))⟩
    case round =>
      obtain ⟨k, hk, rfl, heq, hb⟩ := hrel
      by_cases hlt : k < l.length
      · obtain ⟨b, o, rfl, hbl, hc⟩ := hr (by rw [flatL_len]; omega)
        obtain ⟨b', o', rfl, hbl', hc'⟩ := hr' (by have := HL.out; rw [flatL_len]; omega)
        have hltm : k < m.length := by have := HL.out; omega
        obtain ⟨a0, a1, a2, a3⟩ := flatL_at l k hlt
        obtain ⟨d0, d1, d2, d3⟩ := flatL_at m k hltm
        have hc0 : wr.cell? ⟨b, o + k * 4, none⟩ = some (.int .i64 l[k].1) := (hb.cell (p := ⟨b, _, none⟩) hbl).trans (hc _ _ a0)
        have hc1 : wr.cell? ⟨b, o + k * 4 + 1, none⟩ = some (.int .i64 l[k].2.1) := (hb.cell (p := ⟨b, _, none⟩) hbl).trans (hc _ _ a1)
        have hc2 : wr.cell? ⟨b, o + k * 4 + 2, none⟩ = some (.int .i64 l[k].2.2.1) := (hb.cell (p := ⟨b, _, none⟩) hbl).trans (hc _ _ a2)
        have hc3 : wr.cell? ⟨b, o + k * 4 + 3, none⟩ = some (.int .i64 l[k].2.2.2) := (hb.cell (p := ⟨b, _, none⟩) hbl).trans (hc _ _ a3)
        have hd0 : wr.cell? ⟨b', o' + k * 4, none⟩ = some (.int .i64 m[k].1) := (hb.cell (p := ⟨b', _, none⟩) hbl').trans (hc' _ _ d0)
        have hd1 : wr.cell? ⟨b', o' + k * 4 + 1, none⟩ = some (.int .i64 m[k].2.1) := (hb.cell (p := ⟨b', _, none⟩) hbl').trans (hc' _ _ d1)
        have hd2 : wr.cell? ⟨b', o' + k * 4 + 2, none⟩ = some (.int .i64 m[k].2.2.1) := (hb.cell (p := ⟨b', _, none⟩) hbl').trans (hc' _ _ d2)
        have hd3 : wr.cell? ⟨b', o' + k * 4 + 3, none⟩ = some (.int .i64 m[k].2.2.2) := (hb.cell (p := ⟨b', _, none⟩) hbl').trans (hc' _ _ d3)
        have hs : w.heap.size ≤ wr.heap.size := hb.size
        clear hr hr' hc hc' a0 a1 a2 a3 d0 d1 d2 d3
        have HT := Lib.hid (takeL_step hlt hltm heq)
        have HN := Lib.hid (fun (h : l = m) => (show l[k].1 = m[k].1 ∧ l[k].2.1 = m[k].2.1 ∧ l[k].2.2.1 = m[k].2.2.1 ∧ l[k].2.2.2 = m[k].2.2.2 by subst h; exact ⟨rfl, rfl, rfl, rfl⟩))
        clear heq
        generalize l[k].1 = x at *
        generalize l[k].2.1 = y at *
        generalize l[k].2.2.1 = z at *
        generalize l[k].2.2.2 = u at *
        generalize m[k].1 = x' at *
        generalize m[k].2.1 = y' at *
        generalize m[k].2.2.1 = z' at *
        generalize m[k].2.2.2 = u' at *
        go_wp2_with fail
        go_still_tail 8, (by kernel_rfl)
        change wpList _ _ _ _ _ wr.drew
        have hb2 : Below w.heap.size w wr.drew := hb.drew
        have hs2 : w.heap.size ≤ wr.drew.heap.size := hs
        generalize wr.drew = w2 at *
        clear hc0 hc1 hc2 hc3 hd0 hd1 hd2 hd3 hb
        go_wp2_with fail
        by_cases hxy : x = x' ∧ y = y' ∧ z = z' ∧ u = u'
        · refine (eqLog_any _ _ _ _ _ _ _ _ _).mono ?_; rintro e w3 ⟨rfl, b3⟩
          rw [decide_eq_true hxy]
          have HX := Lib.hid hxy
          clear hxy
          go_wp2
          go_roundw
          case rel => exact ⟨k + 1, by omega, by go_num, HT.out HX.out.1 HX.out.2.1 HX.out.2.2.1 HX.out.2.2.2, by (repeat' (first | (with_reducible exact Below.refl _ _) | (with_reducible assumption) | (with_reducible refine Below.alloc ?_ ?_ _) | (with_reducible refine Below.setCell ?_ ?_ _) | (with_reducible refine Below.drew ?_) | (with_reducible refine below_drewN ?_ _) | (with_reducible refine Below.trans ?_ (Below.mono (by assumption) ?_)) | (with_reducible exact Nat.le_refl _) | (simp; done) | omega | (simp at *; omega)))⟩
          case measure => simp [intOf]; omega
        · refine (eqLog_any _ _ _ _ _ _ _ _ _).mono ?_; rintro e w3 ⟨rfl, b3⟩
          rw [decide_eq_false hxy]
          have HX := Lib.hid hxy
          clear hxy
          go_wp2
          go_returns
          exact ⟨ret_bool (decide_eq_false (fun h => HX.out (HN.out h))).symm, by (repeat' (first | (with_reducible exact Below.refl _ _) | (with_reducible assumption) | (with_reducible refine Below.alloc ?_ ?_ _) | (with_reducible refine Below.setCell ?_ ?_ _) | (with_reducible refine Below.drew ?_) | (with_reducible refine below_drewN ?_ _) | (with_reducible refine Below.trans ?_ (Below.mono (by assumption) ?_)) | (with_reducible exact Nat.le_refl _) | (simp; done) | omega | (simp at *; omega)))⟩
      · obtain rfl : k = l.length := by omega
        rw [List.take_length, HL.out, List.take_length] at heq
        have HQ := Lib.hid heq
        clear heq
        go_wp2
        go_returns
        exact ⟨ret_bool (decide_eq_true HQ.out).symm, hb⟩
  · have hlb : ((l.length : Int) != (m.length : Int)) = true := by simp; omega
    go_enter Tryd.func9, Tryd.ntmps9
    go_wp2
    go_returns
    exact ⟨ret_bool (by simp; intro h; exact hlm (by rw [h])), by (repeat' (first | (with_reducible exact Below.refl _ _) | (with_reducible assumption) | (with_reducible refine Below.alloc ?_ ?_ _) | (with_reducible refine Below.setCell ?_ ?_ _) | (with_reducible refine Below.drew ?_) | (with_reducible refine below_drewN ?_ _) | (with_reducible refine Below.trans ?_ (Below.mono (by assumption) ?_)) | (with_reducible exact Nat.le_refl _) | (simp; done) | omega | (simp at *; omega)))⟩
theorem markLogS_n (A : Option Addr) (cap n : Nat) (xs : List Value) (k : Int) (w : World) (hx : xs.length = 4 * n) (hn : n ≤ 1048576) (h0 : 0 ≤ k) (h1 : k ≤ 16777216) (ho : Own w A 39 xs) :
    Calls Tryd.prog 12 #[.slice A n cap, .int .i64 k] w fun e w' => e = .returned (.int .i64 (k + 4 * n)) ∧ Own w' A 39 (marks k (4 * n)) ∧ Fx w w' A n := by
  rcases Nat.eq_zero_or_pos n with hz | hp
  · subst hz
    clear ho hx
    go_enter Tryd.func12, Tryd.ntmps12
    go_wp2
    go_rounds 1
    go_returns
    exact ⟨ret_int (by simp), fun h => absurd h (by rw [marks_length]; omega), same_fx⟩
  · obtain ⟨g, rest, rfl, hw⟩ := ho (by omega)
    have HX := Lib.hid hx
    clear hx
    go_enter Tryd.func12, Tryd.ntmps12
    go_wp2
    go_loopw [1, 5] (fun q i wr => ∃ j : Nat, j ≤ n ∧ i = .int .i64 j ∧ q = .int .i64 (k + 4 * j) ∧ Whole wr g 39 ((marks k (4 * j) ++ xs.drop (4 * j)) ++ rest) ∧ w.grownBy wr (some g)) (fun _ i _ => n - (intOf i).toNat)
    case atStart => exact ⟨0, Nat.zero_le _, rfl, by go_num, by simpa [marks] using hw, World.grownBy.refl w _⟩
    case round =>
      obtain ⟨j, hj, rfl, rfl, hwr, hg⟩ := hrel
      by_cases hlt : j < n
      · have hx3 : 4 * j + 3 < xs.length := by have := HX.out; omega
        obtain ⟨u, hu⟩ := marked_at k xs rest (4 * j) (by omega)
        obtain ⟨u', hu'⟩ := marked_at k xs rest (4 * j + 1) (by omega)
        obtain ⟨u2, hu2⟩ := marked_at k xs rest (4 * j + 2) (by omega)
        obtain ⟨u3, hu3⟩ := marked_at k xs rest (4 * j + 3) hx3
        have s1 := marked_step k xs rest (4 * j) (by omega)
        have s2 := marked_step k xs rest (4 * j + 1) (by omega)
        have s3 := marked_step k xs rest (4 * j + 2) (by omega)
        have s4 := marked_step k xs rest (4 * j + 3) hx3
        have e0 : (k + 4 * (j : Int)) = k + ((4 * j : Nat) : Int) := by omega
        have e1 : k + 4 * (j : Int) + 1 = k + ((4 * j + 1 : Nat) : Int) := by omega
        have e2 : k + 4 * (j : Int) + 1 + 1 = k + ((4 * j + 2 : Nat) : Int) := by omega
        have e3 : k + 4 * (j : Int) + 1 + 1 + 1 = k + ((4 * j + 3 : Nat) : Int) := by omega
        have ej : j * 4 = 4 * j := by omega
        have hc : wr.cell? ⟨g, j * 4, none⟩ = some u := by rw [hwr.cell, ej]; exact hu
        have hw2 := hwr.set (4 * j) (.int .i64 (k + (4 * j : Nat)))
        rw [s1] at hw2
        have hc' : (wr.setCell ⟨g, j * 4, none⟩ (.int .i64 (k + 4 * j))).cell? ⟨g, j * 4 + 1, none⟩ = some u' := by
          rw [e0, ej, hw2.cell]; exact hu'
        have hw3 := hw2.set (4 * j + 1) (.int .i64 (k + ((4 * j + 1 : Nat) : Int)))
        rw [s2] at hw3
        have hc2 : ((wr.setCell ⟨g, j * 4, none⟩ (.int .i64 (k + 4 * j))).setCell ⟨g, j * 4 + 1, none⟩ (.int .i64 (k + 4 * j + 1))).cell? ⟨g, j * 4 + 2, none⟩ = some u2 := by
          rw [e1, e0, ej, hw3.cell]; exact hu2
        have hw4 := hw3.set (4 * j + 2) (.int .i64 (k + ((4 * j + 2 : Nat) : Int)))
        rw [s3] at hw4
        have hc3 : (((wr.setCell ⟨g, j * 4, none⟩ (.int .i64 (k + 4 * j))).setCell ⟨g, j * 4 + 1, none⟩ (.int .i64 (k + 4 * j + 1))).setCell ⟨g, j * 4 + 2, none⟩ (.int .i64 (k + 4 * j + 1 + 1))).cell? ⟨g, j * 4 + 3, none⟩ = some u3 := by
          rw [e2, e1, e0, ej, hw4.cell]; exact hu3
        have hw5 := hw4.set (4 * j + 3) (.int .i64 (k + ((4 * j + 3 : Nat) : Int)))
        rw [s4] at hw5
        have HW := Lib.hid hw5
        have hf := hwr.frozen (j * 4)
        have hf' := hwr.frozen (j * 4 + 1)
        have hf2 := hwr.frozen (j * 4 + 2)
        have hf3 := hwr.frozen (j * 4 + 3)
        have HE := Lib.hid (And.intro e0 (And.intro e1 (And.intro e2 (And.intro e3 ej))))
        clear hu hu' hu2 hu3 s1 s2 s3 s4 hw2 hw3 hw4 hw5 e0 e1 e2 e3 ej
        go_wp2
        go_roundw
        case rel =>
          refine ⟨j + 1, by omega, by go_num, by go_num, ?_, only_setCell (only_setCell (only_setCell (only_setCell hg _ _) _ _) _ _) _ _⟩
          obtain ⟨e0, e1, e2, e3, ej⟩ := HE.out
          have h := HW.out
          rw [e3, e2, e1, e0, ej, show 4 * (j + 1) = 4 * j + 3 + 1 by omega]
          exact h
        case measure => simp [intOf]; omega
      · obtain rfl : j = n := by omega
        have HY := HX.out
        have hd : xs.drop (4 * j) = [] := List.drop_eq_nil_of_le (by omega)
        rw [hd] at hwr
        clear HY hd
        go_wp2
        go_returns
        refine ⟨rfl, fun _ => ⟨g, rest, rfl, by simpa using hwr⟩, only_fx hg hp⟩
theorem heldLogS_any (A : Option Addr) (cap n : Nat) (k : Int) (w : World) (hn : n ≤ 1048576) (h0 : 0 ≤ k) (h1 : k ≤ 16777216) (ho : Own w A 39 (marks k (4 * n))) :
    Calls Tryd.prog 13 #[.slice A n cap, .int .i64 k] w fun e w' => e = .returned (.int .i64 (k + 4 * n)) ∧ w = w' := by
  rcases Nat.eq_zero_or_pos n with hz | hp
  · subst hz
    clear ho
    go_enter Tryd.func13, Tryd.ntmps13
    go_wp2
    go_rounds 1
    go_returns
    refine ⟨ret_int (by simp), rfl⟩
  · obtain ⟨g, rest, rfl, hw⟩ := ho (by rw [marks_length]; omega)
    go_enter Tryd.func13, Tryd.ntmps13
    go_wp2
    go_loop [1, 5] (fun q i => ∃ j : Nat, j ≤ n ∧ i = .int .i64 j ∧ q = .int .i64 (k + 4 * j)) (fun _ i => n - (intOf i).toNat)
    case atStart => exact ⟨0, Nat.zero_le _, rfl, by go_num⟩
    case round =>
      obtain ⟨j, hj, rfl, rfl⟩ := hrel
      by_cases hlt : j < n
      · have hc : w.cell? ⟨g, j * 4, none⟩ = some (.int .i64 (k + 4 * j)) := by
          rw [hw.cell, List.getElem?_append_left (by rw [marks_length]; omega), marks_at k (4 * n) (j * 4) (by omega)]
          congr 2; omega
        have hc' : w.cell? ⟨g, j * 4 + 1, none⟩ = some (.int .i64 (k + 4 * j + 1)) := by
          rw [hw.cell, List.getElem?_append_left (by rw [marks_length]; omega), marks_at k (4 * n) (j * 4 + 1) (by omega)]
          congr 2; omega
        have hc2 : w.cell? ⟨g, j * 4 + 2, none⟩ = some (.int .i64 (k + 4 * j + 1 + 1)) := by
          rw [hw.cell, List.getElem?_append_left (by rw [marks_length]; omega), marks_at k (4 * n) (j * 4 + 2) (by omega)]
          congr 2; omega
        have hc3 : w.cell? ⟨g, j * 4 + 3, none⟩ = some (.int .i64 (k + 4 * j + 1 + 1 + 1)) := by
          rw [hw.cell, List.getElem?_append_left (by rw [marks_length]; omega), marks_at k (4 * n) (j * 4 + 3) (by omega)]
          congr 2; omega
        go_wp2
        go_round
        case rel => exact ⟨j + 1, by omega, by go_num, by go_num⟩
        case measure => simp [intOf]; omega
      · obtain rfl : j = n := by omega
        go_wp2
        go_returns
        exact ⟨rfl, rfl⟩
end Go.Proofs.YtlambflmabecfaaDoor
