/- Ends of marbles: the laws' own helpers over them and over their lists. -/
import Derived.StillTailTactics
import Derived.Test.YtoflhjekldlaiaaAllS
import Derived.Test.YtoflhjekldlaiaaMark
namespace Go.Proofs.Ytoflhjekldlaiaa
open Go.ChangeShapes Go.WideShapes Go.ChangeAt Go.RowKit Go.Joins Go.Deep
set_option linter.unusedSimpArgs false
set_option linter.unusedVariables false
set_option maxRecDepth 100000
set_option maxHeartbeats 2000000
theorem eqFall_any (a b c a' b' c' : Int) (w : World) :
    Calls Try.prog 17 #[.agg #[.int .i64 a, .int .i64 b, .int .i64 c], .agg #[.int .i64 a', .int .i64 b', .int .i64 c']] w fun e w' => e = .returned (.bool (decide (a = a' ∧ b = b' ∧ c = c'))) ∧ Below w.heap.size w w' := by
  by_cases h1 : a = a'
  · subst h1
    by_cases h2 : b = b'
    · subst h2
      by_cases h3 : c = c'
      · subst h3
        go_enter Try.func17, Try.ntmps17
        go_wp2
        go_returns
        exact ⟨ret_bool (by first | rfl | simp), by (repeat' (first | (with_reducible exact Below.refl _ _) | (with_reducible assumption) | (with_reducible refine Below.alloc ?_ ?_ _) | (with_reducible refine Below.setCell ?_ ?_ _) | (with_reducible refine Below.drew ?_) | (with_reducible refine below_drewN ?_ _) | (with_reducible refine Below.trans ?_ (Below.mono (by assumption) ?_)) | (with_reducible exact Nat.le_refl _) | (simp; done) | omega | (simp at *; omega)))⟩
      · have hb : (c != c') = true := by simpa using h3
        have HL := Lib.hid h3
        clear h3
        go_enter Try.func17, Try.ntmps17
        go_wp2
        go_returns
        exact ⟨ret_bool (decide_eq_false (fun h => HL.out h.2.2)).symm, by (repeat' (first | (with_reducible exact Below.refl _ _) | (with_reducible assumption) | (with_reducible refine Below.alloc ?_ ?_ _) | (with_reducible refine Below.setCell ?_ ?_ _) | (with_reducible refine Below.drew ?_) | (with_reducible refine below_drewN ?_ _) | (with_reducible refine Below.trans ?_ (Below.mono (by assumption) ?_)) | (with_reducible exact Nat.le_refl _) | (simp; done) | omega | (simp at *; omega)))⟩
    · have hb : (b != b') = true := by simpa using h2
      have HL := Lib.hid h2
      clear h2
      go_enter Try.func17, Try.ntmps17
      go_wp2
      go_returns
      exact ⟨ret_bool (decide_eq_false (fun h => HL.out h.2.1)).symm, by (repeat' (first | (with_reducible exact Below.refl _ _) | (with_reducible assumption) | (with_reducible refine Below.alloc ?_ ?_ _) | (with_reducible refine Below.setCell ?_ ?_ _) | (with_reducible refine Below.drew ?_) | (with_reducible refine below_drewN ?_ _) | (with_reducible refine Below.trans ?_ (Below.mono (by assumption) ?_)) | (with_reducible exact Nat.le_refl _) | (simp; done) | omega | (simp at *; omega)))⟩
  · have hb : (a != a') = true := by simpa using h1
    have HL := Lib.hid h1
    clear h1
    go_enter Try.func17, Try.ntmps17
    go_wp2
    go_returns
    exact ⟨ret_bool (decide_eq_false (fun h => HL.out h.1)).symm, by (repeat' (first | (with_reducible exact Below.refl _ _) | (with_reducible assumption) | (with_reducible refine Below.alloc ?_ ?_ _) | (with_reducible refine Below.setCell ?_ ?_ _) | (with_reducible refine Below.drew ?_) | (with_reducible refine below_drewN ?_ _) | (with_reducible refine Below.trans ?_ (Below.mono (by assumption) ?_)) | (with_reducible exact Nat.le_refl _) | (simp; done) | omega | (simp at *; omega)))⟩
theorem flatF_at2 (l : List (Int × Int × Int)) (k : Nat) (h : k < l.length) : (flatF l)[k * 3]? = some (.int .i64 l[k].1) ∧ (flatF l)[k * 3 + 1]? = some (.int .i64 l[k].2.1) ∧ (flatF l)[k * 3 + 2]? = some (.int .i64 l[k].2.2) := by
  induction l generalizing k with
  | nil => simp at h
  | cons c l ih =>
    cases k with
    | zero => exact ⟨rfl, rfl, rfl⟩
    | succ k =>
      have := ih k (by simpa using h)
      have e1 : (flatF (c :: l))[(k + 1) * 3]? = (flatF l)[k * 3]? := by rw [show (k + 1) * 3 = k * 3 + 1 + 1 + 1 by omega]; rfl
      have e2 : (flatF (c :: l))[(k + 1) * 3 + 1]? = (flatF l)[k * 3 + 1]? := by rw [show (k + 1) * 3 + 1 = k * 3 + 1 + 1 + 1 + 1 by omega]; rfl
      have e3 : (flatF (c :: l))[(k + 1) * 3 + 2]? = (flatF l)[k * 3 + 2]? := by rw [show (k + 1) * 3 + 2 = k * 3 + 2 + 1 + 1 + 1 by omega]; rfl
      rw [e1, e2, e3]
      exact this
theorem takeF_step {l m : List (Int × Int × Int)} {k : Nat} (h1 : k < l.length) (h2 : k < m.length) (h : l.take k = m.take k) : l[k].1 = m[k].1 → l[k].2.1 = m[k].2.1 → l[k].2.2 = m[k].2.2 → l.take (k + 1) = m.take (k + 1) := fun a b c => by
  rw [List.take_succ_eq_append_getElem h1, List.take_succ_eq_append_getElem h2, h, Prod.ext a (Prod.ext b c)]
set_option maxRecDepth 100000 in
theorem eqFallS_any (A A' : Option Addr) (cap cap' : Nat) (l m : List (Int × Int × Int)) (w : World) (hn : l.length ≤ 1048576) (hm : m.length ≤ 1048576) (hr : Rd w w.heap.size A (flatF l)) (hr' : Rd w w.heap.size A' (flatF m)) :
    Calls Try.prog 36 #[.slice A l.length cap, .slice A' m.length cap'] w fun e w' => e = .returned (.bool (decide (l = m))) ∧ Below w.heap.size w w' := by
  by_cases hlm : l.length = m.length
  · have hlb : ((l.length : Int) != (m.length : Int)) = false := by simp [hlm]
    rw [← hlm] at hlb ⊢
    have HL := Lib.hid hlm
    clear hlm
    go_enter Try.func36, Try.ntmps36
    go_wp2
    go_loopw [5] (fun i wr => ∃ k : Nat, k ≤ l.length ∧ i = .int .i64 k ∧ l.take k = m.take k ∧ Below w.heap.size w wr) (fun i _ => l.length - (intOf i).toNat)
    case atStart => exact ⟨0, Nat.zero_le _, rfl, rfl, by (repeat' (first | (with_reducible exact Below.refl _ _) | (with_reducible assumption) | (with_reducible refine Below.alloc ?_ ?_ _) | (with_reducible refine Below.setCell ?_ ?_ _) | (with_reducible refine Below.drew ?_) | (with_reducible refine below_drewN ?_ _) | (with_reducible refine Below.trans ?_ (Below.mono (by assumption) ?_)) | (with_reducible exact Nat.le_refl _) | (simp; done) | omega | (simp at *; omega)))⟩
    case round =>
      obtain ⟨k, hk, rfl, heq, hb⟩ := hrel
      by_cases hlt : k < l.length
      · obtain ⟨b, o, rfl, hbl, hc⟩ := hr (by rw [flatF_len]; omega)
        obtain ⟨b', o', rfl, hbl', hc'⟩ := hr' (by have := HL.out; rw [flatF_len]; omega)
        have hltm : k < m.length := by have := HL.out; omega
        have hc0 : wr.cell? ⟨b, o + k * 3, none⟩ = some (.int .i64 l[k].1) := (hb.cell (p := ⟨b, _, none⟩) hbl).trans (hc _ _ (flatF_at2 l k hlt).1)
        have hc1 : wr.cell? ⟨b, o + k * 3 + 1, none⟩ = some (.int .i64 l[k].2.1) := (hb.cell (p := ⟨b, _, none⟩) hbl).trans (hc _ _ (flatF_at2 l k hlt).2.1)
        have hc2 : wr.cell? ⟨b, o + k * 3 + 2, none⟩ = some (.int .i64 l[k].2.2) := (hb.cell (p := ⟨b, _, none⟩) hbl).trans (hc _ _ (flatF_at2 l k hlt).2.2)
        have hd0 : wr.cell? ⟨b', o' + k * 3, none⟩ = some (.int .i64 m[k].1) := (hb.cell (p := ⟨b', _, none⟩) hbl').trans (hc' _ _ (flatF_at2 m k hltm).1)
        have hd1 : wr.cell? ⟨b', o' + k * 3 + 1, none⟩ = some (.int .i64 m[k].2.1) := (hb.cell (p := ⟨b', _, none⟩) hbl').trans (hc' _ _ (flatF_at2 m k hltm).2.1)
        have hd2 : wr.cell? ⟨b', o' + k * 3 + 2, none⟩ = some (.int .i64 m[k].2.2) := (hb.cell (p := ⟨b', _, none⟩) hbl').trans (hc' _ _ (flatF_at2 m k hltm).2.2)
        have hs : w.heap.size ≤ wr.heap.size := hb.size
        clear hr hr' hc hc'
        have HT := Lib.hid (takeF_step hlt hltm heq)
        have HN := Lib.hid (fun (h : l = m) => (show l[k].1 = m[k].1 ∧ l[k].2.1 = m[k].2.1 ∧ l[k].2.2 = m[k].2.2 by subst h; exact ⟨rfl, rfl, rfl⟩))
        clear heq
        generalize l[k].1 = x at *
        generalize l[k].2.1 = y at *
        generalize l[k].2.2 = z at *
        generalize m[k].1 = x' at *
        generalize m[k].2.1 = y' at *
        generalize m[k].2.2 = z' at *
        go_wp2_with fail
        go_still_tail 8, (by kernel_rfl)
        change wpList _ _ _ _ _ wr.drew
        have hb2 : Below w.heap.size w wr.drew := hb.drew
        have hs2 : w.heap.size ≤ wr.drew.heap.size := hs
        generalize wr.drew = w2 at *
        clear hc0 hc1 hc2 hd0 hd1 hd2 hb
        go_wp2_with fail
        by_cases hxy : x = x' ∧ y = y' ∧ z = z'
        · refine (eqFall_any _ _ _ _ _ _ _).mono ?_; rintro e w3 ⟨rfl, b3⟩
          rw [decide_eq_true hxy]
          have HX := Lib.hid hxy
          clear hxy
          go_wp2
          go_roundw
          case rel => exact ⟨k + 1, by omega, by go_num, HT.out HX.out.1 HX.out.2.1 HX.out.2.2, by (repeat' (first | (with_reducible exact Below.refl _ _) | (with_reducible assumption) | (with_reducible refine Below.alloc ?_ ?_ _) | (with_reducible refine Below.setCell ?_ ?_ _) | (with_reducible refine Below.drew ?_) | (with_reducible refine below_drewN ?_ _) | (with_reducible refine Below.trans ?_ (Below.mono (by assumption) ?_)) | (with_reducible exact Nat.le_refl _) | (simp; done) | omega | (simp at *; omega)))⟩
          case measure => simp [intOf]; omega
        · refine (eqFall_any _ _ _ _ _ _ _).mono ?_; rintro e w3 ⟨rfl, b3⟩
          rw [decide_eq_false hxy]
          have HX := Lib.hid hxy
          clear hxy
          go_wp2
          go_returns
          exact ⟨ret_bool (decide_eq_false (fun h => HX.out (HN.out h))).symm, by (repeat' (first | (with_reducible exact Below.refl _ _) | (with_reducible assumption) | (with_reducible refine Below.alloc ?_ ?_ _) | (with_reducible refine Below.setCell ?_ ?_ _) | (with_reducible refine Below.drew ?_) | (with_reducible refine below_drewN ?_ _) | (with_reducible refine Below.trans ?_ (Below.mono (by assumption) ?_)) | (with_reducible exact Nat.le_refl _) | (simp; done) | omega | (simp at *; omega)))⟩
      · obtain rfl : k = l.length := by omega
        rw [List.take_length, HL.out, List.take_length] at heq
        have HQ := Lib.hid heq
        clear heq
        go_wp2
        go_returns
        exact ⟨ret_bool (decide_eq_true HQ.out).symm, hb⟩
  · have hlb : ((l.length : Int) != (m.length : Int)) = true := by simp; omega
    go_enter Try.func36, Try.ntmps36
    go_wp2
    go_returns
    exact ⟨ret_bool (by simp; intro h; exact hlm (by rw [h])), by (repeat' (first | (with_reducible exact Below.refl _ _) | (with_reducible assumption) | (with_reducible refine Below.alloc ?_ ?_ _) | (with_reducible refine Below.setCell ?_ ?_ _) | (with_reducible refine Below.drew ?_) | (with_reducible refine below_drewN ?_ _) | (with_reducible refine Below.trans ?_ (Below.mono (by assumption) ?_)) | (with_reducible exact Nat.le_refl _) | (simp; done) | omega | (simp at *; omega)))⟩
theorem markFallS_n (A : Option Addr) (cap n : Nat) (xs : List Value) (k : Int) (w : World) (hx : xs.length = 3 * n) (hn : n ≤ 1048576) (h0 : 0 ≤ k) (h1 : k ≤ 16777216) (ho : Own w A 27 xs) :
    Calls Try.prog 37 #[.slice A n cap, .int .i64 k] w fun e w' => e = .returned (.int .i64 (k + 3 * n)) ∧ Own w' A 27 (marks k (3 * n)) ∧ Fx w w' A n := by
  rcases Nat.eq_zero_or_pos n with hz | hp
  · subst hz
    clear ho hx
    go_enter Try.func37, Try.ntmps37
    go_wp2
    go_rounds 1
    go_returns
    exact ⟨ret_int (by simp), fun h => absurd h (by rw [marks_length]; omega), same_fx⟩
  · obtain ⟨g, rest, rfl, hw⟩ := ho (by omega)
    have HX := Lib.hid hx
    clear hx
    go_enter Try.func37, Try.ntmps37
    go_wp2
    go_loopw [1, 5] (fun q i wr => ∃ j : Nat, j ≤ n ∧ i = .int .i64 j ∧ q = .int .i64 (k + 3 * j) ∧ Whole wr g 27 ((marks k (3 * j) ++ xs.drop (3 * j)) ++ rest) ∧ w.grownBy wr (some g)) (fun _ i _ => n - (intOf i).toNat)
    case atStart => exact ⟨0, Nat.zero_le _, rfl, by go_num, by simpa [marks] using hw, World.grownBy.refl w _⟩
    case round =>
      obtain ⟨j, hj, rfl, rfl, hwr, hg⟩ := hrel
      by_cases hlt : j < n
      · have hx2 : 3 * j + 2 < xs.length := by have := HX.out; omega
        obtain ⟨u, hu⟩ := marked_at k xs rest (3 * j) (by omega)
        obtain ⟨u', hu'⟩ := marked_at k xs rest (3 * j + 1) (by omega)
        obtain ⟨u2, hu2⟩ := marked_at k xs rest (3 * j + 2) hx2
        have s1 := marked_step k xs rest (3 * j) (by omega)
        have s2 := marked_step k xs rest (3 * j + 1) (by omega)
        have s3 := marked_step k xs rest (3 * j + 2) hx2
        have e0 : (k + 3 * (j : Int)) = k + ((3 * j : Nat) : Int) := by omega
        have e1 : k + 3 * (j : Int) + 1 = k + ((3 * j + 1 : Nat) : Int) := by omega
        have e2 : k + 3 * (j : Int) + 1 + 1 = k + ((3 * j + 2 : Nat) : Int) := by omega
        have ej : j * 3 = 3 * j := by omega
        have hc : wr.cell? ⟨g, j * 3, none⟩ = some u := by rw [hwr.cell, ej]; exact hu
        have hw2 := hwr.set (3 * j) (.int .i64 (k + (3 * j : Nat)))
        rw [s1] at hw2
        have hc' : (wr.setCell ⟨g, j * 3, none⟩ (.int .i64 (k + 3 * j))).cell? ⟨g, j * 3 + 1, none⟩ = some u' := by
          rw [e0, ej, hw2.cell]; exact hu'
        have hw3 := hw2.set (3 * j + 1) (.int .i64 (k + ((3 * j + 1 : Nat) : Int)))
        rw [s2] at hw3
        have hc2 : ((wr.setCell ⟨g, j * 3, none⟩ (.int .i64 (k + 3 * j))).setCell ⟨g, j * 3 + 1, none⟩ (.int .i64 (k + 3 * j + 1))).cell? ⟨g, j * 3 + 2, none⟩ = some u2 := by
          rw [e1, e0, ej, hw3.cell]; exact hu2
        have hw4 := hw3.set (3 * j + 2) (.int .i64 (k + ((3 * j + 2 : Nat) : Int)))
        rw [s3] at hw4
        have HW := Lib.hid hw4
        have hf := hwr.frozen (j * 3)
        have hf' := hwr.frozen (j * 3 + 1)
        have hf2 := hwr.frozen (j * 3 + 2)
        have HE := Lib.hid (And.intro e0 (And.intro e1 (And.intro e2 ej)))
        clear hu hu' hu2 s1 s2 s3 hw2 hw3 hw4 e0 e1 e2 ej
        go_wp2
        go_roundw
        case rel =>
          refine ⟨j + 1, by omega, by go_num, by go_num, ?_, only_setCell (only_setCell (only_setCell hg _ _) _ _) _ _⟩
          obtain ⟨e0, e1, e2, ej⟩ := HE.out
          have h := HW.out
          rw [e2, e1, e0, ej, show 3 * (j + 1) = 3 * j + 2 + 1 by omega]
          exact h
        case measure => simp [intOf]; omega
      · obtain rfl : j = n := by omega
        have HY := HX.out
        have hd : xs.drop (3 * j) = [] := List.drop_eq_nil_of_le (by omega)
        rw [hd] at hwr
        clear HY hd
        go_wp2
        go_returns
        refine ⟨rfl, fun _ => ⟨g, rest, rfl, by simpa using hwr⟩, only_fx hg hp⟩
theorem heldFallS_any (A : Option Addr) (cap n : Nat) (k : Int) (w : World) (hn : n ≤ 1048576) (h0 : 0 ≤ k) (h1 : k ≤ 16777216) (ho : Own w A 27 (marks k (3 * n))) :
    Calls Try.prog 38 #[.slice A n cap, .int .i64 k] w fun e w' => e = .returned (.int .i64 (k + 3 * n)) ∧ w = w' := by
  rcases Nat.eq_zero_or_pos n with hz | hp
  · subst hz
    clear ho
    go_enter Try.func38, Try.ntmps38
    go_wp2
    go_rounds 1
    go_returns
    refine ⟨ret_int (by simp), rfl⟩
  · obtain ⟨g, rest, rfl, hw⟩ := ho (by rw [marks_length]; omega)
    go_enter Try.func38, Try.ntmps38
    go_wp2
    go_loop [1, 5] (fun q i => ∃ j : Nat, j ≤ n ∧ i = .int .i64 j ∧ q = .int .i64 (k + 3 * j)) (fun _ i => n - (intOf i).toNat)
    case atStart => exact ⟨0, Nat.zero_le _, rfl, by go_num⟩
    case round =>
      obtain ⟨j, hj, rfl, rfl⟩ := hrel
      by_cases hlt : j < n
      · have hc : w.cell? ⟨g, j * 3, none⟩ = some (.int .i64 (k + 3 * j)) := by
          rw [hw.cell, List.getElem?_append_left (by rw [marks_length]; omega), marks_at k (3 * n) (j * 3) (by omega)]
          congr 2; omega
        have hc' : w.cell? ⟨g, j * 3 + 1, none⟩ = some (.int .i64 (k + 3 * j + 1)) := by
          rw [hw.cell, List.getElem?_append_left (by rw [marks_length]; omega), marks_at k (3 * n) (j * 3 + 1) (by omega)]
          congr 2; omega
        have hc2 : w.cell? ⟨g, j * 3 + 2, none⟩ = some (.int .i64 (k + 3 * j + 1 + 1)) := by
          rw [hw.cell, List.getElem?_append_left (by rw [marks_length]; omega), marks_at k (3 * n) (j * 3 + 2) (by omega)]
          congr 2; omega
        go_wp2
        go_round
        case rel => exact ⟨j + 1, by omega, by go_num, by go_num⟩
        case measure => simp [intOf]; omega
      · obtain rfl : j = n := by omega
        go_wp2
        go_returns
        exact ⟨rfl, rfl⟩
end Go.Proofs.Ytoflhjekldlaiaa
