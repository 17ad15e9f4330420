/-
  LISTS IN MEMORY, MORE: the laws' helpers that compare, mark and look at lists of cells and of numbers.
-/
import Derived.StillTailTactics
import Derived.Test.YtlambflmabecfaaList
namespace Go.Proofs.Ytlambflmabecfaa
open Go.ChangeShapes Go.WideShapes Go.ChangeAt Go.RowKit Go.Joins Go.Deep
set_option linter.unusedSimpArgs false
set_option linter.unusedVariables false
set_option maxRecDepth 100000
set_option maxHeartbeats 400000
theorem szCellS_any (A : Option Addr) (n cap : Nat) (left : Int) (w : World) (hn : n ≤ maxLen) (h0 : 0 ≤ left) (h1 : left ≤ 1048576) :
    Calls Try.prog 52 #[.slice A n cap, .int .i64 left] w fun e w' => e = .returned (.int .i64 (if left < n then -1 else left - n)) ∧ w = w' := by
  unfold maxLen at hn
  go_enter Try.func52, Try.ntmps52
  go_wp2
  all_goals go_returns
  all_goals refine ⟨ret_int (by (repeat' split) <;> omega), rfl⟩
theorem flat_inj : ∀ {l m : List (Int × Int)}, flat l = flat m → l = m := by
  intro l
  induction l with
  | nil => intro m h; cases m with
    | nil => rfl
    | cons c m => cases h
  | cons c l ih => intro m h; cases m with
    | nil => cases h
    | cons d m =>
      have h' : Value.int .i64 c.1 :: .int .i64 c.2 :: flat l = .int .i64 d.1 :: .int .i64 d.2 :: flat m := h
      simp only [List.cons.injEq, Value.int.injEq, true_and] at h'
      rw [ih h'.2.2, Prod.ext h'.1 h'.2.1]
theorem take_step {l m : List (Int × Int)} {k : Nat} (h1 : k < l.length) (h2 : k < m.length) (h : l.take k = m.take k) : l[k].1 = m[k].1 → l[k].2 = m[k].2 → l.take (k + 1) = m.take (k + 1) := fun a b => by
  rw [List.take_succ_eq_append_getElem h1, List.take_succ_eq_append_getElem h2, h, Prod.ext a b]
set_option maxRecDepth 100000 in
theorem eqCellS_any (A A' : Option Addr) (cap cap' : Nat) (l m : List (Int × Int)) (w : World) (hn : l.length ≤ 1048576) (hm : m.length ≤ 1048576) (hr : Rd w w.heap.size A (flat l)) (hr' : Rd w w.heap.size A' (flat m)) :
    Calls Try.prog 60 #[.slice A l.length cap, .slice A' m.length cap'] w fun e w' => e = .returned (.bool (decide (l = m))) ∧ Below w.heap.size w w' := by
  by_cases hlm : l.length = m.length
  · have hlb : ((l.length : Int) != (m.length : Int)) = false := by simp [hlm]
    rw [← hlm] at hlb ⊢
    have HL := Lib.hid hlm
    clear hlm
    go_enter Try.func60, Try.ntmps60
    go_wp2
    go_loopw [5] (fun i wr => ∃ k : Nat, k ≤ l.length ∧ i = .int .i64 k ∧ l.take k = m.take k ∧ Below w.heap.size w wr) (fun i _ => l.length - (intOf i).toNat)
    case atStart => exact ⟨0, Nat.zero_le _, rfl, rfl, by (repeat' (first | (with_reducible exact Below.refl _ _) | (with_reducible assumption) | (with_reducible refine Below.alloc ?_ ?_ _) | (with_reducible refine Below.setCell ?_ ?_ _) | (with_reducible refine Below.drew ?_) | (with_reducible refine below_drewN ?_ _) | (with_reducible refine Below.trans ?_ (Below.mono (by assumption) ?_)) | (with_reducible exact Nat.le_refl _) | (simp; done) | omega | (simp at *; omega)))⟩
    case round =>
      obtain ⟨k, hk, rfl, heq, hb⟩ := hrel
      by_cases hlt : k < l.length
      · obtain ⟨b, o, rfl, hbl, hc⟩ := hr (by rw [flat_length]; omega)
        obtain ⟨b', o', rfl, hbl', hc'⟩ := hr' (by have := HL.out; rw [flat_length]; omega)
        have hltm : k < m.length := by have := HL.out; omega
        have hc0 : wr.cell? ⟨b, o + k * 2, none⟩ = some (.int .i64 l[k].1) := (hb.cell (p := ⟨b, _, none⟩) hbl).trans (hc _ _ (flat_at l k hlt).1)
        have hc1 : wr.cell? ⟨b, o + k * 2 + 1, none⟩ = some (.int .i64 l[k].2) := (hb.cell (p := ⟨b, _, none⟩) hbl).trans (hc _ _ (flat_at l k hlt).2)
        have hd0 : wr.cell? ⟨b', o' + k * 2, none⟩ = some (.int .i64 m[k].1) := (hb.cell (p := ⟨b', _, none⟩) hbl').trans (hc' _ _ (flat_at m k hltm).1)
        have hd1 : wr.cell? ⟨b', o' + k * 2 + 1, none⟩ = some (.int .i64 m[k].2) := (hb.cell (p := ⟨b', _, none⟩) hbl').trans (hc' _ _ (flat_at m k hltm).2)
        have hs : w.heap.size ≤ wr.heap.size := hb.size
        clear hr hr' hc hc'
        have HT := Lib.hid (take_step hlt hltm heq)
        have HN := Lib.hid (fun (h : l = m) => (show l[k].1 = m[k].1 ∧ l[k].2 = m[k].2 by subst h; exact ⟨rfl, rfl⟩))
        clear heq
        generalize l[k].1 = x at *
        generalize l[k].2 = y at *
        generalize m[k].1 = x' at *
        generalize m[k].2 = y' at *
        go_wp2_with fail
        go_still_tail 8, (by kernel_rfl)
        change wpList _ _ _ _ _ wr.drew
        have hb2 : Below w.heap.size w wr.drew := hb.drew
        have hs2 : w.heap.size ≤ wr.drew.heap.size := hs
        generalize wr.drew = w2 at *
        clear hc0 hc1 hd0 hd1 hb
        go_wp2_with fail
        by_cases hxy : x = x' ∧ y = y'
        · refine (eqCell_any _ _ _ _ _).mono ?_; rintro e w3 ⟨rfl, b3⟩
          rw [show decide (x = x' ∧ y = y') = true by simpa using hxy]
          have HX := Lib.hid hxy
          clear hxy
          go_wp2
          go_roundw
          case rel => exact ⟨k + 1, by omega, by go_num, HT.out HX.out.1 HX.out.2, by (repeat' (first | (with_reducible exact Below.refl _ _) | (with_reducible assumption) | (with_reducible refine Below.alloc ?_ ?_ _) | (with_reducible refine Below.setCell ?_ ?_ _) | (with_reducible refine Below.drew ?_) | (with_reducible refine below_drewN ?_ _) | (with_reducible refine Below.trans ?_ (Below.mono (by assumption) ?_)) | (with_reducible exact Nat.le_refl _) | (simp; done) | omega | (simp at *; omega)))⟩
          case measure => simp [intOf]; omega
        · refine (eqCell_any _ _ _ _ _).mono ?_; rintro e w3 ⟨rfl, b3⟩
          rw [show decide (x = x' ∧ y = y') = false by simpa using hxy]
          have HX := Lib.hid hxy
          clear hxy
          go_wp2
          go_returns
          exact ⟨ret_bool (decide_eq_false (fun h => HX.out (HN.out h))).symm, by (repeat' (first | (with_reducible exact Below.refl _ _) | (with_reducible assumption) | (with_reducible refine Below.alloc ?_ ?_ _) | (with_reducible refine Below.setCell ?_ ?_ _) | (with_reducible refine Below.drew ?_) | (with_reducible refine below_drewN ?_ _) | (with_reducible refine Below.trans ?_ (Below.mono (by assumption) ?_)) | (with_reducible exact Nat.le_refl _) | (simp; done) | omega | (simp at *; omega)))⟩
      · obtain rfl : k = l.length := by omega
        rw [List.take_length, HL.out, List.take_length] at heq
        have HQ := Lib.hid heq
        clear heq
        go_wp2
        go_returns
        exact ⟨ret_bool (decide_eq_true HQ.out).symm, hb⟩
  · have hlb : ((l.length : Int) != (m.length : Int)) = true := by simp; omega
    go_enter Try.func60, Try.ntmps60
    go_wp2
    go_returns
    exact ⟨ret_bool (by simp; intro h; exact hlm (by rw [h])), by (repeat' (first | (with_reducible exact Below.refl _ _) | (with_reducible assumption) | (with_reducible refine Below.alloc ?_ ?_ _) | (with_reducible refine Below.setCell ?_ ?_ _) | (with_reducible refine Below.drew ?_) | (with_reducible refine below_drewN ?_ _) | (with_reducible refine Below.trans ?_ (Below.mono (by assumption) ?_)) | (with_reducible exact Nat.le_refl _) | (simp; done) | omega | (simp at *; omega)))⟩
end Go.Proofs.Ytlambflmabecfaa
