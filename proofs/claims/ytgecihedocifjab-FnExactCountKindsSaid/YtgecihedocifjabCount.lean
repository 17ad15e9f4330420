/- CountKinds, program and model. -/
import Derived.Test.YtgecihedocifjabList4
namespace Go.Proofs.Ytgecihedocifjab
open Go.ChangeShapes Go.WideShapes Go.ChangeAt Go.RowKit Go.Joins Go.Deep
set_option linter.unusedSimpArgs false
set_option linter.unusedVariables false
set_option maxRecDepth 100000
set_option maxHeartbeats 400000
def cntK (l : List (Int × Int)) (j : Nat) : Int := ((l.filter fun c => c.1 == (j : Int)).length : Nat)
def counts (l : List (Int × Int)) : List Int := (List.range 8).map (cntK l)
theorem counts_len (l : List (Int × Int)) : (counts l).length = 8 := by simp [counts]
theorem cntK_le (l : List (Int × Int)) (j : Nat) : 0 ≤ cntK l j ∧ cntK l j ≤ l.length := by
  unfold cntK
  have := List.length_filter_le (fun c : Int × Int => c.1 == (j : Int)) l
  omega
theorem counts_at (l : List (Int × Int)) (j : Nat) (h : j < 8) : (ints (counts l))[j]? = some (.int .i64 (cntK l j)) := by
  simp [ints, counts, h]
theorem counts_nil : ints (counts []) = zrow 8 := rfl
theorem counts_step (l : List (Int × Int)) (k q : Nat) (h : k < l.length) (hq : l[k].1 = (q : Int)) (h8 : q < 8) : (ints (counts (l.take k))).set q (.int .i64 (cntK (l.take k) q + 1)) = ints (counts (l.take (k + 1))) := by
  apply List.ext_getElem?
  intro i
  rw [List.getElem?_set]
  by_cases hi : i < 8
  · rw [counts_at _ i hi]
    have e : cntK (l.take (k + 1)) i = cntK (l.take k) i + if q = i then 1 else 0 := by
      unfold cntK
      rw [List.take_succ_eq_append_getElem h, List.filter_append]
      by_cases hqi : q = i
      · subst hqi; simp [List.filter_cons, hq]
      · have : ¬ ((q : Int) == (i : Int)) = true := by simp; omega
        simp [List.filter_cons, hq, hqi, this]
    by_cases hqi : q = i
    · subst hqi
      rw [if_pos rfl, if_pos (by simp [ints, counts_len, h8]), counts_at _ q hi, e, if_pos rfl]
    · rw [if_neg hqi, counts_at _ i hi, e, if_neg hqi, Int.add_zero]
  · have n1 : (ints (counts (l.take (k + 1))))[i]? = none := by simp [ints, counts_len]; omega
    have n2 : (ints (counts (l.take k)))[i]? = none := by simp [ints, counts_len]; omega
    rw [n1, n2]
    split
    · rw [if_neg (by simp [ints, counts_len]; omega)]
    · rfl
theorem good_kind {a b : Int} (h : good a b = true) : 0 ≤ a ∧ a ≤ 7 := by unfold good at h; simp at h; omega
theorem goodL_at {l : List (Int × Int)} (h : goodL l = true) {k : Nat} (hk : k < l.length) : ∃ q : Nat, l[k].1 = (q : Int) ∧ q < 8 := by
  unfold goodL at h
  rw [Bool.and_eq_true, List.all_eq_true] at h
  have := good_kind (h.2 _ (List.getElem_mem hk))
  exact ⟨(l[k].1).toNat, by omega, by omega⟩
def countsOr (l : List (Int × Int)) : List Int := if goodL l then counts l else []
theorem countsOr_len (l : List (Int × Int)) : (countsOr l).length ≤ 1048576 := by unfold countsOr; split <;> simp [counts_len]
theorem spec_CountKinds (A : Option Addr) (cap : Nat) (l : List (Int × Int)) (w : World) (hn : l.length ≤ 1048576) (hr : Rd w w.heap.size A (flat l)) :
    Calls Try.prog 39 #[.slice A l.length cap] w fun e w' => ∃ A' cap', e = .returned (.tuple #[.slice A' (countsOr l).length cap', .bool (goodL l)]) ∧ Own w' A' 3 (ints (countsOr l)) ∧ New w A' ∧ Below w.heap.size w w' := by
  rcases Bool.eq_false_or_eq_true (goodL l) with hg | hg
  · have hmk := fun w => (show (Instr.makeSlice 48 (.int .i64 8) (.int .i64 8)).run Try.prog w = .ok (.slice (some ⟨w.heap.size, 0, none⟩) 8 8) (w.alloc (.cells (zrow 8).toArray 3)) from run_make_ints 8 (by omega) w)
    have h90 : l.length ≤ 90 := by unfold goodL at hg; simp at hg; exact hg.1
    have HG := Lib.hid hg
    have HK := Lib.hid (fun k hk => goodL_at (l := l) hg (k := k) hk)
    go_enter Try.func39, Try.ntmps39
    go_wp2_with fail
    refine (spec_paList _ _ _ _ hn hr).mono ?_; rintro e w1 ⟨rfl, b1⟩
    rw [hg]
    clear hg
    have hr1 := hr.below b1
    have hs1 := b1.size
    clear hr
    go_wp2
    go_loopw [13] (fun i wr => ∃ k : Nat, k ≤ l.length ∧ i = .int .i64 k ∧ Whole wr w1.heap.size 3 (ints (counts (l.take k))) ∧ Below w1.heap.size w1 wr) (fun i _ => l.length - (intOf i).toNat)
    case atStart => exact ⟨0, Nat.zero_le _, rfl, by rw [List.take_zero, counts_nil]; exact heap_alloc_new w1 _, by (repeat' (first | (with_reducible exact Below.refl _ _) | (with_reducible assumption) | (with_reducible refine Below.alloc ?_ ?_ _) | (with_reducible refine Below.setCell ?_ ?_ _) | (with_reducible refine Below.drew ?_) | (with_reducible refine below_drewN ?_ _) | (with_reducible refine Below.trans ?_ (Below.mono (by assumption) ?_)) | (with_reducible exact Nat.le_refl _) | (simp; done) | omega | (simp at *; omega)))⟩
    case round =>
      obtain ⟨k, hk, rfl, hw, hb⟩ := hrel
      by_cases hlt : k < l.length
      · obtain ⟨b, o, rfl, hbl, hc⟩ := hr1 (by rw [flat_length]; omega)
        obtain ⟨q, hq, hq8⟩ := HK.out k hlt
        have hbl1 : b < w1.heap.size := Nat.lt_of_lt_of_le hbl hs1
        have hc0 : wr.cell? ⟨b, o + k * 2, none⟩ = some (.int .i64 l[k].1) := (hb.cell (p := ⟨b, _, none⟩) hbl1).trans (hc _ _ (flat_at l k hlt).1)
        have hc1 : wr.cell? ⟨b, o + k * 2 + 1, none⟩ = some (.int .i64 l[k].2) := (hb.cell (p := ⟨b, _, none⟩) hbl1).trans (hc _ _ (flat_at l k hlt).2)
        rw [hq] at hc0
        have HS := Lib.hid (counts_step l k q hlt hq hq8)
        have hs : w1.heap.size < wr.heap.size := hw.lt
        have hv := (hw.cell q).trans (counts_at _ q hq8)
        have hf := hw.frozen q
        have hle := cntK_le (l.take k) q
        have hlen : (l.take k).length ≤ 90 := by rw [List.length_take]; omega
        generalize cntK (l.take k) q = c at *
        generalize l[k].2 = y at *
        clear hc hq hr1
        go_wp2
        go_roundw
        case rel => exact ⟨k + 1, by omega, by go_num, by rw [← HS.out]; exact (hw.set _ _).alloc _, by (repeat' (first | (with_reducible exact Below.refl _ _) | (with_reducible assumption) | (with_reducible refine Below.alloc ?_ ?_ _) | (with_reducible refine Below.setCell ?_ ?_ _) | (with_reducible refine Below.drew ?_) | (with_reducible refine below_drewN ?_ _) | (with_reducible refine Below.trans ?_ (Below.mono (by assumption) ?_)) | (with_reducible exact Nat.le_refl _) | (simp; done) | omega | (simp at *; omega)))⟩
        case measure => simp [intOf]; omega
      · obtain rfl : k = l.length := by omega
        rw [List.take_length] at hw
        go_wp2
        go_returns
        refine ⟨some ⟨w1.heap.size, 0, none⟩, 8, ret_eq ?_, ?_, ?_, ?_⟩
        · simp [countsOr, HG.out, counts_len]
        · simp only [countsOr, HG.out, if_true]; exact hw.own
        · intro a ha; cases ha; exact hs1
        · exact b1.trans (hb.mono hs1)
  · have HG := Lib.hid hg
    go_enter Try.func39, Try.ntmps39
    go_wp2_with fail
    refine (spec_paList _ _ _ _ hn hr).mono ?_; rintro e w1 ⟨rfl, b1⟩
    rw [hg]
    clear hg
    go_wp2
    go_returns
    exact ⟨none, 0, ret_eq (by simp [countsOr, HG.out]), by simp only [countsOr, HG.out]; exact Own.none_, New.none_, b1⟩
theorem impl_CountKinds (A : Option Addr) (cap : Nat) (l : List (Int × Int)) (w : World) (hn : l.length ≤ 1048576) (hr : Rd w w.heap.size A (flat l)) :
    Calls Try.prog 40 #[.slice A l.length cap] w fun e w' => ∃ A' cap', e = .returned (.tuple #[.slice A' (countsOr l).length cap', .bool (goodL l)]) ∧ Own w' A' 3 (ints (countsOr l)) ∧ New w A' ∧ Below w.heap.size w w' := by
  rcases Bool.eq_false_or_eq_true (goodL l) with hg | hg
  · have hmk := fun w => (show (Instr.makeSlice 48 (.int .i64 8) (.int .i64 8)).run Try.prog w = .ok (.slice (some ⟨w.heap.size, 0, none⟩) 8 8) (w.alloc (.cells (zrow 8).toArray 3)) from run_make_ints 8 (by omega) w)
    have h90 : l.length ≤ 90 := by unfold goodL at hg; simp at hg; exact hg.1
    have HG := Lib.hid hg
    have HK := Lib.hid (fun k hk => goodL_at (l := l) hg (k := k) hk)
    go_enter Try.func40, Try.ntmps40
    go_wp2_with fail
    refine (impl_areCells _ _ _ _ hn hr).mono ?_; rintro e w1 ⟨rfl, b1⟩
    rw [hg]
    clear hg
    have hr1 := hr.below b1
    have hs1 := b1.size
    clear hr
    go_wp2
    go_loopw [13] (fun i wr => ∃ k : Nat, k ≤ l.length ∧ i = .int .i64 k ∧ Whole wr w1.heap.size 3 (ints (counts (l.take k))) ∧ Below w1.heap.size w1 wr) (fun i _ => l.length - (intOf i).toNat)
    case atStart => exact ⟨0, Nat.zero_le _, rfl, by rw [List.take_zero, counts_nil]; exact heap_alloc_new w1 _, by (repeat' (first | (with_reducible exact Below.refl _ _) | (with_reducible assumption) | (with_reducible refine Below.alloc ?_ ?_ _) | (with_reducible refine Below.setCell ?_ ?_ _) | (with_reducible refine Below.drew ?_) | (with_reducible refine below_drewN ?_ _) | (with_reducible refine Below.trans ?_ (Below.mono (by assumption) ?_)) | (with_reducible exact Nat.le_refl _) | (simp; done) | omega | (simp at *; omega)))⟩
    case round =>
      obtain ⟨k, hk, rfl, hw, hb⟩ := hrel
      by_cases hlt : k < l.length
      · obtain ⟨b, o, rfl, hbl, hc⟩ := hr1 (by rw [flat_length]; omega)
        obtain ⟨q, hq, hq8⟩ := HK.out k hlt
        have hbl1 : b < w1.heap.size := Nat.lt_of_lt_of_le hbl hs1
        have hc0 : wr.cell? ⟨b, o + k * 2, none⟩ = some (.int .i64 l[k].1) := (hb.cell (p := ⟨b, _, none⟩) hbl1).trans (hc _ _ (flat_at l k hlt).1)
        have hc1 : wr.cell? ⟨b, o + k * 2 + 1, none⟩ = some (.int .i64 l[k].2) := (hb.cell (p := ⟨b, _, none⟩) hbl1).trans (hc _ _ (flat_at l k hlt).2)
        rw [hq] at hc0
        have HS := Lib.hid (counts_step l k q hlt hq hq8)
        have hs : w1.heap.size < wr.heap.size := hw.lt
        have hv := (hw.cell q).trans (counts_at _ q hq8)
        have hf := hw.frozen q
        have hle := cntK_le (l.take k) q
        have hlen : (l.take k).length ≤ 90 := by rw [List.length_take]; omega
        generalize cntK (l.take k) q = c at *
        generalize l[k].2 = y at *
        clear hc hq hr1
        go_wp2
        go_roundw
        case rel => exact ⟨k + 1, by omega, by go_num, by rw [← HS.out]; exact (hw.set _ _).alloc _, by (repeat' (first | (with_reducible exact Below.refl _ _) | (with_reducible assumption) | (with_reducible refine Below.alloc ?_ ?_ _) | (with_reducible refine Below.setCell ?_ ?_ _) | (with_reducible refine Below.drew ?_) | (with_reducible refine below_drewN ?_ _) | (with_reducible refine Below.trans ?_ (Below.mono (by assumption) ?_)) | (with_reducible exact Nat.le_refl _) | (simp; done) | omega | (simp at *; omega)))⟩
        case measure => simp [intOf]; omega
      · obtain rfl : k = l.length := by omega
        rw [List.take_length] at hw
        go_wp2
        go_returns
        refine ⟨some ⟨w1.heap.size, 0, none⟩, 8, ret_eq ?_, ?_, ?_, ?_⟩
        · simp [countsOr, HG.out, counts_len]
        · simp only [countsOr, HG.out, if_true]; exact hw.own
        · intro a ha; cases ha; exact hs1
        · exact b1.trans (hb.mono hs1)
  · have HG := Lib.hid hg
    go_enter Try.func40, Try.ntmps40
    go_wp2_with fail
    refine (impl_areCells _ _ _ _ hn hr).mono ?_; rintro e w1 ⟨rfl, b1⟩
    rw [hg]
    clear hg
    go_wp2
    go_returns
    exact ⟨none, 0, ret_eq (by simp [countsOr, HG.out]), by simp only [countsOr, HG.out]; exact Own.none_, New.none_, b1⟩
end Go.Proofs.Ytgecihedocifjab
