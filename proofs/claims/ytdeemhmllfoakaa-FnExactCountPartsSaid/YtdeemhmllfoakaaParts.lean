/- CountParts, program and model. -/
import Derived.Test.YtdeemhmllfoakaaCount
import Derived.Test.YtdeemhmllfoakaaMark
import Derived.Test.YtdeemhmllfoakaaRows2
namespace Go.Proofs.Ytdeemhmllfoakaa
open Go.ChangeShapes Go.WideShapes Go.ChangeAt Go.RowKit Go.Joins Go.Deep
set_option linter.unusedSimpArgs false
set_option linter.unusedVariables false
set_option maxRecDepth 100000
set_option maxHeartbeats 400000
def countsB (R C : Int) (l : List (Int × Int)) : List Int := if goodB R C l then counts l else []
theorem countsB_len (R C : Int) (l : List (Int × Int)) : (countsB R C l).length ≤ 1048576 := by unfold countsB; split <;> simp [counts_len]
theorem spec_boParts (R C : Int) (A : Option Addr) (cap : Nat) (l : List (Int × Int)) (w : World) (hg : goodL l = true) (hr : Rd w w.heap.size A (flat l)) :
    Calls Try.prog 68 #[.agg #[.int .i64 R, .int .i64 C, .slice A l.length cap]] w (PostI w (counts l)) := by
  have hmk := fun w => (show (Instr.makeSlice 46 (.int .i64 8) (.int .i64 8)).run Try.prog w = .ok (.slice (some ⟨w.heap.size, 0, none⟩) 8 8) (w.alloc (.cells (zrow 8).toArray 3)) from run_make_ints 8 (by omega) w)
  have h90 : l.length ≤ 90 := by unfold goodL at hg; simp at hg; exact hg.1
  have HK := Lib.hid (fun k hk => goodL_at (l := l) hg (k := k) hk)
  clear hg
  go_enter Try.func68, Try.ntmps68
  go_wp2
  go_loopw [10] (fun i wr => ∃ k : Nat, k ≤ l.length ∧ i = .int .i64 k ∧ Whole wr (w.heap.size + 1) 3 (ints (counts (l.take k))) ∧ Below w.heap.size w wr) (fun i _ => l.length - (intOf i).toNat)
  case atStart => exact ⟨0, Nat.zero_le _, rfl, by rw [List.take_zero, counts_nil]; have h := heap_alloc_new (w.alloc (.cells #[.int .i64 R, .int .i64 C, .slice A l.length cap] 29)) (.cells (zrow 8).toArray 3); rw [World.size_alloc] at h; exact h, by (repeat' (first | (with_reducible exact Below.refl _ _) | (with_reducible assumption) | (with_reducible refine Below.alloc ?_ ?_ _) | (with_reducible refine Below.setCell ?_ ?_ _) | (with_reducible refine Below.drew ?_) | (with_reducible refine below_drewN ?_ _) | (with_reducible refine Below.trans ?_ (Below.mono (by assumption) ?_)) | (with_reducible exact Nat.le_refl _) | (simp; done) | omega | (simp at *; omega)))⟩
  case round =>
    obtain ⟨k, hk, rfl, hw, hb⟩ := hrel
    by_cases hlt : k < l.length
    · obtain ⟨b, o, rfl, hbl, hc⟩ := hr (by rw [flat_length]; omega)
      obtain ⟨q, hq, hq8⟩ := HK.out k hlt
      have hc0 : wr.cell? ⟨b, o + k * 2, none⟩ = some (.int .i64 l[k].1) := (hb.cell (p := ⟨b, _, none⟩) hbl).trans (hc _ _ (flat_at l k hlt).1)
      have hc1 : wr.cell? ⟨b, o + k * 2 + 1, none⟩ = some (.int .i64 l[k].2) := (hb.cell (p := ⟨b, _, none⟩) hbl).trans (hc _ _ (flat_at l k hlt).2)
      rw [hq] at hc0
      have HS := Lib.hid (counts_step l k q hlt hq hq8)
      have hs : w.heap.size + 1 < wr.heap.size := hw.lt
      have hv := (hw.cell q).trans (counts_at _ q hq8)
      have hf := hw.frozen q
      have hle := cntK_le (l.take k) q
      have hlen : (l.take k).length ≤ 90 := by rw [List.length_take]; omega
      generalize cntK (l.take k) q = c at *
      generalize l[k].2 = y at *
      clear hc hq hr
      go_wp2
      go_roundw
      case rel => exact ⟨k + 1, by omega, by go_num, by rw [← HS.out]; exact (hw.set _ _).alloc _, by (repeat' (first | (with_reducible exact Below.refl _ _) | (with_reducible assumption) | (with_reducible refine Below.alloc ?_ ?_ _) | (with_reducible refine Below.setCell ?_ ?_ _) | (with_reducible refine Below.drew ?_) | (with_reducible refine below_drewN ?_ _) | (with_reducible refine Below.trans ?_ (Below.mono (by assumption) ?_)) | (with_reducible exact Nat.le_refl _) | (simp; done) | omega | (simp at *; omega)))⟩
      case measure => simp [intOf]; omega
    · obtain rfl : k = l.length := by omega
      rw [List.take_length] at hw
      go_wp2
      go_returns
      exact PostI.mk (l := counts l) (A' := some ⟨w.heap.size + 1, 0, none⟩) (cap' := 8) hw.own (fun a ha => by cases ha; simp) hb
theorem spec_CountParts (R C : Int) (A : Option Addr) (cap : Nat) (l : List (Int × Int)) (w : World) (hn : l.length ≤ 1048576) (hr : Rd w w.heap.size A (flat l)) :
    Calls Try.prog 30 #[.agg #[.int .i64 R, .int .i64 C, .slice A l.length cap]] w (PostL w (countsB R C l) (goodB R C l)) := by
  unfold countsB
  rcases Bool.eq_false_or_eq_true (goodB R C l) with hg | hg
  · have hp := (goodB_parts hg).1
    have HG := Lib.hid hg
    have HP := Lib.hid hp
    rw [hg]
    clear hg hp
    go_enter Try.func30, Try.ntmps30
    go_wp2_with fail
    refine (spec_boGood _ _ _ _ l _ hn ((hr.below (by (repeat' (first | (with_reducible exact Below.refl _ _) | (with_reducible assumption) | (with_reducible refine Below.alloc ?_ ?_ _) | (with_reducible refine Below.setCell ?_ ?_ _) | (with_reducible refine Below.drew ?_) | (with_reducible refine below_drewN ?_ _) | (with_reducible refine Below.trans ?_ (Below.mono (by assumption) ?_)) | (with_reducible exact Nat.le_refl _) | (simp; done) | omega | (simp at *; omega))) : Below w.heap.size w _)).mono (by go_size))).mono ?_; rintro e w1 ⟨rfl, b1⟩
    rw [HG.out]
    obtain ⟨c1, f1⟩ := bcell b1
    have z1 : w.heap.size < w1.heap.size := by have := b1.size; simp at this; omega
    have B1 : Below w.heap.size w w1 := by (repeat' (first | (with_reducible exact Below.refl _ _) | (with_reducible assumption) | (with_reducible refine Below.alloc ?_ ?_ _) | (with_reducible refine Below.setCell ?_ ?_ _) | (with_reducible refine Below.drew ?_) | (with_reducible refine below_drewN ?_ _) | (with_reducible refine Below.trans ?_ (Below.mono (by assumption) ?_)) | (with_reducible exact Nat.le_refl _) | (simp; done) | omega | (simp at *; omega)))
    go_wp2_with fail
    refine (spec_boParts _ _ _ _ l _ HP.out ((hr.below B1).mono B1.size)).mono ?_; rintro e w2 ⟨A', cap', rfl, o2, n2, b2⟩
    go_wp2
    go_returns
    exact PostL.mk o2 (n2.mono B1.size) (B1.trans (b2.mono B1.size))
  · have HG := Lib.hid hg
    rw [hg]
    clear hg
    go_enter Try.func30, Try.ntmps30
    go_wp2_with fail
    refine (spec_boGood _ _ _ _ l _ hn ((hr.below (by (repeat' (first | (with_reducible exact Below.refl _ _) | (with_reducible assumption) | (with_reducible refine Below.alloc ?_ ?_ _) | (with_reducible refine Below.setCell ?_ ?_ _) | (with_reducible refine Below.drew ?_) | (with_reducible refine below_drewN ?_ _) | (with_reducible refine Below.trans ?_ (Below.mono (by assumption) ?_)) | (with_reducible exact Nat.le_refl _) | (simp; done) | omega | (simp at *; omega))) : Below w.heap.size w _)).mono (by go_size))).mono ?_; rintro e w1 ⟨rfl, b1⟩
    rw [HG.out]
    have B1 : Below w.heap.size w w1 := by (repeat' (first | (with_reducible exact Below.refl _ _) | (with_reducible assumption) | (with_reducible refine Below.alloc ?_ ?_ _) | (with_reducible refine Below.setCell ?_ ?_ _) | (with_reducible refine Below.drew ?_) | (with_reducible refine below_drewN ?_ _) | (with_reducible refine Below.trans ?_ (Below.mono (by assumption) ?_)) | (with_reducible exact Nat.le_refl _) | (simp; done) | omega | (simp at *; omega)))
    go_wp2
    go_returns
    exact PostL.none_ B1
theorem impl_CountParts (R C : Int) (A : Option Addr) (cap : Nat) (l : List (Int × Int)) (w : World) (hn : l.length ≤ 1048576) (hr : Rd w w.heap.size A (flat l)) :
    Calls Try.prog 31 #[.agg #[.int .i64 R, .int .i64 C, .slice A l.length cap]] w (PostL w (countsB R C l) (goodB R C l)) := by
  unfold countsB
  rcases Bool.eq_false_or_eq_true (goodB R C l) with hg | hg
  · have hp := (goodB_parts hg).1
    have e : countsOr l = counts l := by unfold countsOr; rw [hp]; rfl
    have HG := Lib.hid hg
    have HP := Lib.hid hp
    have HE := Lib.hid e
    rw [hg]
    clear hg hp e
    go_enter Try.func31, Try.ntmps31
    go_wp2_with fail
    refine (impl_IsBoard _ _ _ _ l _ hn ((hr.below (by (repeat' (first | (with_reducible exact Below.refl _ _) | (with_reducible assumption) | (with_reducible refine Below.alloc ?_ ?_ _) | (with_reducible refine Below.setCell ?_ ?_ _) | (with_reducible refine Below.drew ?_) | (with_reducible refine below_drewN ?_ _) | (with_reducible refine Below.trans ?_ (Below.mono (by assumption) ?_)) | (with_reducible exact Nat.le_refl _) | (simp; done) | omega | (simp at *; omega))) : Below w.heap.size w _)).mono (by go_size))).mono ?_; rintro e w1 ⟨rfl, b1⟩
    rw [HG.out]
    obtain ⟨c1, f1⟩ := bcell b1
    have z1 : w.heap.size < w1.heap.size := by have := b1.size; simp at this; omega
    have B1 : Below w.heap.size w w1 := by (repeat' (first | (with_reducible exact Below.refl _ _) | (with_reducible assumption) | (with_reducible refine Below.alloc ?_ ?_ _) | (with_reducible refine Below.setCell ?_ ?_ _) | (with_reducible refine Below.drew ?_) | (with_reducible refine below_drewN ?_ _) | (with_reducible refine Below.trans ?_ (Below.mono (by assumption) ?_)) | (with_reducible exact Nat.le_refl _) | (simp; done) | omega | (simp at *; omega)))
    go_wp2_with fail
    refine (impl_CountKinds _ _ l _ hn ((hr.below B1).mono B1.size)).mono ?_; rintro e w2 ⟨A', cap', rfl, o2, n2, b2⟩
    rw [HE.out] at o2
    rw [HE.out, HP.out]
    go_wp2
    go_returns
    exact PostL.mk o2 (n2.mono B1.size) (B1.trans (b2.mono B1.size))
  · have HG := Lib.hid hg
    rw [hg]
    clear hg
    go_enter Try.func31, Try.ntmps31
    go_wp2_with fail
    refine (impl_IsBoard _ _ _ _ l _ hn ((hr.below (by (repeat' (first | (with_reducible exact Below.refl _ _) | (with_reducible assumption) | (with_reducible refine Below.alloc ?_ ?_ _) | (with_reducible refine Below.setCell ?_ ?_ _) | (with_reducible refine Below.drew ?_) | (with_reducible refine below_drewN ?_ _) | (with_reducible refine Below.trans ?_ (Below.mono (by assumption) ?_)) | (with_reducible exact Nat.le_refl _) | (simp; done) | omega | (simp at *; omega))) : Below w.heap.size w _)).mono (by go_size))).mono ?_; rintro e w1 ⟨rfl, b1⟩
    rw [HG.out]
    have B1 : Below w.heap.size w w1 := by (repeat' (first | (with_reducible exact Below.refl _ _) | (with_reducible assumption) | (with_reducible refine Below.alloc ?_ ?_ _) | (with_reducible refine Below.setCell ?_ ?_ _) | (with_reducible refine Below.drew ?_) | (with_reducible refine below_drewN ?_ _) | (with_reducible refine Below.trans ?_ (Below.mono (by assumption) ?_)) | (with_reducible exact Nat.le_refl _) | (simp; done) | omega | (simp at *; omega)))
    go_wp2
    go_returns
    exact PostL.none_ B1
end Go.Proofs.Ytdeemhmllfoakaa
