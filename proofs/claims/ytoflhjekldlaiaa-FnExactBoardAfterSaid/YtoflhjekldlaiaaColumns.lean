/- l1All, flColumns, the model's. -/
import Derived.Test.YtoflhjekldlaiaaRun
namespace Go.Proofs.Ytoflhjekldlaiaa
open Go.ChangeShapes Go.WideShapes Go.ChangeAt Go.RowKit Go.Joins Go.Deep
set_option linter.unusedSimpArgs false
set_option linter.unusedVariables false
set_option maxRecDepth 100000
set_option maxHeartbeats 2000000
def inI (lo hi n : Int) : Bool := decide (lo ≤ n) && decide (n ≤ hi)
def allI (lo hi : Int) (cs : List Int) : Bool := cs.all (inI lo hi)
theorem allI_bad {lo hi : Int} {cs : List Int} {k : Nat} (hk : k < cs.length) (h : inI lo hi cs[k] = false) : allI lo hi cs = false := by
  unfold allI
  rw [List.all_eq_false]
  exact ⟨cs[k], List.getElem_mem _, by rw [h]; simp⟩
theorem spec_l1All (A : Option Addr) (cap : Nat) (cs : List Int) (lo hi : Int) (w : World) (hn : cs.length ≤ 1048576) (hr : Rd w w.heap.size A (ints cs)) :
    Calls Try.prog 85 #[.slice A cs.length cap, .int .i64 lo, .int .i64 hi] w fun e w' => e = .returned (.bool (allI lo hi cs)) ∧ w = w' := by
  have HB := Lib.hid (fun k (hk : k < cs.length) h => allI_bad (lo := lo) (hi := hi) hk h)
  have HAl := Lib.hid (fun (h : ∀ k (hk : k < cs.length), inI lo hi cs[k] = true) => (show allI lo hi cs = true from by
    unfold allI
    rw [List.all_eq_true]
    intro x hx
    obtain ⟨k, hk, rfl⟩ := List.mem_iff_getElem.1 hx
    exact h k hk))
  go_enter Try.func85, Try.ntmps85
  go_wp2
  go_loopw [11] (fun i wr => ∃ k : Nat, i = .int .i64 k ∧ k ≤ cs.length ∧ (∀ j (hj : j < cs.length), j < k → inI lo hi cs[j] = true) ∧ w = wr) (fun i _ => cs.length - (intOf i).toNat)
  case atStart => exact ⟨0, rfl, Nat.zero_le _, fun j _ h => absurd h (Nat.not_lt_zero j), rfl⟩
  case round =>
    obtain ⟨k, rfl, hk, hall, rfl⟩ := hrel
    by_cases hlt : k < cs.length
    · obtain ⟨b, o, rfl, hbl, hc⟩ := hr (by rw [ints_length]; omega)
      have hck := hc k _ (ints_at cs k hlt)
      have HBk := Lib.hid (HB.out k hlt)
      have hall' : inI lo hi cs[k] = true → ∀ j (hj : j < cs.length), j < k + 1 → inI lo hi cs[j] = true := fun h j hj hjk => by
        rcases Nat.lt_or_eq_of_le (Nat.lt_succ_iff.1 hjk) with h1 | rfl
        · exact hall j hj h1
        · exact h
      have HAk := Lib.hid hall'
      have HI := Lib.hid (show inI lo hi cs[k] = (decide (lo ≤ cs[k]) && decide (cs[k] ≤ hi)) from rfl)
      clear hall hall' hc
      generalize hx : cs[k] = x at *
      go_wp2_with fail
      refine (spec_l1In _ _ _ _).mono ?_; rintro e w1 ⟨rfl, rfl⟩
      rewrite [← HI.out]
      rcases Bool.eq_false_or_eq_true (inI lo hi x) with h | h
      · rewrite [h]
        have HA2 := Lib.hid (HAk.out h)
        clear h
        go_wp2
        go_roundw
        case rel => exact ⟨k + 1, by go_num, by omega, HA2.out, by first | rfl | trivial⟩
        case measure => simp [intOf]; omega
      · rewrite [h]
        have HB2 := Lib.hid (HBk.out h)
        clear h
        go_wp2
        go_returns
        exact ⟨by rw [HB2.out]; rfl, rfl⟩
    · obtain rfl : k = cs.length := by omega
      have HA2 := Lib.hid (HAl.out (fun j hj => hall j hj hj))
      clear hall
      go_wp2
      go_returns
      exact ⟨by rw [HA2.out]; rfl, rfl⟩
def okC' (R C : Int) (l : List (Int × Int)) (cs : List Int) : Bool := goodB R C l && decide (cs.length ≤ 60) && allI 0 (C - 1) cs
theorem spec_flColumns (R C : Int) (A : Option Addr) (cap : Nat) (l : List (Int × Int)) (A' : Option Addr) (cap' : Nat) (cs : List Int) (w : World) (hn : l.length ≤ 1048576) (hn' : cs.length ≤ 1048576) (hr : Rd w w.heap.size A (flat l)) (hr' : Rd w w.heap.size A' (ints cs)) :
    Calls Try.prog 64 #[.agg #[.int .i64 R, .int .i64 C, .slice A l.length cap], .slice A' cs.length cap'] w fun e w' => e = .returned (.bool (okC' R C l cs)) ∧ Below w.heap.size w w' := by
  unfold okC'
  rcases Bool.eq_false_or_eq_true (goodB R C l) with hg | hg
  · have HG := Lib.hid hg
    obtain ⟨s1, s2, s3, s4⟩ := sizeB_iff.1 (goodB_iff.1 hg).1
    rw [hg]
    clear hg
    have m1 : IntKind.i64.wrap (C - 1) = C - 1 := IntWalk.i64_in _ (by omega)
    by_cases h60 : cs.length ≤ 60
    · have hd : decide ((cs.length : Int) ≤ 60) = true := by simp; omega
      have HE := Lib.hid (show (true && decide (cs.length ≤ 60) && allI 0 (C - 1) cs) = allI 0 (C - 1) cs by rw [decide_eq_true h60]; rfl)
      go_enter Try.func64, Try.ntmps64
      obtain ⟨v0, hv0⟩ : ∃ v, v = w.alloc (.cells #[.int .i64 R, .int .i64 C, .slice A l.length cap] 32) := ⟨_, rfl⟩; have X0 : Whole v0 w.heap.size 32 [.int .i64 R, .int .i64 C, .slice A l.length cap] := (by rw [hv0]; exact heap_alloc_new w _); have hb : Below w.heap.size w v0 := (by rw [hv0]; exact (Below.refl _ _).alloc (Nat.le_refl _) _); have HV := Lib.hid hv0.symm; clear hv0; go_upto_region 1 with (fail); rewrite [HV.out]; clear HV; have X0k0 : v0.cell? ⟨w.heap.size, 0, none⟩ = some (.int .i64 R) := (X0.cell 0).trans rfl; have X0k1 : v0.cell? ⟨w.heap.size, 1, none⟩ = some (.int .i64 C) := (X0.cell 1).trans rfl; have X0k2 : v0.cell? ⟨w.heap.size, 2, none⟩ = some (.slice A l.length cap) := (X0.cell 2).trans rfl
      go_wp2_with fail
      refine (spec_boGood _ _ _ _ l _ hn ((hr.below hb).mono hb.size)).mono ?_; rintro e w1 ⟨rfl, b1⟩
      rewrite [HG.out]
      (clear X0k0 X0k1 X0k2; replace X0 := X0.below b1 X0.lt; replace hb := hb.trans (b1.mono hb.size); clear b1; have X0k0 : w1.cell? ⟨w.heap.size, 0, none⟩ = some (.int .i64 R) := (X0.cell 0).trans rfl; have X0k1 : w1.cell? ⟨w.heap.size, 1, none⟩ = some (.int .i64 C) := (X0.cell 1).trans rfl; have X0k2 : w1.cell? ⟨w.heap.size, 2, none⟩ = some (.slice A l.length cap) := (X0.cell 2).trans rfl)
      go_wp2_with fail
      refine (spec_l1All _ _ cs _ _ _ hn' ((hr'.below hb).mono hb.size)).mono ?_; rintro e w2 ⟨rfl, rfl⟩
      go_wp2
      go_returns
      exact ⟨by rw [HE.out]; rfl, by (repeat' (first | (with_reducible exact Below.refl _ _) | (with_reducible assumption) | (with_reducible refine Below.alloc ?_ ?_ _) | (with_reducible refine Below.setCell ?_ ?_ _) | (with_reducible refine Below.drew ?_) | (with_reducible refine below_drewN ?_ _) | (with_reducible refine Below.trans ?_ (Below.mono (by assumption) ?_)) | (with_reducible exact Nat.le_refl _) | (simp; done) | omega | (simp at *; omega)))⟩
    · have hd : decide ((cs.length : Int) ≤ 60) = false := by simp; omega
      have HE := Lib.hid (show (true && decide (cs.length ≤ 60) && allI 0 (C - 1) cs) = false by rw [decide_eq_false h60]; rfl)
      go_enter Try.func64, Try.ntmps64
      obtain ⟨v0, hv0⟩ : ∃ v, v = w.alloc (.cells #[.int .i64 R, .int .i64 C, .slice A l.length cap] 32) := ⟨_, rfl⟩; have X0 : Whole v0 w.heap.size 32 [.int .i64 R, .int .i64 C, .slice A l.length cap] := (by rw [hv0]; exact heap_alloc_new w _); have hb : Below w.heap.size w v0 := (by rw [hv0]; exact (Below.refl _ _).alloc (Nat.le_refl _) _); have HV := Lib.hid hv0.symm; clear hv0; go_upto_region 1 with (fail); rewrite [HV.out]; clear HV; have X0k0 : v0.cell? ⟨w.heap.size, 0, none⟩ = some (.int .i64 R) := (X0.cell 0).trans rfl; have X0k1 : v0.cell? ⟨w.heap.size, 1, none⟩ = some (.int .i64 C) := (X0.cell 1).trans rfl; have X0k2 : v0.cell? ⟨w.heap.size, 2, none⟩ = some (.slice A l.length cap) := (X0.cell 2).trans rfl
      go_wp2_with fail
      refine (spec_boGood _ _ _ _ l _ hn ((hr.below hb).mono hb.size)).mono ?_; rintro e w1 ⟨rfl, b1⟩
      rewrite [HG.out]
      (clear X0k0 X0k1 X0k2; replace X0 := X0.below b1 X0.lt; replace hb := hb.trans (b1.mono hb.size); clear b1; have X0k0 : w1.cell? ⟨w.heap.size, 0, none⟩ = some (.int .i64 R) := (X0.cell 0).trans rfl; have X0k1 : w1.cell? ⟨w.heap.size, 1, none⟩ = some (.int .i64 C) := (X0.cell 1).trans rfl; have X0k2 : w1.cell? ⟨w.heap.size, 2, none⟩ = some (.slice A l.length cap) := (X0.cell 2).trans rfl)
      go_wp2
      go_returns
      exact ⟨by rw [HE.out]; rfl, by (repeat' (first | (with_reducible exact Below.refl _ _) | (with_reducible assumption) | (with_reducible refine Below.alloc ?_ ?_ _) | (with_reducible refine Below.setCell ?_ ?_ _) | (with_reducible refine Below.drew ?_) | (with_reducible refine below_drewN ?_ _) | (with_reducible refine Below.trans ?_ (Below.mono (by assumption) ?_)) | (with_reducible exact Nat.le_refl _) | (simp; done) | omega | (simp at *; omega)))⟩
  · have HG := Lib.hid hg
    rw [hg]
    clear hg
    go_enter Try.func64, Try.ntmps64
    obtain ⟨v0, hv0⟩ : ∃ v, v = w.alloc (.cells #[.int .i64 R, .int .i64 C, .slice A l.length cap] 32) := ⟨_, rfl⟩; have X0 : Whole v0 w.heap.size 32 [.int .i64 R, .int .i64 C, .slice A l.length cap] := (by rw [hv0]; exact heap_alloc_new w _); have hb : Below w.heap.size w v0 := (by rw [hv0]; exact (Below.refl _ _).alloc (Nat.le_refl _) _); have HV := Lib.hid hv0.symm; clear hv0; go_upto_region 1 with (fail); rewrite [HV.out]; clear HV; have X0k0 : v0.cell? ⟨w.heap.size, 0, none⟩ = some (.int .i64 R) := (X0.cell 0).trans rfl; have X0k1 : v0.cell? ⟨w.heap.size, 1, none⟩ = some (.int .i64 C) := (X0.cell 1).trans rfl; have X0k2 : v0.cell? ⟨w.heap.size, 2, none⟩ = some (.slice A l.length cap) := (X0.cell 2).trans rfl
    go_wp2_with fail
    refine (spec_boGood _ _ _ _ l _ hn ((hr.below hb).mono hb.size)).mono ?_; rintro e w1 ⟨rfl, b1⟩
    rewrite [HG.out]
    (clear X0k0 X0k1 X0k2; replace X0 := X0.below b1 X0.lt; replace hb := hb.trans (b1.mono hb.size); clear b1; have X0k0 : w1.cell? ⟨w.heap.size, 0, none⟩ = some (.int .i64 R) := (X0.cell 0).trans rfl; have X0k1 : w1.cell? ⟨w.heap.size, 1, none⟩ = some (.int .i64 C) := (X0.cell 1).trans rfl; have X0k2 : w1.cell? ⟨w.heap.size, 2, none⟩ = some (.slice A l.length cap) := (X0.cell 2).trans rfl)
    go_wp2
    go_returns
    exact ⟨rfl, by (repeat' (first | (with_reducible exact Below.refl _ _) | (with_reducible assumption) | (with_reducible refine Below.alloc ?_ ?_ _) | (with_reducible refine Below.setCell ?_ ?_ _) | (with_reducible refine Below.drew ?_) | (with_reducible refine below_drewN ?_ _) | (with_reducible refine Below.trans ?_ (Below.mono (by assumption) ?_)) | (with_reducible exact Nat.le_refl _) | (simp; done) | omega | (simp at *; omega)))⟩
end Go.Proofs.Ytoflhjekldlaiaa
