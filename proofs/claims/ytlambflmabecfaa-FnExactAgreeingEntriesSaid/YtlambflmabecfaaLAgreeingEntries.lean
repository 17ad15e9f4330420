/- For every two lists of entries, AgreeingEntries of the program answers as the model does, and keeps its arguments. No condition. -/
import Derived.Test.YtlambflmabecfaaOpen
import Derived.Test.YtlambflmabecfaaMark
import Derived.Test.YtlambflmabecfaaBoxes
import Derived.Deep.RegionHeld3
import Derived.Deep.DeepCutAuto
import Derived.Test.YtlambflmabecfaaLogO
import Derived.Test.YtlambflmabecfaaLogP
namespace Go.Proofs.Ytlambflmabecfaa
open Go.ChangeShapes Go.WideShapes Go.ChangeAt Go.RowKit Go.Joins Go.Deep
set_option linter.unusedSimpArgs false
set_option linter.unusedVariables false
set_option maxRecDepth 100000
set_option maxHeartbeats 4000000 in
theorem AgreeingEntries_walk0 (A0 : Option Addr) (cap0 : Nat) (l0 : List (Int × Int × Int × Int)) (A1 : Option Addr) (cap1 : Nat) (l1 : List (Int × Int × Int × Int)) (w : World) (hm0 : l0.length ≤ maxLen) (hr0 : Rd w w.heap.size A0 (flatL l0)) (hm1 : l1.length ≤ maxLen) (hr1 : Rd w w.heap.size A1 (flatL l1)) :
    Calls Try.prog 7 #[.slice A0 l0.length cap0, .slice A1 l1.length cap1] w fun e w' => e = .returned (.bool true) ∧ Below w.heap.size w w' := by
  by_cases ht0 : l0.length ≤ 1048576
  · have hn0 : l0.length ≤ 1048576 := by omega
    by_cases ht1 : l0.length + l1.length ≤ 1048576
    · have hn1 : l1.length ≤ 1048576 := by omega
      go_enter Try.func7, Try.ntmps7
      have B : Below w.heap.size w w := Below.refl _ _
      go_wp2_with fail
      refine (szLogS_any _ _ _ _ _ hm0 (by omega) (by omega)).mono ?_; rintro e w1 ⟨rfl, rfl⟩
      rw [if_neg (by omega)]
      go_wp2_with fail
      refine (szLogS_any _ _ _ _ _ hm1 (by omega) (by omega)).mono ?_; rintro e w2 ⟨rfl, rfl⟩
      rw [if_neg (by omega)]
      go_wp2_with fail
      refine (toLogS_any _ _ l0 _ hn0 ((hr0.below B).mono B.size)).mono ?_; rintro e w3 ⟨gT0, rfl, t, n, b⟩
      replace B := B.trans (b.mono B.size)
      have s4 : w.heap.size ≤ w3.heap.size := b.size
      clear b
      have T0 := t.own
      have loT0 : ∀ a : Addr, (some ⟨gT0, 0, none⟩) = some a → w.heap.size ≤ a.block := fun a ha => by cases ha; exact n
      have hiT0 : ∀ a : Addr, (some ⟨gT0, 0, none⟩) = some a → 0 < l0.length → a.block < w3.heap.size := fun a ha _ => by cases ha; exact t.lt
      clear t n
      go_wp2_with fail
      refine (toLogS_any _ _ l1 _ hn1 ((hr1.below B).mono B.size)).mono ?_; rintro e w6 ⟨gT1, rfl, t, n, b⟩
      replace T0 := T0.keep b
      replace B := B.trans (b.mono B.size)
      have s7 : w3.heap.size ≤ w6.heap.size := b.size
      clear b
      have T1 := t.own
      have loT1 : ∀ a : Addr, (some ⟨gT1, 0, none⟩) = some a → w3.heap.size ≤ a.block := fun a ha => by cases ha; exact n
      have hiT1 : ∀ a : Addr, (some ⟨gT1, 0, none⟩) = some a → 0 < l1.length → a.block < w6.heap.size := fun a ha _ => by cases ha; exact t.lt
      clear t n
      go_wp2_with fail
      refine (spec_AgreeingEntries _ _ l0 _ _ l1 _ hn0 (T0.rd) hn1 (T1.rd) ).mono ?_; rintro e w9 ⟨rfl, b⟩
      replace T0 := T0.keep b
      replace T1 := T1.keep b
      replace B := B.trans (b.mono B.size)
      have s10 : w6.heap.size ≤ w9.heap.size := b.size
      clear b
      clear T0
      clear T1
      go_wp2_with fail
      refine (toLogS_any _ _ l0 _ hn0 ((hr0.below B).mono B.size)).mono ?_; rintro e w11 ⟨gO_x0, rfl, t, n, b⟩
      replace B := B.trans (b.mono B.size)
      have s12 : w9.heap.size ≤ w11.heap.size := b.size
      clear b
      have O_x0 := t.own
      have loO_x0 : ∀ a : Addr, (some ⟨gO_x0, 0, none⟩) = some a → w9.heap.size ≤ a.block := fun a ha => by cases ha; exact n
      have hiO_x0 : ∀ a : Addr, (some ⟨gO_x0, 0, none⟩) = some a → 0 < l0.length → a.block < w11.heap.size := fun a ha _ => by cases ha; exact t.lt
      clear t n
      go_wp2_with fail
      refine (toLogS_any _ _ l1 _ hn1 ((hr1.below B).mono B.size)).mono ?_; rintro e w14 ⟨gO_x1, rfl, t, n, b⟩
      replace O_x0 := O_x0.keep b
      replace B := B.trans (b.mono B.size)
      have s15 : w11.heap.size ≤ w14.heap.size := b.size
      clear b
      have O_x1 := t.own
      have loO_x1 : ∀ a : Addr, (some ⟨gO_x1, 0, none⟩) = some a → w11.heap.size ≤ a.block := fun a ha => by cases ha; exact n
      have hiO_x1 : ∀ a : Addr, (some ⟨gO_x1, 0, none⟩) = some a → 0 < l1.length → a.block < w14.heap.size := fun a ha _ => by cases ha; exact t.lt
      clear t n
      go_wp2_with fail
      refine (impl_AgreeingEntries _ _ l0 _ _ l1 _ hn0 (O_x0.rd) hn1 (O_x1.rd) ).mono ?_; rintro e w17 ⟨rfl, b⟩
      replace O_x0 := O_x0.keep b
      replace O_x1 := O_x1.keep b
      replace B := B.trans (b.mono B.size)
      have s18 : w14.heap.size ≤ w17.heap.size := b.size
      clear b
      go_wp2_with fail
      refine (toLogS_any _ _ l0 _ hn0 ((hr0.below B).mono B.size)).mono ?_; rintro e w19 ⟨gT0, rfl, t, n, b⟩
      replace O_x0 := O_x0.keep b
      replace O_x1 := O_x1.keep b
      replace B := B.trans (b.mono B.size)
      have s20 : w17.heap.size ≤ w19.heap.size := b.size
      clear b
      have T0 := t.own
      have loT0 : ∀ a : Addr, (some ⟨gT0, 0, none⟩) = some a → w17.heap.size ≤ a.block := fun a ha => by cases ha; exact n
      have hiT0 : ∀ a : Addr, (some ⟨gT0, 0, none⟩) = some a → 0 < l0.length → a.block < w19.heap.size := fun a ha _ => by cases ha; exact t.lt
      clear t n
      go_wp2_with fail
      refine (eqLogS_any _ _ _ _ l0 l0 _ hn0 hn0 O_x0.rd T0.rd).mono ?_; rintro e w22 ⟨rfl, b⟩
      rw [decide_eq_true (rfl : l0 = l0)]
      replace O_x0 := O_x0.keep b
      replace O_x1 := O_x1.keep b
      replace T0 := T0.keep b
      replace B := B.trans (b.mono B.size)
      have s23 : w19.heap.size ≤ w22.heap.size := b.size
      clear b
      clear T0
      go_wp2_with fail
      refine (toLogS_any _ _ l1 _ hn1 ((hr1.below B).mono B.size)).mono ?_; rintro e w24 ⟨gT1, rfl, t, n, b⟩
      replace O_x0 := O_x0.keep b
      replace O_x1 := O_x1.keep b
      replace B := B.trans (b.mono B.size)
      have s25 : w22.heap.size ≤ w24.heap.size := b.size
      clear b
      have T1 := t.own
      have loT1 : ∀ a : Addr, (some ⟨gT1, 0, none⟩) = some a → w22.heap.size ≤ a.block := fun a ha => by cases ha; exact n
      have hiT1 : ∀ a : Addr, (some ⟨gT1, 0, none⟩) = some a → 0 < l1.length → a.block < w24.heap.size := fun a ha _ => by cases ha; exact t.lt
      clear t n
      go_wp2_with fail
      refine (eqLogS_any _ _ _ _ l1 l1 _ hn1 hn1 O_x1.rd T1.rd).mono ?_; rintro e w27 ⟨rfl, b⟩
      rw [decide_eq_true (rfl : l1 = l1)]
      replace O_x0 := O_x0.keep b
      replace O_x1 := O_x1.keep b
      replace T1 := T1.keep b
      replace B := B.trans (b.mono B.size)
      have s28 : w24.heap.size ≤ w27.heap.size := b.size
      clear b
      clear T1
      go_wp2
      go_returns
      exact ⟨rfl, B⟩
    · go_enter Try.func7, Try.ntmps7
      have B : Below w.heap.size w w := Below.refl _ _
      go_wp2_with fail
      refine (szLogS_any _ _ _ _ _ hm0 (by omega) (by omega)).mono ?_; rintro e w1 ⟨rfl, rfl⟩
      rw [if_neg (by omega)]
      go_wp2_with fail
      refine (szLogS_any _ _ _ _ _ hm1 (by omega) (by omega)).mono ?_; rintro e w2 ⟨rfl, rfl⟩
      rw [if_pos (by omega)]
      go_wp2
      go_returns
      exact ⟨rfl, B⟩
  · go_enter Try.func7, Try.ntmps7
    have B : Below w.heap.size w w := Below.refl _ _
    go_wp2_with fail
    refine (szLogS_any _ _ _ _ _ hm0 (by omega) (by omega)).mono ?_; rintro e w1 ⟨rfl, rfl⟩
    rw [if_pos (by omega)]
    go_wp2
    go_returns
    exact ⟨rfl, B⟩
theorem AgreeingEntries_walk : Walk Try.prog 7 Try.f7 := by
  intro H enc W base args ds ps hA hval
  rw [Try.params7] at hA hval
  obtain ⟨v0, vs0, d0, ds0, p0, q0, hv0, hd0, hp0, h0, r0⟩ := trodAll_cons hA
  obtain ⟨v1, vs1, d1, ds1, p1, q1, hv1, hd1, hp1, h1, r1⟩ := trodAll_cons r0
  obtain ⟨e1, e2, e3⟩ := trodAll_nil r1
  have ha : args = #[v0, v1] := by
    apply Array.toList_inj.1
    rw [hv0, hv1, e1]
  subst ha
  obtain ⟨A0, cap0, l0, e0_, hm0, hr0⟩ := open_logs (hval 0 22 v0 rfl rfl) h0
  subst e0_
  obtain ⟨A1, cap1, l1, e1_, hm1, hr1⟩ := open_logs (hval 1 22 v1 rfl rfl) h1
  subst e1_
  exact AgreeingEntries_walk0 A0 cap0 l0 A1 cap1 l1 W hm0 hr0 hm1 hr1
set_option maxRecDepth 100000 in
theorem AgreeingEntries_holds : Rows.FnExactAgreeingEntriesSaid :=
  OpenClaim.holds_of_wide 7 Try.f7 rfl rfl rfl rfl rfl rfl rfl ⟨rfl, rfl, rfl, rfl, rfl⟩ rfl rfl rfl rfl rfl (by kernel_rfl) Try.func7 (by kernel_rfl)
    (of_decide_eq_true (by kernel_rfl)) (by unfold Func.isWrapper; first | (rw [if_pos (by decide +kernel)]; kernel_rfl) | (rw [if_neg (by decide +kernel)]; exact ⟨rfl, rfl⟩))
    (fun os started H enc _ => lifted (C := Try.checked) (s := Rows.fnExactAgreeingEntriesSpec) started own (by kernel_rfl) Try.func7 ⟨#[], #[.slice none 0 0, .slice none 0 0], []⟩ 8 (by kernel_rfl) (by kernel_rfl) (by kernel_rfl) (by kernel_rfl) (by kernel_rfl)
      laidOut (by kernel_rfl) rfl rfl Try.underlying4 (fun ds h => by
        match ds, h with
        | [d0, d1], _ => exact ⟨rfl, rfl, rfl⟩) AgreeingEntries_walk)
end Go.Proofs.Ytlambflmabecfaa
