/- For every list of entries, ColoursChange of the program answers as the model does, keeps its argument, and owns what it hands back. No condition. -/
import Derived.Test.YtlambflmabecfaaOpen
import Derived.Test.YtlambflmabecfaaMark
import Derived.Test.YtlambflmabecfaaBoxes
import Derived.Deep.RegionHeld3
import Derived.Deep.DeepCutAuto
import Derived.Test.YtlambflmabecfaaLogO
import Derived.Test.YtlambflmabecfaaLogC
namespace Go.Proofs.Ytlambflmabecfaa
open Go.ChangeShapes Go.WideShapes Go.ChangeAt Go.RowKit Go.Joins Go.Deep
set_option linter.unusedSimpArgs false
set_option linter.unusedVariables false
set_option maxRecDepth 100000
set_option maxHeartbeats 4000000 in
theorem ColoursChange_walk0 (A0 : Option Addr) (cap0 : Nat) (l0 : List (Int × Int × Int × Int)) (w : World) (hm0 : l0.length ≤ maxLen) (hr0 : Rd w w.heap.size A0 (flatL l0)) :
    Calls Try.prog 9 #[.slice A0 l0.length cap0] w fun e w' => e = .returned (.bool true) ∧ Below w.heap.size w w' := by
  by_cases ht0 : l0.length ≤ 1048576
  · have hn0 : l0.length ≤ 1048576 := by omega
    go_enter Try.func9, Try.ntmps9
    have B : Below w.heap.size w w := Below.refl _ _
    go_wp2_with fail
    refine (szLogS_any _ _ _ _ _ hm0 (by omega) (by omega)).mono ?_; rintro e w1 ⟨rfl, rfl⟩
    rw [if_neg (by omega)]
    go_wp2_with fail
    refine (toLogS_any _ _ l0 _ hn0 ((hr0.below B).mono B.size)).mono ?_; rintro e w2 ⟨gT0, rfl, t, n, b⟩
    replace B := B.trans (b.mono B.size)
    have s3 : w.heap.size ≤ w2.heap.size := b.size
    clear b
    have T0 := t.own
    have loT0 : ∀ a : Addr, (some ⟨gT0, 0, none⟩) = some a → w.heap.size ≤ a.block := fun a ha => by cases ha; exact n
    have hiT0 : ∀ a : Addr, (some ⟨gT0, 0, none⟩) = some a → 0 < l0.length → a.block < w2.heap.size := fun a ha _ => by cases ha; exact t.lt
    clear t n
    go_wp2_with fail
    refine (spec_ColoursChange _ _ l0 _ hn0 (T0.rd) ).mono ?_; rintro e w5 ⟨Aw0, cw0, rfl, Ow0, loOw0, b⟩
    replace T0 := T0.keep b
    replace B := B.trans (b.mono B.size)
    have s6 : w2.heap.size ≤ w5.heap.size := b.size
    clear b
    have hiOw0 : ∀ a : Addr, Aw0 = some a → 0 < (chO l0).length → a.block < w5.heap.size := fun a ha hx => Ow0.lt (pos_ints hx) ha
    clear T0
    go_wp2_with fail
    refine (toLogS_any _ _ l0 _ hn0 ((hr0.below B).mono B.size)).mono ?_; rintro e w8 ⟨gO_x0, rfl, t, n, b⟩
    replace Ow0 := Ow0.keep b
    replace B := B.trans (b.mono B.size)
    have s9 : w5.heap.size ≤ w8.heap.size := b.size
    clear b
    have O_x0 := t.own
    have loO_x0 : ∀ a : Addr, (some ⟨gO_x0, 0, none⟩) = some a → w5.heap.size ≤ a.block := fun a ha => by cases ha; exact n
    have hiO_x0 : ∀ a : Addr, (some ⟨gO_x0, 0, none⟩) = some a → 0 < l0.length → a.block < w8.heap.size := fun a ha _ => by cases ha; exact t.lt
    clear t n
    go_wp2_with fail
    refine (impl_ColoursChange _ _ l0 _ hn0 (O_x0.rd) ).mono ?_; rintro e w11 ⟨Ag0, cg0, rfl, Og0, loOg0, b⟩
    replace Ow0 := Ow0.keep b
    replace O_x0 := O_x0.keep b
    replace B := B.trans (b.mono B.size)
    have s12 : w8.heap.size ≤ w11.heap.size := b.size
    clear b
    have hiOg0 : ∀ a : Addr, Ag0 = some a → 0 < (chO l0).length → a.block < w11.heap.size := fun a ha hx => Og0.lt (pos_ints hx) ha
    go_wp2_with fail
    refine (eqIntS_any _ _ _ _ (chO l0) (chO l0) _ (by have := chO_len l0; omega) (by have := chO_len l0; omega) Og0.rd Ow0.rd).mono ?_; rintro e w14 ⟨rfl, b⟩
    rw [decide_eq_true (rfl : (chO l0) = (chO l0))]
    replace Ow0 := Ow0.keep b
    replace O_x0 := O_x0.keep b
    replace Og0 := Og0.keep b
    replace B := B.trans (b.mono B.size)
    have s15 : w11.heap.size ≤ w14.heap.size := b.size
    clear b
    go_wp2_with fail
    refine (toLogS_any _ _ l0 _ hn0 ((hr0.below B).mono B.size)).mono ?_; rintro e w16 ⟨gT0, rfl, t, n, b⟩
    replace Ow0 := Ow0.keep b
    replace O_x0 := O_x0.keep b
    replace Og0 := Og0.keep b
    replace B := B.trans (b.mono B.size)
    have s17 : w14.heap.size ≤ w16.heap.size := b.size
    clear b
    have T0 := t.own
    have loT0 : ∀ a : Addr, (some ⟨gT0, 0, none⟩) = some a → w14.heap.size ≤ a.block := fun a ha => by cases ha; exact n
    have hiT0 : ∀ a : Addr, (some ⟨gT0, 0, none⟩) = some a → 0 < l0.length → a.block < w16.heap.size := fun a ha _ => by cases ha; exact t.lt
    clear t n
    go_wp2_with fail
    refine (eqLogS_any _ _ _ _ l0 l0 _ hn0 hn0 O_x0.rd T0.rd).mono ?_; rintro e w19 ⟨rfl, b⟩
    rw [decide_eq_true (rfl : l0 = l0)]
    replace Ow0 := Ow0.keep b
    replace O_x0 := O_x0.keep b
    replace Og0 := Og0.keep b
    replace T0 := T0.keep b
    replace B := B.trans (b.mono B.size)
    have s20 : w16.heap.size ≤ w19.heap.size := b.size
    clear b
    clear T0
    go_wp2_with fail
    refine (markLogS_n _ _ l0.length (flatL l0) _ _ (flatL_len _) hn0 (by omega) (by omega) O_x0).mono ?_; rintro e w21 ⟨rfl, o, b⟩
    replace Ow0 := Ow0.fx b (fun hp hx a a' ha ha' => by have h1 := loO_x0 a' ha'; have h2 := hiOw0 a ha (ints_pos hx); omega)
    replace Og0 := Og0.fx b (fun hp hx a a' ha ha' => by have h1 := hiO_x0 a' ha' hp; have h2 := loOg0 a ha; omega)
    replace B := B.trans (b.below B.size (fun a ha => by have h1 := loO_x0 a ha; omega))
    have s22 : w19.heap.size ≤ w21.heap.size := b.size
    clear b
    replace O_x0 := o
    clear O_x0
    go_wp2_with fail
    refine (eqIntS_any _ _ _ _ (chO l0) (chO l0) _ (by have := chO_len l0; omega) (by have := chO_len l0; omega) Og0.rd Ow0.rd).mono ?_; rintro e w23 ⟨rfl, b⟩
    rw [decide_eq_true (rfl : (chO l0) = (chO l0))]
    replace Ow0 := Ow0.keep b
    replace Og0 := Og0.keep b
    replace B := B.trans (b.mono B.size)
    have s24 : w21.heap.size ≤ w23.heap.size := b.size
    clear b
    go_wp2_with fail
    refine (markIntS_n _ _ (chO l0).length (ints (chO l0)) _ _ (ints_length _) (by have := chO_len l0; omega) (by omega) (by omega) Og0).mono ?_; rintro e w25 ⟨rfl, o, b⟩
    replace Ow0 := Ow0.fx b (fun hp hx a a' ha ha' => by have h1 := loOg0 a' ha'; have h2 := hiOw0 a ha (ints_pos hx); omega)
    replace B := B.trans (b.below B.size (fun a ha => by have h1 := loOg0 a ha; omega))
    have s26 : w23.heap.size ≤ w25.heap.size := b.size
    clear b
    replace Og0 := o
    go_wp2_with fail
    refine (heldIntS_any _ _ (chO l0).length _ _ (by have := chO_len l0; omega) (by omega) (by omega) Og0).mono ?_; rintro e w27 ⟨rfl, rfl⟩
    go_wp2_with fail
    refine (toLogS_any _ _ l0 _ hn0 ((hr0.below B).mono B.size)).mono ?_; rintro e w28 ⟨gT0, rfl, t, n, b⟩
    replace Ow0 := Ow0.keep b
    replace Og0 := Og0.keep b
    replace B := B.trans (b.mono B.size)
    have s29 : w25.heap.size ≤ w28.heap.size := b.size
    clear b
    have T0 := t.own
    have loT0 : ∀ a : Addr, (some ⟨gT0, 0, none⟩) = some a → w25.heap.size ≤ a.block := fun a ha => by cases ha; exact n
    have hiT0 : ∀ a : Addr, (some ⟨gT0, 0, none⟩) = some a → 0 < l0.length → a.block < w28.heap.size := fun a ha _ => by cases ha; exact t.lt
    clear t n
    go_wp2_with fail
    refine (impl_ColoursChange _ _ l0 _ hn0 (T0.rd) ).mono ?_; rintro e w31 ⟨Ah0, ch0, rfl, Oh0, loOh0, b⟩
    replace Ow0 := Ow0.keep b
    replace Og0 := Og0.keep b
    replace T0 := T0.keep b
    replace B := B.trans (b.mono B.size)
    have s32 : w28.heap.size ≤ w31.heap.size := b.size
    clear b
    have hiOh0 : ∀ a : Addr, Ah0 = some a → 0 < (chO l0).length → a.block < w31.heap.size := fun a ha hx => Oh0.lt (pos_ints hx) ha
    clear T0
    go_wp2_with fail
    refine (eqIntS_any _ _ _ _ (chO l0) (chO l0) _ (by have := chO_len l0; omega) (by have := chO_len l0; omega) Oh0.rd Ow0.rd).mono ?_; rintro e w34 ⟨rfl, b⟩
    rw [decide_eq_true (rfl : (chO l0) = (chO l0))]
    replace Ow0 := Ow0.keep b
    replace Og0 := Og0.keep b
    replace Oh0 := Oh0.keep b
    replace B := B.trans (b.mono B.size)
    have s35 : w31.heap.size ≤ w34.heap.size := b.size
    clear b
    go_wp2_with fail
    refine (heldIntS_any _ _ (chO l0).length _ _ (by have := chO_len l0; omega) (by omega) (by omega) Og0).mono ?_; rintro e w36 ⟨rfl, rfl⟩
    go_wp2
    go_returns
    exact ⟨rfl, B⟩
  · go_enter Try.func9, Try.ntmps9
    have B : Below w.heap.size w w := Below.refl _ _
    go_wp2_with fail
    refine (szLogS_any _ _ _ _ _ hm0 (by omega) (by omega)).mono ?_; rintro e w1 ⟨rfl, rfl⟩
    rw [if_pos (by omega)]
    go_wp2
    go_returns
    exact ⟨rfl, B⟩
theorem ColoursChange_walk : Walk Try.prog 9 Try.f9 := by
  intro H enc W base args ds ps hA hval
  rw [Try.params9] at hA hval
  obtain ⟨v0, vs0, d0, ds0, p0, q0, hv0, hd0, hp0, h0, r0⟩ := trodAll_cons hA
  obtain ⟨e1, e2, e3⟩ := trodAll_nil r0
  have ha : args = #[v0] := by
    apply Array.toList_inj.1
    rw [hv0, e1]
  subst ha
  obtain ⟨A0, cap0, l0, e0_, hm0, hr0⟩ := open_logs (hval 0 22 v0 rfl rfl) h0
  subst e0_
  exact ColoursChange_walk0 A0 cap0 l0 W hm0 hr0
set_option maxRecDepth 100000 in
theorem ColoursChange_holds : Rows.FnExactColoursChangeSaid :=
  OpenClaim.holds_of_wide 9 Try.f9 rfl rfl rfl rfl rfl rfl rfl ⟨rfl, rfl, rfl, rfl, rfl⟩ rfl rfl rfl rfl rfl (by kernel_rfl) Try.func9 (by kernel_rfl)
    (of_decide_eq_true (by kernel_rfl)) (by unfold Func.isWrapper; first | (rw [if_pos (by decide +kernel)]; kernel_rfl) | (rw [if_neg (by decide +kernel)]; exact ⟨rfl, rfl⟩))
    (fun os started H enc _ => lifted (C := Try.checked) (s := Rows.fnExactColoursChangeSpec) started own (by kernel_rfl) Try.func9 ⟨#[], #[.slice none 0 0], []⟩ 8 (by kernel_rfl) (by kernel_rfl) (by kernel_rfl) (by kernel_rfl) (by kernel_rfl)
      laidOut (by kernel_rfl) rfl rfl Try.underlying4 (fun ds h => by
        match ds, h with
        | [d0], _ => exact ⟨rfl, rfl, rfl⟩) ColoursChange_walk)
end Go.Proofs.Ytlambflmabecfaa
