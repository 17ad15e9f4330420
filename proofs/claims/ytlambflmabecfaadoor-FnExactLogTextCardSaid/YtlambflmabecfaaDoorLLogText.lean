/- For every list of entries, LogText of the program answers as the model does, and keeps its argument. No condition. -/
import Derived.Test.YtlambflmabecfaaDoorOpen
import Derived.Test.YtlambflmabecfaaDoorMark
import Derived.Test.YtlambflmabecfaaDoorBoxes
import Derived.Deep.RegionHeld3
import Derived.Deep.DeepCutAuto
import Derived.Test.YtlambflmabecfaaDoorLogO
import Derived.Test.YtlambflmabecfaaDoorLogZ
namespace Go.Proofs.YtlambflmabecfaaDoor
open Go.ChangeShapes Go.WideShapes Go.ChangeAt Go.RowKit Go.Joins Go.Deep
set_option linter.unusedSimpArgs false
set_option linter.unusedVariables false
set_option maxRecDepth 100000
set_option maxHeartbeats 4000000 in
theorem LogText_walk0 (A0 : Option Addr) (cap0 : Nat) (l0 : List (Int × Int × Int × Int)) (w : World) (hm0 : l0.length ≤ maxLen) (hr0 : Rd w w.heap.size A0 (flatL l0)) (hT : Tab w) :
    Calls Tryd.prog 3 #[.slice A0 l0.length cap0] w fun e w' => e = .returned (.bool true) ∧ Below w.heap.size w w' := by
  by_cases ht0 : l0.length ≤ 1048576
  · have hn0 : l0.length ≤ 1048576 := by omega
    go_enter Tryd.func3, Tryd.ntmps3
    have B : Below w.heap.size w w := Below.refl _ _
    go_wp2_with fail
    refine (szLogS_any _ _ _ _ _ hm0 (by omega) (by omega)).mono ?_; rintro e w1 ⟨rfl, rfl⟩
    rw [if_neg (by omega)]
    go_wp2_with fail
    refine (toLogS_any _ _ l0 _ hn0 ((hr0.below B).mono B.size)).mono ?_; rintro e w2 ⟨gT0, rfl, t, n, b⟩
    replace B := B.trans (b.mono B.size)
    have s3 : w.heap.size ≤ w2.heap.size := b.size
    clear b
    have T0 := t.own
    have loT0 : ∀ a : Addr, (some ⟨gT0, 0, none⟩) = some a → w.heap.size ≤ a.block := fun a ha => by cases ha; exact n
    have hiT0 : ∀ a : Addr, (some ⟨gT0, 0, none⟩) = some a → 0 < l0.length → a.block < w2.heap.size := fun a ha _ => by cases ha; exact t.lt
    clear t n
    go_wp2_with fail
    refine (spec_LogTextT _ _ l0 _ hn0 (T0.rd) (hT.below B)).mono ?_; rintro e w5 ⟨rfl, b⟩
    replace T0 := T0.keep b
    replace B := B.trans (b.mono B.size)
    have s6 : w2.heap.size ≤ w5.heap.size := b.size
    clear b
    clear T0
    go_wp2_with fail
    refine (toLogS_any _ _ l0 _ hn0 ((hr0.below B).mono B.size)).mono ?_; rintro e w7 ⟨gO_x0, rfl, t, n, b⟩
    replace B := B.trans (b.mono B.size)
    have s8 : w5.heap.size ≤ w7.heap.size := b.size
    clear b
    have O_x0 := t.own
    have loO_x0 : ∀ a : Addr, (some ⟨gO_x0, 0, none⟩) = some a → w5.heap.size ≤ a.block := fun a ha => by cases ha; exact n
    have hiO_x0 : ∀ a : Addr, (some ⟨gO_x0, 0, none⟩) = some a → 0 < l0.length → a.block < w7.heap.size := fun a ha _ => by cases ha; exact t.lt
    clear t n
    go_wp2_with fail
    refine (impl_LogText _ _ l0 _ hn0 (O_x0.rd) (hT.below B)).mono ?_; rintro e w10 ⟨rfl, b⟩
    replace O_x0 := O_x0.keep b
    replace B := B.trans (b.mono B.size)
    have s11 : w7.heap.size ≤ w10.heap.size := b.size
    clear b
    go_wp2_with fail
    refine (toLogS_any _ _ l0 _ hn0 ((hr0.below B).mono B.size)).mono ?_; rintro e w12 ⟨gT0, rfl, t, n, b⟩
    replace O_x0 := O_x0.keep b
    replace B := B.trans (b.mono B.size)
    have s13 : w10.heap.size ≤ w12.heap.size := b.size
    clear b
    have T0 := t.own
    have loT0 : ∀ a : Addr, (some ⟨gT0, 0, none⟩) = some a → w10.heap.size ≤ a.block := fun a ha => by cases ha; exact n
    have hiT0 : ∀ a : Addr, (some ⟨gT0, 0, none⟩) = some a → 0 < l0.length → a.block < w12.heap.size := fun a ha _ => by cases ha; exact t.lt
    clear t n
    go_wp2_with fail
    refine (eqLogS_any _ _ _ _ l0 l0 _ hn0 hn0 O_x0.rd T0.rd).mono ?_; rintro e w15 ⟨rfl, b⟩
    rw [decide_eq_true (rfl : l0 = l0)]
    replace O_x0 := O_x0.keep b
    replace T0 := T0.keep b
    replace B := B.trans (b.mono B.size)
    have s16 : w12.heap.size ≤ w15.heap.size := b.size
    clear b
    clear T0
    go_wp2
    go_returns
    exact ⟨rfl, B⟩
  · go_enter Tryd.func3, Tryd.ntmps3
    have B : Below w.heap.size w w := Below.refl _ _
    go_wp2_with fail
    refine (szLogS_any _ _ _ _ _ hm0 (by omega) (by omega)).mono ?_; rintro e w1 ⟨rfl, rfl⟩
    rw [if_pos (by omega)]
    go_wp2
    go_returns
    exact ⟨rfl, B⟩
end Go.Proofs.YtlambflmabecfaaDoor
