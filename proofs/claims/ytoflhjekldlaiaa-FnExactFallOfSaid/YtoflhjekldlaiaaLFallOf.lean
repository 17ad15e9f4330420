/- For every board and every number, FallOf of the program answers as the model does, and keeps its argument. No condition. -/
import Derived.Test.YtoflhjekldlaiaaOpen
import Derived.Test.YtoflhjekldlaiaaMark
import Derived.Test.YtoflhjekldlaiaaBoxes
import Derived.Deep.RegionHeld3
import Derived.Deep.DeepCutAuto
import Derived.Test.YtoflhjekldlaiaaFallL
import Derived.Test.YtoflhjekldlaiaaFallI
namespace Go.Proofs.Ytoflhjekldlaiaa
open Go.ChangeShapes Go.WideShapes Go.ChangeAt Go.RowKit Go.Joins Go.Deep
set_option linter.unusedSimpArgs false
set_option linter.unusedVariables false
set_option maxRecDepth 100000
set_option maxHeartbeats 4000000 in
theorem FallOf_walk0 (R0 C0 : Int) (A0 : Option Addr) (cap0 : Nat) (l0 : List (Int × Int)) (i1 : Int) (w : World) (hm0 : l0.length ≤ maxLen) (hr0 : Rd w w.heap.size A0 (flat l0)) (wf1 : (Lit.int .i64 i1).wf = true) :
    Calls Try.prog 3 #[.agg #[.int .i64 R0, .int .i64 C0, .slice A0 l0.length cap0], .int .i64 i1] w fun e w' => e = .returned (.bool true) ∧ Below w.heap.size w w' := by
  by_cases ht0 : l0.length ≤ 1048576
  · have hn0 : l0.length ≤ 1048576 := by omega
    go_enter Try.func3, Try.ntmps3
    have B : Below w.heap.size w w := Below.refl _ _
    go_wp2_with fail
    have b : Below w.heap.size w (w.alloc (.cells #[.int .i64 R0, .int .i64 C0, .slice A0 l0.length cap0] 24)) := (Below.refl _ _).alloc (Nat.le_refl _) _
    have X0 : Whole (w.alloc (.cells #[.int .i64 R0, .int .i64 C0, .slice A0 l0.length cap0] 24)) w.heap.size 24 [.int .i64 R0, .int .i64 C0, .slice A0 l0.length cap0] := heap_alloc_new w _
    have HZ := Lib.hid (show (w.alloc (.cells #[.int .i64 R0, .int .i64 C0, .slice A0 l0.length cap0] 24)).heap.size = w.heap.size + 1 by rw [World.size_alloc])
    replace B := B.trans (b.mono B.size)
    have s2 : w.heap.size ≤ (w.alloc (.cells #[.int .i64 R0, .int .i64 C0, .slice A0 l0.length cap0] 24)).heap.size := b.size
    clear b
    have hiX0 := X0.lt
    generalize w.alloc (.cells #[.int .i64 R0, .int .i64 C0, .slice A0 l0.length cap0] 24) = v1 at *
    have zX0 : w.heap.size < v1.heap.size := X0.lt
    have kX00 : v1.cell? ⟨w.heap.size, 0, none⟩ = some (.int .i64 R0) := (X0.cell 0).trans rfl
    have kX01 : v1.cell? ⟨w.heap.size, 1, none⟩ = some (.int .i64 C0) := (X0.cell 1).trans rfl
    have kX02 : v1.cell? ⟨w.heap.size, 2, none⟩ = some (.slice A0 l0.length cap0) := (X0.cell 2).trans rfl
    go_wp2_with fail
    refine (szBoard_any _ _ _ _ _ _ _ hm0 (by omega) (by omega)).mono ?_; rintro e w4 ⟨rfl, b⟩
    clear zX0 kX00 kX01 kX02
    rw [if_neg (by omega)]
    replace X0 := X0.below b X0.lt
    replace B := B.trans (b.mono B.size)
    have s5 : v1.heap.size ≤ w4.heap.size := b.size
    clear b
    have zX0 : w.heap.size < w4.heap.size := X0.lt
    have kX00 : w4.cell? ⟨w.heap.size, 0, none⟩ = some (.int .i64 R0) := (X0.cell 0).trans rfl
    have kX01 : w4.cell? ⟨w.heap.size, 1, none⟩ = some (.int .i64 C0) := (X0.cell 1).trans rfl
    have kX02 : w4.cell? ⟨w.heap.size, 2, none⟩ = some (.slice A0 l0.length cap0) := (X0.cell 2).trans rfl
    go_wp2_with fail
    refine (toBoard_any _ _ _ _ l0 _ hn0 ((hr0.below B).mono B.size)).mono ?_; rintro e w6 ⟨gT0, rfl, t, n, b⟩
    clear zX0 kX00 kX01 kX02
    replace X0 := X0.below b X0.lt
    replace B := B.trans (b.mono B.size)
    have s7 : w4.heap.size ≤ w6.heap.size := b.size
    clear b
    have T0 := t.own
    have loT0 : ∀ a : Addr, (some ⟨gT0, 0, none⟩) = some a → w4.heap.size ≤ a.block := fun a ha => by cases ha; exact n
    have hiT0 : ∀ a : Addr, (some ⟨gT0, 0, none⟩) = some a → 0 < l0.length → a.block < w6.heap.size := fun a ha _ => by cases ha; exact t.lt
    clear t n
    go_wp2_with fail
    refine (spec_FallOf _ _ _ _ l0 _ _ hn0 (T0.rd) ).mono ?_; rintro e w9 ⟨rfl, b⟩
    replace X0 := X0.below b X0.lt
    replace T0 := T0.keep b
    replace B := B.trans (b.mono B.size)
    have s10 : w6.heap.size ≤ w9.heap.size := b.size
    clear b
    clear T0
    have zX0 : w.heap.size < w9.heap.size := X0.lt
    have kX00 : w9.cell? ⟨w.heap.size, 0, none⟩ = some (.int .i64 R0) := (X0.cell 0).trans rfl
    have kX01 : w9.cell? ⟨w.heap.size, 1, none⟩ = some (.int .i64 C0) := (X0.cell 1).trans rfl
    have kX02 : w9.cell? ⟨w.heap.size, 2, none⟩ = some (.slice A0 l0.length cap0) := (X0.cell 2).trans rfl
    go_wp2_with fail
    clear zX0 kX00 kX01 kX02
    have b : Below w9.heap.size w9 (w9.alloc (.cells #[.int .i64 (selI (okF R0 C0 l0 i1) (marO R0 C0 l0 i1).e), .int .i64 (selI (okF R0 C0 l0 i1) (marO R0 C0 l0 i1).row), .int .i64 (selI (okF R0 C0 l0 i1) (marO R0 C0 l0 i1).col)] 27)) := (Below.refl _ _).alloc (Nat.le_refl _) _
    have Zw0 : Whole (w9.alloc (.cells #[.int .i64 (selI (okF R0 C0 l0 i1) (marO R0 C0 l0 i1).e), .int .i64 (selI (okF R0 C0 l0 i1) (marO R0 C0 l0 i1).row), .int .i64 (selI (okF R0 C0 l0 i1) (marO R0 C0 l0 i1).col)] 27)) w9.heap.size 27 [.int .i64 (selI (okF R0 C0 l0 i1) (marO R0 C0 l0 i1).e), .int .i64 (selI (okF R0 C0 l0 i1) (marO R0 C0 l0 i1).row), .int .i64 (selI (okF R0 C0 l0 i1) (marO R0 C0 l0 i1).col)] := heap_alloc_new w9 _
    replace X0 := X0.below b X0.lt
    replace B := B.trans (b.mono B.size)
    have s12 : w9.heap.size ≤ (w9.alloc (.cells #[.int .i64 (selI (okF R0 C0 l0 i1) (marO R0 C0 l0 i1).e), .int .i64 (selI (okF R0 C0 l0 i1) (marO R0 C0 l0 i1).row), .int .i64 (selI (okF R0 C0 l0 i1) (marO R0 C0 l0 i1).col)] 27)).heap.size := b.size
    clear b
    have hiZw0 := Zw0.lt
    generalize w9.alloc (.cells #[.int .i64 (selI (okF R0 C0 l0 i1) (marO R0 C0 l0 i1).e), .int .i64 (selI (okF R0 C0 l0 i1) (marO R0 C0 l0 i1).row), .int .i64 (selI (okF R0 C0 l0 i1) (marO R0 C0 l0 i1).col)] 27) = v11 at *
    refine (toBoard_any _ _ _ _ l0 _ hn0 ((hr0.below B).mono B.size)).mono ?_; rintro e w14 ⟨gO_x0, rfl, t, n, b⟩
    replace X0 := X0.below b X0.lt
    replace Zw0 := Zw0.below b Zw0.lt
    replace B := B.trans (b.mono B.size)
    have s15 : v11.heap.size ≤ w14.heap.size := b.size
    clear b
    have O_x0 := t.own
    have loO_x0 : ∀ a : Addr, (some ⟨gO_x0, 0, none⟩) = some a → v11.heap.size ≤ a.block := fun a ha => by cases ha; exact n
    have hiO_x0 : ∀ a : Addr, (some ⟨gO_x0, 0, none⟩) = some a → 0 < l0.length → a.block < w14.heap.size := fun a ha _ => by cases ha; exact t.lt
    clear t n
    go_wp2_with fail
    have b : Below w14.heap.size w14 (w14.alloc (.cells #[.int .i64 R0, .int .i64 C0, .slice (some ⟨gO_x0, 0, none⟩) l0.length l0.length] 32)) := (Below.refl _ _).alloc (Nat.le_refl _) _
    have XX0 : Whole (w14.alloc (.cells #[.int .i64 R0, .int .i64 C0, .slice (some ⟨gO_x0, 0, none⟩) l0.length l0.length] 32)) w14.heap.size 32 [.int .i64 R0, .int .i64 C0, .slice (some ⟨gO_x0, 0, none⟩) l0.length l0.length] := heap_alloc_new w14 _
    replace X0 := X0.below b X0.lt
    replace Zw0 := Zw0.below b Zw0.lt
    replace O_x0 := O_x0.keep b
    replace B := B.trans (b.mono B.size)
    have s18 : w14.heap.size ≤ (w14.alloc (.cells #[.int .i64 R0, .int .i64 C0, .slice (some ⟨gO_x0, 0, none⟩) l0.length l0.length] 32)).heap.size := b.size
    clear b
    have hiXX0 := XX0.lt
    generalize w14.alloc (.cells #[.int .i64 R0, .int .i64 C0, .slice (some ⟨gO_x0, 0, none⟩) l0.length l0.length] 32) = v17 at *
    refine (impl_FallOf _ _ _ _ l0 _ _ hn0 (O_x0.rd) ).mono ?_; rintro e w20 ⟨rfl, b⟩
    replace X0 := X0.below b X0.lt
    replace Zw0 := Zw0.below b Zw0.lt
    replace O_x0 := O_x0.keep b
    replace XX0 := XX0.below b XX0.lt
    replace B := B.trans (b.mono B.size)
    have s21 : v17.heap.size ≤ w20.heap.size := b.size
    clear b
    have zZw0 : w9.heap.size < w20.heap.size := Zw0.lt
    have kZw00 : w20.cell? ⟨w9.heap.size, 0, none⟩ = some (.int .i64 (selI (okF R0 C0 l0 i1) (marO R0 C0 l0 i1).e)) := (Zw0.cell 0).trans rfl
    have kZw01 : w20.cell? ⟨w9.heap.size, 1, none⟩ = some (.int .i64 (selI (okF R0 C0 l0 i1) (marO R0 C0 l0 i1).row)) := (Zw0.cell 1).trans rfl
    have kZw02 : w20.cell? ⟨w9.heap.size, 2, none⟩ = some (.int .i64 (selI (okF R0 C0 l0 i1) (marO R0 C0 l0 i1).col)) := (Zw0.cell 2).trans rfl
    go_wp2_with fail
    clear zZw0 kZw00 kZw01 kZw02
    have b : Below w20.heap.size w20 (w20.alloc (.cells #[.int .i64 (selI (okF R0 C0 l0 i1) (marO R0 C0 l0 i1).e), .int .i64 (selI (okF R0 C0 l0 i1) (marO R0 C0 l0 i1).row), .int .i64 (selI (okF R0 C0 l0 i1) (marO R0 C0 l0 i1).col)] 27)) := (Below.refl _ _).alloc (Nat.le_refl _) _
    have Zg0 : Whole (w20.alloc (.cells #[.int .i64 (selI (okF R0 C0 l0 i1) (marO R0 C0 l0 i1).e), .int .i64 (selI (okF R0 C0 l0 i1) (marO R0 C0 l0 i1).row), .int .i64 (selI (okF R0 C0 l0 i1) (marO R0 C0 l0 i1).col)] 27)) w20.heap.size 27 [.int .i64 (selI (okF R0 C0 l0 i1) (marO R0 C0 l0 i1).e), .int .i64 (selI (okF R0 C0 l0 i1) (marO R0 C0 l0 i1).row), .int .i64 (selI (okF R0 C0 l0 i1) (marO R0 C0 l0 i1).col)] := heap_alloc_new w20 _
    replace X0 := X0.below b X0.lt
    replace Zw0 := Zw0.below b Zw0.lt
    replace O_x0 := O_x0.keep b
    replace XX0 := XX0.below b XX0.lt
    replace B := B.trans (b.mono B.size)
    have s23 : w20.heap.size ≤ (w20.alloc (.cells #[.int .i64 (selI (okF R0 C0 l0 i1) (marO R0 C0 l0 i1).e), .int .i64 (selI (okF R0 C0 l0 i1) (marO R0 C0 l0 i1).row), .int .i64 (selI (okF R0 C0 l0 i1) (marO R0 C0 l0 i1).col)] 27)).heap.size := b.size
    clear b
    have hiZg0 := Zg0.lt
    generalize w20.alloc (.cells #[.int .i64 (selI (okF R0 C0 l0 i1) (marO R0 C0 l0 i1).e), .int .i64 (selI (okF R0 C0 l0 i1) (marO R0 C0 l0 i1).row), .int .i64 (selI (okF R0 C0 l0 i1) (marO R0 C0 l0 i1).col)] 27) = v22 at *
    refine (eqFall_any _ _ _ _ _ _ _).mono ?_; rintro e w25 ⟨rfl, b⟩
    rw [decide_eq_true (⟨rfl, rfl, rfl⟩ : selI (okF R0 C0 l0 i1) (marO R0 C0 l0 i1).e = selI (okF R0 C0 l0 i1) (marO R0 C0 l0 i1).e ∧ selI (okF R0 C0 l0 i1) (marO R0 C0 l0 i1).row = selI (okF R0 C0 l0 i1) (marO R0 C0 l0 i1).row ∧ selI (okF R0 C0 l0 i1) (marO R0 C0 l0 i1).col = selI (okF R0 C0 l0 i1) (marO R0 C0 l0 i1).col)]
    replace X0 := X0.below b X0.lt
    replace Zw0 := Zw0.below b Zw0.lt
    replace O_x0 := O_x0.keep b
    replace XX0 := XX0.below b XX0.lt
    replace Zg0 := Zg0.below b Zg0.lt
    replace B := B.trans (b.mono B.size)
    have s26 : v22.heap.size ≤ w25.heap.size := b.size
    clear b
    have zXX0 : w14.heap.size < w25.heap.size := XX0.lt
    have kXX00 : w25.cell? ⟨w14.heap.size, 0, none⟩ = some (.int .i64 R0) := (XX0.cell 0).trans rfl
    have kXX01 : w25.cell? ⟨w14.heap.size, 1, none⟩ = some (.int .i64 C0) := (XX0.cell 1).trans rfl
    have kXX02 : w25.cell? ⟨w14.heap.size, 2, none⟩ = some (.slice (some ⟨gO_x0, 0, none⟩) l0.length l0.length) := (XX0.cell 2).trans rfl
    have zX0 : w.heap.size < w25.heap.size := X0.lt
    have kX00 : w25.cell? ⟨w.heap.size, 0, none⟩ = some (.int .i64 R0) := (X0.cell 0).trans rfl
    have kX01 : w25.cell? ⟨w.heap.size, 1, none⟩ = some (.int .i64 C0) := (X0.cell 1).trans rfl
    have kX02 : w25.cell? ⟨w.heap.size, 2, none⟩ = some (.slice A0 l0.length cap0) := (X0.cell 2).trans rfl
    go_wp2_with fail
    have hqXX0 : w14.heap.size < w25.heap.size := XX0.lt
    have hqX0 : w.heap.size < w25.heap.size := X0.lt
    go_region_held3 (fun w' => w'.cell? ⟨w14.heap.size, 0, none⟩ = some (.int .i64 R0) ∧ w'.cell? ⟨w14.heap.size, 1, none⟩ = some (.int .i64 C0) ∧ w'.cell? ⟨w14.heap.size, 2, none⟩ = some (.slice (some ⟨gO_x0, 0, none⟩) l0.length l0.length) ∧ w'.cell? ⟨w.heap.size, 0, none⟩ = some (.int .i64 R0) ∧ w'.cell? ⟨w.heap.size, 1, none⟩ = some (.int .i64 C0) ∧ w'.cell? ⟨w.heap.size, 2, none⟩ = some (.slice A0 l0.length cap0))
      (first | exact ⟨kXX00, kXX01, kXX02, kX00, kX01, kX02⟩ | exact ⟨(b.cell (p := ⟨w14.heap.size, 0, none⟩) hqXX0).trans kXX00, (b.cell (p := ⟨w14.heap.size, 1, none⟩) hqXX0).trans kXX01, (b.cell (p := ⟨w14.heap.size, 2, none⟩) hqXX0).trans kXX02, (b.cell (p := ⟨w.heap.size, 0, none⟩) hqX0).trans kX00, (b.cell (p := ⟨w.heap.size, 1, none⟩) hqX0).trans kX01, (b.cell (p := ⟨w.heap.size, 2, none⟩) hqX0).trans kX02⟩ | exact ⟨(b2.cell (p := ⟨w14.heap.size, 0, none⟩) (Nat.lt_of_lt_of_le hqXX0 b.size)).trans ((b.cell (p := ⟨w14.heap.size, 0, none⟩) hqXX0).trans kXX00), (b2.cell (p := ⟨w14.heap.size, 1, none⟩) (Nat.lt_of_lt_of_le hqXX0 b.size)).trans ((b.cell (p := ⟨w14.heap.size, 1, none⟩) hqXX0).trans kXX01), (b2.cell (p := ⟨w14.heap.size, 2, none⟩) (Nat.lt_of_lt_of_le hqXX0 b.size)).trans ((b.cell (p := ⟨w14.heap.size, 2, none⟩) hqXX0).trans kXX02), (b2.cell (p := ⟨w.heap.size, 0, none⟩) (Nat.lt_of_lt_of_le hqX0 b.size)).trans ((b.cell (p := ⟨w.heap.size, 0, none⟩) hqX0).trans kX00), (b2.cell (p := ⟨w.heap.size, 1, none⟩) (Nat.lt_of_lt_of_le hqX0 b.size)).trans ((b.cell (p := ⟨w.heap.size, 1, none⟩) hqX0).trans kX01), (b2.cell (p := ⟨w.heap.size, 2, none⟩) (Nat.lt_of_lt_of_le hqX0 b.size)).trans ((b.cell (p := ⟨w.heap.size, 2, none⟩) hqX0).trans kX02)⟩)
      ((first | (go_at_call 15; refine (toBoard_any _ _ _ _ l0 _ hn0 ((hr0.below B.drew).mono B.size)).mono ?_; rintro e w27a ⟨gq, rfl, t, n, b⟩) | (go_at_call 18; refine (eqBoard_any _ _ _ _ _ _ _ _ l0 l0 _ hn0 hn0 ((O_x0.keep (Below.drew (Below.refl _ _))).keep b).rd t.own.rd).mono ?_; rintro e w27b ⟨rfl, b2⟩; rw [eqB_same])))
    have bb : Below w25.heap.size w25 w27b := ((Below.refl _ _).drew).trans (b.trans (b2.mono b.size))
    clear b b2 t n zXX0 kXX00 kXX01 kXX02 zX0 kX00 kX01 kX02 hqXX0 hqX0
    replace X0 := X0.below bb X0.lt
    replace Zw0 := Zw0.below bb Zw0.lt
    replace O_x0 := O_x0.keep bb
    replace XX0 := XX0.below bb XX0.lt
    replace Zg0 := Zg0.below bb Zg0.lt
    replace B := B.trans (bb.mono B.size)
    have s28 : w25.heap.size ≤ w27b.heap.size := bb.size
    clear bb
    go_wp2
    go_returns
    exact ⟨rfl, B⟩
  · go_enter Try.func3, Try.ntmps3
    have B : Below w.heap.size w w := Below.refl _ _
    go_wp2_with fail
    have b : Below w.heap.size w (w.alloc (.cells #[.int .i64 R0, .int .i64 C0, .slice A0 l0.length cap0] 24)) := (Below.refl _ _).alloc (Nat.le_refl _) _
    have X0 : Whole (w.alloc (.cells #[.int .i64 R0, .int .i64 C0, .slice A0 l0.length cap0] 24)) w.heap.size 24 [.int .i64 R0, .int .i64 C0, .slice A0 l0.length cap0] := heap_alloc_new w _
    have HZ := Lib.hid (show (w.alloc (.cells #[.int .i64 R0, .int .i64 C0, .slice A0 l0.length cap0] 24)).heap.size = w.heap.size + 1 by rw [World.size_alloc])
    replace B := B.trans (b.mono B.size)
    have s2 : w.heap.size ≤ (w.alloc (.cells #[.int .i64 R0, .int .i64 C0, .slice A0 l0.length cap0] 24)).heap.size := b.size
    clear b
    have hiX0 := X0.lt
    generalize w.alloc (.cells #[.int .i64 R0, .int .i64 C0, .slice A0 l0.length cap0] 24) = v1 at *
    have zX0 : w.heap.size < v1.heap.size := X0.lt
    have kX00 : v1.cell? ⟨w.heap.size, 0, none⟩ = some (.int .i64 R0) := (X0.cell 0).trans rfl
    have kX01 : v1.cell? ⟨w.heap.size, 1, none⟩ = some (.int .i64 C0) := (X0.cell 1).trans rfl
    have kX02 : v1.cell? ⟨w.heap.size, 2, none⟩ = some (.slice A0 l0.length cap0) := (X0.cell 2).trans rfl
    go_wp2_with fail
    refine (szBoard_any _ _ _ _ _ _ _ hm0 (by omega) (by omega)).mono ?_; rintro e w4 ⟨rfl, b⟩
    clear zX0 kX00 kX01 kX02
    rw [if_pos (by omega)]
    replace X0 := X0.below b X0.lt
    replace B := B.trans (b.mono B.size)
    have s5 : v1.heap.size ≤ w4.heap.size := b.size
    clear b
    go_wp2
    go_returns
    exact ⟨rfl, B⟩
theorem FallOf_walk : Walk Try.prog 3 Try.f3 := by
  intro H enc W base args ds ps hA hval
  rw [Try.params3] at hA hval
  obtain ⟨v0, vs0, d0, ds0, p0, q0, hv0, hd0, hp0, h0, r0⟩ := trodAll_cons hA
  obtain ⟨v1, vs1, d1, ds1, p1, q1, hv1, hd1, hp1, h1, r1⟩ := trodAll_cons r0
  obtain ⟨e1, e2, e3⟩ := trodAll_nil r1
  have ha : args = #[v0, v1] := by
    apply Array.toList_inj.1
    rw [hv0, hv1, e1]
  subst ha
  obtain ⟨R0, C0, A0, cap0, l0, rfl, hm0, hr0, -, -⟩ := open_board (hval 0 24 v0 rfl rfl) h0
  obtain ⟨i1, rfl, rfl, rfl, wf1⟩ := open_int Try.underlying3 (hval 1 3 v1 rfl rfl) h1
  exact FallOf_walk0 R0 C0 A0 cap0 l0 i1 W hm0 hr0 wf1
set_option maxRecDepth 100000 in
theorem FallOf_holds : Rows.FnExactFallOfSaid :=
  OpenClaim.holds_of_wide 3 Try.f3 rfl rfl rfl rfl rfl rfl rfl ⟨rfl, rfl, rfl, rfl, rfl⟩ rfl rfl rfl rfl rfl (by kernel_rfl) Try.func3 (by kernel_rfl)
    (of_decide_eq_true (by kernel_rfl)) (by unfold Func.isWrapper; first | (rw [if_pos (by decide +kernel)]; kernel_rfl) | (rw [if_neg (by decide +kernel)]; exact ⟨rfl, rfl⟩))
    (fun os started H enc _ => lifted (C := Try.checked) (s := Rows.fnExactFallOfSpec) started own (by kernel_rfl) Try.func3 ⟨#[], #[.agg #[.int .i64 0, .int .i64 0, .slice none 0 0], .int .i64 0], []⟩ 8 (by kernel_rfl) (by kernel_rfl) (by kernel_rfl) (by kernel_rfl) (by kernel_rfl)
      laidOut (by kernel_rfl) rfl rfl Try.underlying4 (fun ds h => by
        match ds, h with
        | [d0, d1], _ => exact ⟨rfl, rfl, rfl⟩) FallOf_walk)
end Go.Proofs.Ytoflhjekldlaiaa
