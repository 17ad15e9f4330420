/- For every board and every list of numbers, ArrivalCounts of the program answers as the model does, keeps its arguments, and owns what it hands back. No condition. -/
import Derived.Test.YtoflhjekldlaiaaM1
import Derived.Deep.RegionHeld3
import Derived.Deep.DeepCutAuto
import Derived.Test.YtoflhjekldlaiaaM8
import Derived.Test.YtoflhjekldlaiaaM9
namespace Go.Proofs.Ytoflhjekldlaiaa
open Go.ChangeShapes Go.WideShapes Go.ChangeAt Go.RowKit Go.Joins Go.Deep
set_option linter.unusedSimpArgs false
set_option linter.unusedVariables false
set_option maxRecDepth 100000
set_option maxHeartbeats 4000000 in
theorem ArrivalCounts_walk0 (R0 C0 : Int) (A0 : Option Addr) (cap0 : Nat) (l0 : List (Int × Int)) (A1 : Option Addr) (cap1 : Nat) (q1 : List Int) (w : World) (hm0 : l0.length ≤ maxLen) (hr0 : Rd w w.heap.size A0 (flat l0)) (hm1 : q1.length ≤ maxLen) (hr1 : Rd w w.heap.size A1 (ints q1)) :
    Calls Try.prog 8 #[.agg #[.int .i64 R0, .int .i64 C0, .slice A0 l0.length cap0], .slice A1 q1.length cap1] w fun e w' => e = .returned (.bool true) ∧ Below w.heap.size w w' := by
  by_cases hn1 : q1.length ≤ 1048576
  · have hb1 : decide ((1048576 : Int) < (q1.length : Int)) = false := by simp; omega
    by_cases ht0 : l0.length ≤ 1048576
    · have hn0 : l0.length ≤ 1048576 := by omega
      go_enter Try.func8, Try.ntmps8
      have B : Below w.heap.size w w := Below.refl _ _
      go_wp2_with fail
      have b : Below w.heap.size w (w.alloc (.cells #[.int .i64 R0, .int .i64 C0, .slice A0 l0.length cap0] 24)) := (Below.refl _ _).alloc (Nat.le_refl _) _
      have X0 : Whole (w.alloc (.cells #[.int .i64 R0, .int .i64 C0, .slice A0 l0.length cap0] 24)) w.heap.size 24 [.int .i64 R0, .int .i64 C0, .slice A0 l0.length cap0] := heap_alloc_new w _
      have HZ := Lib.hid (show (w.alloc (.cells #[.int .i64 R0, .int .i64 C0, .slice A0 l0.length cap0] 24)).heap.size = w.heap.size + 1 by rw [World.size_alloc])
      replace B := B.trans (b.mono B.size)
      have s2 : w.heap.size ≤ (w.alloc (.cells #[.int .i64 R0, .int .i64 C0, .slice A0 l0.length cap0] 24)).heap.size := b.size
      clear b
      have hiX0 := X0.lt
      generalize w.alloc (.cells #[.int .i64 R0, .int .i64 C0, .slice A0 l0.length cap0] 24) = v1 at *
      have zX0 : w.heap.size < v1.heap.size := X0.lt
      have kX00 : v1.cell? ⟨w.heap.size, 0, none⟩ = some (.int .i64 R0) := (X0.cell 0).trans rfl
      have kX01 : v1.cell? ⟨w.heap.size, 1, none⟩ = some (.int .i64 C0) := (X0.cell 1).trans rfl
      have kX02 : v1.cell? ⟨w.heap.size, 2, none⟩ = some (.slice A0 l0.length cap0) := (X0.cell 2).trans rfl
      go_wp2_with fail
      refine (szBoard_any _ _ _ _ _ _ _ hm0 (by omega) (by omega)).mono ?_; rintro e w4 ⟨rfl, b⟩
      clear zX0 kX00 kX01 kX02
      rw [if_neg (by omega)]
      replace X0 := X0.below b X0.lt
      replace B := B.trans (b.mono B.size)
      have s5 : v1.heap.size ≤ w4.heap.size := b.size
      clear b
      have zX0 : w.heap.size < w4.heap.size := X0.lt
      have kX00 : w4.cell? ⟨w.heap.size, 0, none⟩ = some (.int .i64 R0) := (X0.cell 0).trans rfl
      have kX01 : w4.cell? ⟨w.heap.size, 1, none⟩ = some (.int .i64 C0) := (X0.cell 1).trans rfl
      have kX02 : w4.cell? ⟨w.heap.size, 2, none⟩ = some (.slice A0 l0.length cap0) := (X0.cell 2).trans rfl
      go_wp2_with fail
      refine (toBoard_any _ _ _ _ l0 _ hn0 ((hr0.below B).mono B.size)).mono ?_; rintro e w6 ⟨gT0, rfl, t, n, b⟩
      clear zX0 kX00 kX01 kX02
      replace X0 := X0.below b X0.lt
      replace B := B.trans (b.mono B.size)
      have s7 : w4.heap.size ≤ w6.heap.size := b.size
      clear b
      have T0 := t.own
      have loT0 : ∀ a : Addr, (some ⟨gT0, 0, none⟩) = some a → w4.heap.size ≤ a.block := fun a ha => by cases ha; exact n
      have hiT0 : ∀ a : Addr, (some ⟨gT0, 0, none⟩) = some a → 0 < l0.length → a.block < w6.heap.size := fun a ha _ => by cases ha; exact t.lt
      clear t n
      go_wp2_with fail
      refine (toIntS_any _ _ q1 _ hn1 ((hr1.below B).mono B.size)).mono ?_; rintro e w9 ⟨gT1, rfl, t, n, b⟩
      replace X0 := X0.below b X0.lt
      replace T0 := T0.keep b
      replace B := B.trans (b.mono B.size)
      have s10 : w6.heap.size ≤ w9.heap.size := b.size
      clear b
      have T1 := t.own
      have loT1 : ∀ a : Addr, (some ⟨gT1, 0, none⟩) = some a → w6.heap.size ≤ a.block := fun a ha => by cases ha; exact n
      have hiT1 : ∀ a : Addr, (some ⟨gT1, 0, none⟩) = some a → 0 < q1.length → a.block < w9.heap.size := fun a ha _ => by cases ha; exact t.lt
      clear t n
      go_wp2_with fail
      refine (spec_ArrivalCounts _ _ _ _ l0 _ _ q1 _ hn0 (T0.rd) hn1 (T1.rd) ).mono ?_; rintro e w12 ⟨Aw0, cw0, rfl, Ow0, loOw0, b⟩
      replace X0 := X0.below b X0.lt
      replace T0 := T0.keep b
      replace T1 := T1.keep b
      replace B := B.trans (b.mono B.size)
      have s13 : w9.heap.size ≤ w12.heap.size := b.size
      clear b
      have hiOw0 : ∀ a : Addr, Aw0 = some a → 0 < (arrL R0 C0 l0 q1).length → a.block < w12.heap.size := fun a ha hx => Ow0.lt (pos_ints hx) ha
      clear T0
      clear T1
      have zX0 : w.heap.size < w12.heap.size := X0.lt
      have kX00 : w12.cell? ⟨w.heap.size, 0, none⟩ = some (.int .i64 R0) := (X0.cell 0).trans rfl
      have kX01 : w12.cell? ⟨w.heap.size, 1, none⟩ = some (.int .i64 C0) := (X0.cell 1).trans rfl
      have kX02 : w12.cell? ⟨w.heap.size, 2, none⟩ = some (.slice A0 l0.length cap0) := (X0.cell 2).trans rfl
      go_wp2_with fail
      clear zX0 kX00 kX01 kX02
      refine (toBoard_any _ _ _ _ l0 _ hn0 ((hr0.below B).mono B.size)).mono ?_; rintro e w15 ⟨gO_x0, rfl, t, n, b⟩
      replace X0 := X0.below b X0.lt
      replace Ow0 := Ow0.keep b
      replace B := B.trans (b.mono B.size)
      have s16 : w12.heap.size ≤ w15.heap.size := b.size
      clear b
      have O_x0 := t.own
      have loO_x0 : ∀ a : Addr, (some ⟨gO_x0, 0, none⟩) = some a → w12.heap.size ≤ a.block := fun a ha => by cases ha; exact n
      have hiO_x0 : ∀ a : Addr, (some ⟨gO_x0, 0, none⟩) = some a → 0 < l0.length → a.block < w15.heap.size := fun a ha _ => by cases ha; exact t.lt
      clear t n
      go_wp2_with fail
      have b : Below w15.heap.size w15 (w15.alloc (.cells #[.int .i64 R0, .int .i64 C0, .slice (some ⟨gO_x0, 0, none⟩) l0.length l0.length] 32)) := (Below.refl _ _).alloc (Nat.le_refl _) _
      have XX0 : Whole (w15.alloc (.cells #[.int .i64 R0, .int .i64 C0, .slice (some ⟨gO_x0, 0, none⟩) l0.length l0.length] 32)) w15.heap.size 32 [.int .i64 R0, .int .i64 C0, .slice (some ⟨gO_x0, 0, none⟩) l0.length l0.length] := heap_alloc_new w15 _
      replace X0 := X0.below b X0.lt
      replace Ow0 := Ow0.keep b
      replace O_x0 := O_x0.keep b
      replace B := B.trans (b.mono B.size)
      have s19 : w15.heap.size ≤ (w15.alloc (.cells #[.int .i64 R0, .int .i64 C0, .slice (some ⟨gO_x0, 0, none⟩) l0.length l0.length] 32)).heap.size := b.size
      clear b
      have hiXX0 := XX0.lt
      generalize w15.alloc (.cells #[.int .i64 R0, .int .i64 C0, .slice (some ⟨gO_x0, 0, none⟩) l0.length l0.length] 32) = v18 at *
      refine (toIntS_any _ _ q1 _ hn1 ((hr1.below B).mono B.size)).mono ?_; rintro e w21 ⟨gO_x1, rfl, t, n, b⟩
      replace X0 := X0.below b X0.lt
      replace Ow0 := Ow0.keep b
      replace O_x0 := O_x0.keep b
      replace XX0 := XX0.below b XX0.lt
      replace B := B.trans (b.mono B.size)
      have s22 : v18.heap.size ≤ w21.heap.size := b.size
      clear b
      have O_x1 := t.own
      have loO_x1 : ∀ a : Addr, (some ⟨gO_x1, 0, none⟩) = some a → v18.heap.size ≤ a.block := fun a ha => by cases ha; exact n
      have hiO_x1 : ∀ a : Addr, (some ⟨gO_x1, 0, none⟩) = some a → 0 < q1.length → a.block < w21.heap.size := fun a ha _ => by cases ha; exact t.lt
      clear t n
      have zXX0 : w15.heap.size < w21.heap.size := XX0.lt
      have kXX00 : w21.cell? ⟨w15.heap.size, 0, none⟩ = some (.int .i64 R0) := (XX0.cell 0).trans rfl
      have kXX01 : w21.cell? ⟨w15.heap.size, 1, none⟩ = some (.int .i64 C0) := (XX0.cell 1).trans rfl
      have kXX02 : w21.cell? ⟨w15.heap.size, 2, none⟩ = some (.slice (some ⟨gO_x0, 0, none⟩) l0.length l0.length) := (XX0.cell 2).trans rfl
      go_wp2_with fail
      refine (impl_ArrivalCounts _ _ _ _ l0 _ _ q1 _ hn0 (O_x0.rd) hn1 (O_x1.rd) ).mono ?_; rintro e w24 ⟨Ag0, cg0, rfl, Og0, loOg0, b⟩
      clear zXX0 kXX00 kXX01 kXX02
      replace X0 := X0.below b X0.lt
      replace Ow0 := Ow0.keep b
      replace O_x0 := O_x0.keep b
      replace XX0 := XX0.below b XX0.lt
      replace O_x1 := O_x1.keep b
      replace B := B.trans (b.mono B.size)
      have s25 : w21.heap.size ≤ w24.heap.size := b.size
      clear b
      have hiOg0 : ∀ a : Addr, Ag0 = some a → 0 < (arrL R0 C0 l0 q1).length → a.block < w24.heap.size := fun a ha hx => Og0.lt (pos_ints hx) ha
      go_wp2_with fail
      refine (eqIntS_any _ _ _ _ (arrL R0 C0 l0 q1) (arrL R0 C0 l0 q1) _ (arrL_len _ _ _ _) (arrL_len _ _ _ _) Og0.rd Ow0.rd).mono ?_; rintro e w27 ⟨rfl, b⟩
      rw [decide_eq_true (rfl : (arrL R0 C0 l0 q1) = (arrL R0 C0 l0 q1))]
      replace X0 := X0.below b X0.lt
      replace Ow0 := Ow0.keep b
      replace O_x0 := O_x0.keep b
      replace XX0 := XX0.below b XX0.lt
      replace O_x1 := O_x1.keep b
      replace Og0 := Og0.keep b
      replace B := B.trans (b.mono B.size)
      have s28 : w24.heap.size ≤ w27.heap.size := b.size
      clear b
      have zXX0 : w15.heap.size < w27.heap.size := XX0.lt
      have kXX00 : w27.cell? ⟨w15.heap.size, 0, none⟩ = some (.int .i64 R0) := (XX0.cell 0).trans rfl
      have kXX01 : w27.cell? ⟨w15.heap.size, 1, none⟩ = some (.int .i64 C0) := (XX0.cell 1).trans rfl
      have kXX02 : w27.cell? ⟨w15.heap.size, 2, none⟩ = some (.slice (some ⟨gO_x0, 0, none⟩) l0.length l0.length) := (XX0.cell 2).trans rfl
      have zX0 : w.heap.size < w27.heap.size := X0.lt
      have kX00 : w27.cell? ⟨w.heap.size, 0, none⟩ = some (.int .i64 R0) := (X0.cell 0).trans rfl
      have kX01 : w27.cell? ⟨w.heap.size, 1, none⟩ = some (.int .i64 C0) := (X0.cell 1).trans rfl
      have kX02 : w27.cell? ⟨w.heap.size, 2, none⟩ = some (.slice A0 l0.length cap0) := (X0.cell 2).trans rfl
      go_wp2_with fail
      have hqXX0 : w15.heap.size < w27.heap.size := XX0.lt
      have hqX0 : w.heap.size < w27.heap.size := X0.lt
      go_region_held3 (fun w' => w'.cell? ⟨w15.heap.size, 0, none⟩ = some (.int .i64 R0) ∧ w'.cell? ⟨w15.heap.size, 1, none⟩ = some (.int .i64 C0) ∧ w'.cell? ⟨w15.heap.size, 2, none⟩ = some (.slice (some ⟨gO_x0, 0, none⟩) l0.length l0.length) ∧ w'.cell? ⟨w.heap.size, 0, none⟩ = some (.int .i64 R0) ∧ w'.cell? ⟨w.heap.size, 1, none⟩ = some (.int .i64 C0) ∧ w'.cell? ⟨w.heap.size, 2, none⟩ = some (.slice A0 l0.length cap0))
        (first | exact ⟨kXX00, kXX01, kXX02, kX00, kX01, kX02⟩ | exact ⟨(b.cell (p := ⟨w15.heap.size, 0, none⟩) hqXX0).trans kXX00, (b.cell (p := ⟨w15.heap.size, 1, none⟩) hqXX0).trans kXX01, (b.cell (p := ⟨w15.heap.size, 2, none⟩) hqXX0).trans kXX02, (b.cell (p := ⟨w.heap.size, 0, none⟩) hqX0).trans kX00, (b.cell (p := ⟨w.heap.size, 1, none⟩) hqX0).trans kX01, (b.cell (p := ⟨w.heap.size, 2, none⟩) hqX0).trans kX02⟩ | exact ⟨(b2.cell (p := ⟨w15.heap.size, 0, none⟩) (Nat.lt_of_lt_of_le hqXX0 b.size)).trans ((b.cell (p := ⟨w15.heap.size, 0, none⟩) hqXX0).trans kXX00), (b2.cell (p := ⟨w15.heap.size, 1, none⟩) (Nat.lt_of_lt_of_le hqXX0 b.size)).trans ((b.cell (p := ⟨w15.heap.size, 1, none⟩) hqXX0).trans kXX01), (b2.cell (p := ⟨w15.heap.size, 2, none⟩) (Nat.lt_of_lt_of_le hqXX0 b.size)).trans ((b.cell (p := ⟨w15.heap.size, 2, none⟩) hqXX0).trans kXX02), (b2.cell (p := ⟨w.heap.size, 0, none⟩) (Nat.lt_of_lt_of_le hqX0 b.size)).trans ((b.cell (p := ⟨w.heap.size, 0, none⟩) hqX0).trans kX00), (b2.cell (p := ⟨w.heap.size, 1, none⟩) (Nat.lt_of_lt_of_le hqX0 b.size)).trans ((b.cell (p := ⟨w.heap.size, 1, none⟩) hqX0).trans kX01), (b2.cell (p := ⟨w.heap.size, 2, none⟩) (Nat.lt_of_lt_of_le hqX0 b.size)).trans ((b.cell (p := ⟨w.heap.size, 2, none⟩) hqX0).trans kX02)⟩)
        ((first | (go_at_call 15; refine (toBoard_any _ _ _ _ l0 _ hn0 ((hr0.below B.drew).mono B.size)).mono ?_; rintro e w29a ⟨gq, rfl, t, n, b⟩) | (go_at_call 18; refine (eqBoard_any _ _ _ _ _ _ _ _ l0 l0 _ hn0 hn0 ((O_x0.keep (Below.drew (Below.refl _ _))).keep b).rd t.own.rd).mono ?_; rintro e w29b ⟨rfl, b2⟩; rw [eqB_same])))
      have bb : Below w27.heap.size w27 w29b := ((Below.refl _ _).drew).trans (b.trans (b2.mono b.size))
      clear b b2 t n zXX0 kXX00 kXX01 kXX02 zX0 kX00 kX01 kX02 hqXX0 hqX0
      replace X0 := X0.below bb X0.lt
      replace Ow0 := Ow0.keep bb
      replace O_x0 := O_x0.keep bb
      replace XX0 := XX0.below bb XX0.lt
      replace O_x1 := O_x1.keep bb
      replace Og0 := Og0.keep bb
      replace B := B.trans (bb.mono B.size)
      have s30 : w27.heap.size ≤ w29b.heap.size := bb.size
      clear bb
      go_wp2_with fail
      refine (toIntS_any _ _ q1 _ hn1 ((hr1.below B).mono B.size)).mono ?_; rintro e w31 ⟨gT1, rfl, t, n, b⟩
      replace X0 := X0.below b X0.lt
      replace Ow0 := Ow0.keep b
      replace O_x0 := O_x0.keep b
      replace XX0 := XX0.below b XX0.lt
      replace O_x1 := O_x1.keep b
      replace Og0 := Og0.keep b
      replace B := B.trans (b.mono B.size)
      have s32 : w29b.heap.size ≤ w31.heap.size := b.size
      clear b
      have T1 := t.own
      have loT1 : ∀ a : Addr, (some ⟨gT1, 0, none⟩) = some a → w29b.heap.size ≤ a.block := fun a ha => by cases ha; exact n
      have hiT1 : ∀ a : Addr, (some ⟨gT1, 0, none⟩) = some a → 0 < q1.length → a.block < w31.heap.size := fun a ha _ => by cases ha; exact t.lt
      clear t n
      go_wp2_with fail
      refine (eqIntS_any _ _ _ _ q1 q1 _ hn1 hn1 O_x1.rd T1.rd).mono ?_; rintro e w34 ⟨rfl, b⟩
      rw [decide_eq_true (rfl : q1 = q1)]
      replace X0 := X0.below b X0.lt
      replace Ow0 := Ow0.keep b
      replace O_x0 := O_x0.keep b
      replace XX0 := XX0.below b XX0.lt
      replace O_x1 := O_x1.keep b
      replace Og0 := Og0.keep b
      replace T1 := T1.keep b
      replace B := B.trans (b.mono B.size)
      have s35 : w31.heap.size ≤ w34.heap.size := b.size
      clear b
      clear T1
      have zXX0 : w15.heap.size < w34.heap.size := XX0.lt
      have kXX00 : w34.cell? ⟨w15.heap.size, 0, none⟩ = some (.int .i64 R0) := (XX0.cell 0).trans rfl
      have kXX01 : w34.cell? ⟨w15.heap.size, 1, none⟩ = some (.int .i64 C0) := (XX0.cell 1).trans rfl
      have kXX02 : w34.cell? ⟨w15.heap.size, 2, none⟩ = some (.slice (some ⟨gO_x0, 0, none⟩) l0.length l0.length) := (XX0.cell 2).trans rfl
      go_wp2_with fail
      refine (markBoard_n _ _ _ _ l0.length (flat l0) _ _ (flat_length _) hn0 (by omega) (by omega) O_x0).mono ?_; rintro e w36 ⟨rfl, o, b⟩
      clear zXX0 kXX00 kXX01 kXX02
      replace X0 := X0.fx b (fun hp a ha => own_apart O_x0 X0 (by decide) (pos_flat hp) ha)
      replace Ow0 := Ow0.fx b (fun hp hx a a' ha ha' => by have h1 := loO_x0 a' ha'; have h2 := hiOw0 a ha (ints_pos hx); omega)
      replace XX0 := XX0.fx b (fun hp a ha => own_apart O_x0 XX0 (by decide) (pos_flat hp) ha)
      replace O_x1 := O_x1.fx b (fun hp hx a a' ha ha' => by have h1 := hiO_x0 a' ha' hp; have h2 := loO_x1 a ha; omega)
      replace Og0 := Og0.fx b (fun hp hx a a' ha ha' => by have h1 := hiO_x0 a' ha' hp; have h2 := loOg0 a ha; omega)
      replace B := B.trans (b.below B.size (fun a ha => by have h1 := loO_x0 a ha; omega))
      have s37 : w34.heap.size ≤ w36.heap.size := b.size
      clear b
      replace O_x0 := o
      clear O_x0
      go_wp2_with fail
      refine (markIntS_n _ _ q1.length (ints q1) _ _ (ints_length _) hn1 (by omega) (by omega) O_x1).mono ?_; rintro e w38 ⟨rfl, o, b⟩
      replace X0 := X0.fx b (fun hp a ha => own_apart O_x1 X0 (by decide) (pos_ints hp) ha)
      replace Ow0 := Ow0.fx b (fun hp hx a a' ha ha' => by have h1 := loO_x1 a' ha'; have h2 := hiOw0 a ha (ints_pos hx); omega)
      replace XX0 := XX0.fx b (fun hp a ha => own_apart O_x1 XX0 (by decide) (pos_ints hp) ha)
      replace Og0 := Og0.fx b (fun hp hx a a' ha ha' => by have h1 := hiO_x1 a' ha' hp; have h2 := loOg0 a ha; omega)
      replace B := B.trans (b.below B.size (fun a ha => by have h1 := loO_x1 a ha; omega))
      have s39 : w36.heap.size ≤ w38.heap.size := b.size
      clear b
      replace O_x1 := o
      clear O_x1
      go_wp2_with fail
      refine (eqIntS_any _ _ _ _ (arrL R0 C0 l0 q1) (arrL R0 C0 l0 q1) _ (arrL_len _ _ _ _) (arrL_len _ _ _ _) Og0.rd Ow0.rd).mono ?_; rintro e w40 ⟨rfl, b⟩
      rw [decide_eq_true (rfl : (arrL R0 C0 l0 q1) = (arrL R0 C0 l0 q1))]
      replace X0 := X0.below b X0.lt
      replace Ow0 := Ow0.keep b
      replace XX0 := XX0.below b XX0.lt
      replace Og0 := Og0.keep b
      replace B := B.trans (b.mono B.size)
      have s41 : w38.heap.size ≤ w40.heap.size := b.size
      clear b
      go_wp2_with fail
      refine (markIntS_n _ _ (arrL R0 C0 l0 q1).length (ints (arrL R0 C0 l0 q1)) _ _ (ints_length _) (arrL_len _ _ _ _) (by omega) (by omega) Og0).mono ?_; rintro e w42 ⟨rfl, o, b⟩
      replace X0 := X0.fx b (fun hp a ha => own_apart Og0 X0 (by decide) (pos_ints hp) ha)
      replace Ow0 := Ow0.fx b (fun hp hx a a' ha ha' => by have h1 := loOg0 a' ha'; have h2 := hiOw0 a ha (ints_pos hx); omega)
      replace XX0 := XX0.fx b (fun hp a ha => own_apart Og0 XX0 (by decide) (pos_ints hp) ha)
      replace B := B.trans (b.below B.size (fun a ha => by have h1 := loOg0 a ha; omega))
      have s43 : w40.heap.size ≤ w42.heap.size := b.size
      clear b
      replace Og0 := o
      go_wp2_with fail
      refine (heldIntS_any _ _ (arrL R0 C0 l0 q1).length _ _ (arrL_len _ _ _ _) (by omega) (by omega) Og0).mono ?_; rintro e w44 ⟨rfl, rfl⟩
      have zX0 : w.heap.size < w42.heap.size := X0.lt
      have kX00 : w42.cell? ⟨w.heap.size, 0, none⟩ = some (.int .i64 R0) := (X0.cell 0).trans rfl
      have kX01 : w42.cell? ⟨w.heap.size, 1, none⟩ = some (.int .i64 C0) := (X0.cell 1).trans rfl
      have kX02 : w42.cell? ⟨w.heap.size, 2, none⟩ = some (.slice A0 l0.length cap0) := (X0.cell 2).trans rfl
      go_wp2_with fail
      refine (toBoard_any _ _ _ _ l0 _ hn0 ((hr0.below B).mono B.size)).mono ?_; rintro e w45 ⟨gT0, rfl, t, n, b⟩
      clear zX0 kX00 kX01 kX02
      replace X0 := X0.below b X0.lt
      replace Ow0 := Ow0.keep b
      replace XX0 := XX0.below b XX0.lt
      replace Og0 := Og0.keep b
      replace B := B.trans (b.mono B.size)
      have s46 : w42.heap.size ≤ w45.heap.size := b.size
      clear b
      have T0 := t.own
      have loT0 : ∀ a : Addr, (some ⟨gT0, 0, none⟩) = some a → w42.heap.size ≤ a.block := fun a ha => by cases ha; exact n
      have hiT0 : ∀ a : Addr, (some ⟨gT0, 0, none⟩) = some a → 0 < l0.length → a.block < w45.heap.size := fun a ha _ => by cases ha; exact t.lt
      clear t n
      go_wp2_with fail
      refine (toIntS_any _ _ q1 _ hn1 ((hr1.below B).mono B.size)).mono ?_; rintro e w48 ⟨gT1, rfl, t, n, b⟩
      replace X0 := X0.below b X0.lt
      replace Ow0 := Ow0.keep b
      replace XX0 := XX0.below b XX0.lt
      replace Og0 := Og0.keep b
      replace T0 := T0.keep b
      replace B := B.trans (b.mono B.size)
      have s49 : w45.heap.size ≤ w48.heap.size := b.size
      clear b
      have T1 := t.own
      have loT1 : ∀ a : Addr, (some ⟨gT1, 0, none⟩) = some a → w45.heap.size ≤ a.block := fun a ha => by cases ha; exact n
      have hiT1 : ∀ a : Addr, (some ⟨gT1, 0, none⟩) = some a → 0 < q1.length → a.block < w48.heap.size := fun a ha _ => by cases ha; exact t.lt
      clear t n
      go_wp2_with fail
      refine (impl_ArrivalCounts _ _ _ _ l0 _ _ q1 _ hn0 (T0.rd) hn1 (T1.rd) ).mono ?_; rintro e w51 ⟨Ah0, ch0, rfl, Oh0, loOh0, b⟩
      replace X0 := X0.below b X0.lt
      replace Ow0 := Ow0.keep b
      replace XX0 := XX0.below b XX0.lt
      replace Og0 := Og0.keep b
      replace T0 := T0.keep b
      replace T1 := T1.keep b
      replace B := B.trans (b.mono B.size)
      have s52 : w48.heap.size ≤ w51.heap.size := b.size
      clear b
      have hiOh0 : ∀ a : Addr, Ah0 = some a → 0 < (arrL R0 C0 l0 q1).length → a.block < w51.heap.size := fun a ha hx => Oh0.lt (pos_ints hx) ha
      clear T0
      clear T1
      go_wp2_with fail
      refine (eqIntS_any _ _ _ _ (arrL R0 C0 l0 q1) (arrL R0 C0 l0 q1) _ (arrL_len _ _ _ _) (arrL_len _ _ _ _) Oh0.rd Ow0.rd).mono ?_; rintro e w54 ⟨rfl, b⟩
      rw [decide_eq_true (rfl : (arrL R0 C0 l0 q1) = (arrL R0 C0 l0 q1))]
      replace X0 := X0.below b X0.lt
      replace Ow0 := Ow0.keep b
      replace XX0 := XX0.below b XX0.lt
      replace Og0 := Og0.keep b
      replace Oh0 := Oh0.keep b
      replace B := B.trans (b.mono B.size)
      have s55 : w51.heap.size ≤ w54.heap.size := b.size
      clear b
      go_wp2_with fail
      refine (heldIntS_any _ _ (arrL R0 C0 l0 q1).length _ _ (arrL_len _ _ _ _) (by omega) (by omega) Og0).mono ?_; rintro e w56 ⟨rfl, rfl⟩
      go_wp2
      go_returns
      exact ⟨rfl, B⟩
    · go_enter Try.func8, Try.ntmps8
      have B : Below w.heap.size w w := Below.refl _ _
      go_wp2_with fail
      have b : Below w.heap.size w (w.alloc (.cells #[.int .i64 R0, .int .i64 C0, .slice A0 l0.length cap0] 24)) := (Below.refl _ _).alloc (Nat.le_refl _) _
      have X0 : Whole (w.alloc (.cells #[.int .i64 R0, .int .i64 C0, .slice A0 l0.length cap0] 24)) w.heap.size 24 [.int .i64 R0, .int .i64 C0, .slice A0 l0.length cap0] := heap_alloc_new w _
      have HZ := Lib.hid (show (w.alloc (.cells #[.int .i64 R0, .int .i64 C0, .slice A0 l0.length cap0] 24)).heap.size = w.heap.size + 1 by rw [World.size_alloc])
      replace B := B.trans (b.mono B.size)
      have s2 : w.heap.size ≤ (w.alloc (.cells #[.int .i64 R0, .int .i64 C0, .slice A0 l0.length cap0] 24)).heap.size := b.size
      clear b
      have hiX0 := X0.lt
      generalize w.alloc (.cells #[.int .i64 R0, .int .i64 C0, .slice A0 l0.length cap0] 24) = v1 at *
      have zX0 : w.heap.size < v1.heap.size := X0.lt
      have kX00 : v1.cell? ⟨w.heap.size, 0, none⟩ = some (.int .i64 R0) := (X0.cell 0).trans rfl
      have kX01 : v1.cell? ⟨w.heap.size, 1, none⟩ = some (.int .i64 C0) := (X0.cell 1).trans rfl
      have kX02 : v1.cell? ⟨w.heap.size, 2, none⟩ = some (.slice A0 l0.length cap0) := (X0.cell 2).trans rfl
      go_wp2_with fail
      refine (szBoard_any _ _ _ _ _ _ _ hm0 (by omega) (by omega)).mono ?_; rintro e w4 ⟨rfl, b⟩
      clear zX0 kX00 kX01 kX02
      rw [if_pos (by omega)]
      replace X0 := X0.below b X0.lt
      replace B := B.trans (b.mono B.size)
      have s5 : v1.heap.size ≤ w4.heap.size := b.size
      clear b
      go_wp2
      go_returns
      exact ⟨rfl, B⟩
  · have hb1 : decide ((1048576 : Int) < (q1.length : Int)) = true := by simp; omega
    go_enter Try.func8, Try.ntmps8
    go_wp2
    go_returns
    exact ⟨rfl, by (repeat' (first | (with_reducible exact Below.refl _ _) | (with_reducible assumption) | (with_reducible refine Below.alloc ?_ ?_ _) | (with_reducible refine Below.setCell ?_ ?_ _) | (with_reducible refine Below.drew ?_) | (with_reducible refine below_drewN ?_ _) | (with_reducible refine Below.trans ?_ (Below.mono (by assumption) ?_)) | (with_reducible exact Nat.le_refl _) | (simp; done) | omega | (simp at *; omega)))⟩
theorem ArrivalCounts_walk : Walk Try.prog 8 Try.f8 := by
  intro H enc W base args ds ps hA hval
  rw [Try.params8] at hA hval
  obtain ⟨v0, vs0, d0, ds0, p0, q0, hv0, hd0, hp0, h0, r0⟩ := trodAll_cons hA
  obtain ⟨v1, vs1, d1, ds1, p1, q1, hv1, hd1, hp1, h1, r1⟩ := trodAll_cons r0
  obtain ⟨e1, e2, e3⟩ := trodAll_nil r1
  have ha : args = #[v0, v1] := by
    apply Array.toList_inj.1
    rw [hv0, hv1, e1]
  subst ha
  obtain ⟨R0, C0, A0, cap0, l0, rfl, hm0, hr0, -, -⟩ := open_board (hval 0 24 v0 rfl rfl) h0
  obtain ⟨A1, cap1, v1_, e1_, hm1, hr1⟩ := open_intL (hval 1 45 v1 rfl rfl) h1
  subst e1_
  exact ArrivalCounts_walk0 R0 C0 A0 cap0 l0 A1 cap1 v1_ W hm0 hr0 hm1 hr1
set_option maxRecDepth 100000 in
theorem ArrivalCounts_holds : Rows.FnExactArrivalCountsSaid :=
  OpenClaim.holds_of_wide 8 Try.f8 rfl rfl rfl rfl rfl rfl rfl ⟨rfl, rfl, rfl, rfl, rfl⟩ rfl rfl rfl rfl rfl (by kernel_rfl) Try.func8 (by kernel_rfl)
    (of_decide_eq_true (by kernel_rfl)) (by unfold Func.isWrapper; first | (rw [if_pos (by decide +kernel)]; kernel_rfl) | (rw [if_neg (by decide +kernel)]; exact ⟨rfl, rfl⟩))
    (fun os started H enc _ => lifted (C := Try.checked) (s := Rows.fnExactArrivalCountsSpec) started own (by kernel_rfl) Try.func8 ⟨#[], #[.agg #[.int .i64 0, .int .i64 0, .slice none 0 0], .slice none 0 0], []⟩ 8 (by kernel_rfl) (by kernel_rfl) (by kernel_rfl) (by kernel_rfl) (by kernel_rfl)
      laidOut (by kernel_rfl) rfl rfl Try.underlying4 (fun ds h => by
        match ds, h with
        | [d0, d1], _ => exact ⟨rfl, rfl, rfl⟩) ArrivalCounts_walk)
end Go.Proofs.Ytoflhjekldlaiaa
