/- For every machine, LogOf of the program answers as the model does, keeps its argument, and owns what it hands back. No condition. -/
import Derived.Test.YtlambflmabecfaaM1
import Derived.Deep.RegionHeld3
import Derived.Deep.DeepCutAuto
import Derived.Test.YtlambflmabecfaaM2
import Derived.Test.YtlambflmabecfaaM8
namespace Go.Proofs.Ytlambflmabecfaa
open Go.ChangeShapes Go.WideShapes Go.ChangeAt Go.RowKit Go.Joins Go.Deep
set_option linter.unusedSimpArgs false
set_option linter.unusedVariables false
set_option maxRecDepth 100000
set_option maxHeartbeats 4000000 in
theorem LogOf_walk0 (R0 C0 : Int) (A0 : Option Addr) (cap0 : Nat) (l0 : List (Int × Int)) (p0 q0 bl0 rd0 nx0 : Int) (w : World) (hm0 : l0.length ≤ maxLen) (hr0 : Rd w w.heap.size A0 (flat l0)) :
    Calls Try.prog 4 #[.agg #[.int .i64 R0, .int .i64 C0, .slice A0 l0.length cap0, .int .i64 p0, .int .i64 q0, .int .i64 bl0, .int .i64 rd0, .int .i64 nx0]] w fun e w' => e = .returned (.bool true) ∧ Below w.heap.size w w' := by
  by_cases ht0 : l0.length ≤ 1048576
  · have hn0 : l0.length ≤ 1048576 := by omega
    go_enter Try.func4, Try.ntmps4
    have B : Below w.heap.size w w := Below.refl _ _
    go_wp2_with fail
    have b : Below w.heap.size w (w.alloc (.cells #[.int .i64 R0, .int .i64 C0, .slice A0 l0.length cap0, .int .i64 p0, .int .i64 q0, .int .i64 bl0, .int .i64 rd0, .int .i64 nx0] 33)) := (Below.refl _ _).alloc (Nat.le_refl _) _
    have X0 : Whole (w.alloc (.cells #[.int .i64 R0, .int .i64 C0, .slice A0 l0.length cap0, .int .i64 p0, .int .i64 q0, .int .i64 bl0, .int .i64 rd0, .int .i64 nx0] 33)) w.heap.size 33 [.int .i64 R0, .int .i64 C0, .slice A0 l0.length cap0, .int .i64 p0, .int .i64 q0, .int .i64 bl0, .int .i64 rd0, .int .i64 nx0] := heap_alloc_new w _
    have HZ := Lib.hid (show (w.alloc (.cells #[.int .i64 R0, .int .i64 C0, .slice A0 l0.length cap0, .int .i64 p0, .int .i64 q0, .int .i64 bl0, .int .i64 rd0, .int .i64 nx0] 33)).heap.size = w.heap.size + 1 by rw [World.size_alloc])
    replace B := B.trans (b.mono B.size)
    have s2 : w.heap.size ≤ (w.alloc (.cells #[.int .i64 R0, .int .i64 C0, .slice A0 l0.length cap0, .int .i64 p0, .int .i64 q0, .int .i64 bl0, .int .i64 rd0, .int .i64 nx0] 33)).heap.size := b.size
    clear b
    have hiX0 := X0.lt
    generalize w.alloc (.cells #[.int .i64 R0, .int .i64 C0, .slice A0 l0.length cap0, .int .i64 p0, .int .i64 q0, .int .i64 bl0, .int .i64 rd0, .int .i64 nx0] 33) = v1 at *
    have zX0 : w.heap.size < v1.heap.size := X0.lt
    have kX00 : v1.cell? ⟨w.heap.size, 0, none⟩ = some (.int .i64 R0) := (X0.cell 0).trans rfl
    have kX01 : v1.cell? ⟨w.heap.size, 1, none⟩ = some (.int .i64 C0) := (X0.cell 1).trans rfl
    have kX02 : v1.cell? ⟨w.heap.size, 2, none⟩ = some (.slice A0 l0.length cap0) := (X0.cell 2).trans rfl
    have kX03 : v1.cell? ⟨w.heap.size, 3, none⟩ = some (.int .i64 p0) := (X0.cell 3).trans rfl
    have kX04 : v1.cell? ⟨w.heap.size, 4, none⟩ = some (.int .i64 q0) := (X0.cell 4).trans rfl
    have kX05 : v1.cell? ⟨w.heap.size, 5, none⟩ = some (.int .i64 bl0) := (X0.cell 5).trans rfl
    have kX06 : v1.cell? ⟨w.heap.size, 6, none⟩ = some (.int .i64 rd0) := (X0.cell 6).trans rfl
    have kX07 : v1.cell? ⟨w.heap.size, 7, none⟩ = some (.int .i64 nx0) := (X0.cell 7).trans rfl
    go_wp2_with fail
    refine (szMachine_any _ _ _ _ _ _ _ _ _ _ _ _ hm0 (by omega) (by omega)).mono ?_; rintro e w4 ⟨rfl, b⟩
    clear zX0 kX00 kX01 kX02 kX03 kX04 kX05 kX06 kX07
    rw [if_neg (by omega)]
    replace X0 := X0.below b X0.lt
    replace B := B.trans (b.mono B.size)
    have s5 : v1.heap.size ≤ w4.heap.size := b.size
    clear b
    have zX0 : w.heap.size < w4.heap.size := X0.lt
    have kX00 : w4.cell? ⟨w.heap.size, 0, none⟩ = some (.int .i64 R0) := (X0.cell 0).trans rfl
    have kX01 : w4.cell? ⟨w.heap.size, 1, none⟩ = some (.int .i64 C0) := (X0.cell 1).trans rfl
    have kX02 : w4.cell? ⟨w.heap.size, 2, none⟩ = some (.slice A0 l0.length cap0) := (X0.cell 2).trans rfl
    have kX03 : w4.cell? ⟨w.heap.size, 3, none⟩ = some (.int .i64 p0) := (X0.cell 3).trans rfl
    have kX04 : w4.cell? ⟨w.heap.size, 4, none⟩ = some (.int .i64 q0) := (X0.cell 4).trans rfl
    have kX05 : w4.cell? ⟨w.heap.size, 5, none⟩ = some (.int .i64 bl0) := (X0.cell 5).trans rfl
    have kX06 : w4.cell? ⟨w.heap.size, 6, none⟩ = some (.int .i64 rd0) := (X0.cell 6).trans rfl
    have kX07 : w4.cell? ⟨w.heap.size, 7, none⟩ = some (.int .i64 nx0) := (X0.cell 7).trans rfl
    go_wp2_with fail
    refine (toMachine_any _ _ _ _ l0 _ _ _ _ _ _ hn0 ((hr0.below B).mono B.size)).mono ?_; rintro e w6 ⟨gT0, rfl, t, n, b⟩
    clear zX0 kX00 kX01 kX02 kX03 kX04 kX05 kX06 kX07
    replace X0 := X0.below b X0.lt
    replace B := B.trans (b.mono B.size)
    have s7 : w4.heap.size ≤ w6.heap.size := b.size
    clear b
    have T0 := t.own
    have loT0 : ∀ a : Addr, (some ⟨gT0, 0, none⟩) = some a → w4.heap.size ≤ a.block := fun a ha => by cases ha; exact n
    have hiT0 : ∀ a : Addr, (some ⟨gT0, 0, none⟩) = some a → 0 < l0.length → a.block < w6.heap.size := fun a ha _ => by cases ha; exact t.lt
    clear t n
    go_wp2_with fail
    refine (spec_LogOf _ _ _ _ l0 _ _ _ _ _ _ hn0 (T0.rd) ).mono ?_; rintro e w9 ⟨Aw0, cw0, rfl, Ow0, loOw0, b⟩
    replace X0 := X0.below b X0.lt
    replace T0 := T0.keep b
    replace B := B.trans (b.mono B.size)
    have s10 : w6.heap.size ≤ w9.heap.size := b.size
    clear b
    have hiOw0 : ∀ a : Addr, Aw0 = some a → 0 < (relS (finO R0 C0 l0 p0 q0 bl0 rd0 nx0)).length → a.block < w9.heap.size := fun a ha hx => Ow0.lt (pos_flatL hx) ha
    clear T0
    have zX0 : w.heap.size < w9.heap.size := X0.lt
    have kX00 : w9.cell? ⟨w.heap.size, 0, none⟩ = some (.int .i64 R0) := (X0.cell 0).trans rfl
    have kX01 : w9.cell? ⟨w.heap.size, 1, none⟩ = some (.int .i64 C0) := (X0.cell 1).trans rfl
    have kX02 : w9.cell? ⟨w.heap.size, 2, none⟩ = some (.slice A0 l0.length cap0) := (X0.cell 2).trans rfl
    have kX03 : w9.cell? ⟨w.heap.size, 3, none⟩ = some (.int .i64 p0) := (X0.cell 3).trans rfl
    have kX04 : w9.cell? ⟨w.heap.size, 4, none⟩ = some (.int .i64 q0) := (X0.cell 4).trans rfl
    have kX05 : w9.cell? ⟨w.heap.size, 5, none⟩ = some (.int .i64 bl0) := (X0.cell 5).trans rfl
    have kX06 : w9.cell? ⟨w.heap.size, 6, none⟩ = some (.int .i64 rd0) := (X0.cell 6).trans rfl
    have kX07 : w9.cell? ⟨w.heap.size, 7, none⟩ = some (.int .i64 nx0) := (X0.cell 7).trans rfl
    go_wp2_with fail
    clear zX0 kX00 kX01 kX02 kX03 kX04 kX05 kX06 kX07
    refine (toMachine_any _ _ _ _ l0 _ _ _ _ _ _ hn0 ((hr0.below B).mono B.size)).mono ?_; rintro e w12 ⟨gO_x0, rfl, t, n, b⟩
    replace X0 := X0.below b X0.lt
    replace Ow0 := Ow0.keep b
    replace B := B.trans (b.mono B.size)
    have s13 : w9.heap.size ≤ w12.heap.size := b.size
    clear b
    have O_x0 := t.own
    have loO_x0 : ∀ a : Addr, (some ⟨gO_x0, 0, none⟩) = some a → w9.heap.size ≤ a.block := fun a ha => by cases ha; exact n
    have hiO_x0 : ∀ a : Addr, (some ⟨gO_x0, 0, none⟩) = some a → 0 < l0.length → a.block < w12.heap.size := fun a ha _ => by cases ha; exact t.lt
    clear t n
    go_wp2_with fail
    have b : Below w12.heap.size w12 (w12.alloc (.cells #[.int .i64 R0, .int .i64 C0, .slice (some ⟨gO_x0, 0, none⟩) l0.length l0.length, .int .i64 p0, .int .i64 q0, .int .i64 bl0, .int .i64 rd0, .int .i64 nx0] 41)) := (Below.refl _ _).alloc (Nat.le_refl _) _
    have XX0 : Whole (w12.alloc (.cells #[.int .i64 R0, .int .i64 C0, .slice (some ⟨gO_x0, 0, none⟩) l0.length l0.length, .int .i64 p0, .int .i64 q0, .int .i64 bl0, .int .i64 rd0, .int .i64 nx0] 41)) w12.heap.size 41 [.int .i64 R0, .int .i64 C0, .slice (some ⟨gO_x0, 0, none⟩) l0.length l0.length, .int .i64 p0, .int .i64 q0, .int .i64 bl0, .int .i64 rd0, .int .i64 nx0] := heap_alloc_new w12 _
    replace X0 := X0.below b X0.lt
    replace Ow0 := Ow0.keep b
    replace O_x0 := O_x0.keep b
    replace B := B.trans (b.mono B.size)
    have s16 : w12.heap.size ≤ (w12.alloc (.cells #[.int .i64 R0, .int .i64 C0, .slice (some ⟨gO_x0, 0, none⟩) l0.length l0.length, .int .i64 p0, .int .i64 q0, .int .i64 bl0, .int .i64 rd0, .int .i64 nx0] 41)).heap.size := b.size
    clear b
    have hiXX0 := XX0.lt
    generalize w12.alloc (.cells #[.int .i64 R0, .int .i64 C0, .slice (some ⟨gO_x0, 0, none⟩) l0.length l0.length, .int .i64 p0, .int .i64 q0, .int .i64 bl0, .int .i64 rd0, .int .i64 nx0] 41) = v15 at *
    refine (impl_LogOf _ _ _ _ l0 _ _ _ _ _ _ hn0 (O_x0.rd) ).mono ?_; rintro e w18 ⟨Ag0, cg0, rfl, Og0, loOg0, b⟩
    replace X0 := X0.below b X0.lt
    replace Ow0 := Ow0.keep b
    replace O_x0 := O_x0.keep b
    replace XX0 := XX0.below b XX0.lt
    replace B := B.trans (b.mono B.size)
    have s19 : v15.heap.size ≤ w18.heap.size := b.size
    clear b
    have hiOg0 : ∀ a : Addr, Ag0 = some a → 0 < (relS (finO R0 C0 l0 p0 q0 bl0 rd0 nx0)).length → a.block < w18.heap.size := fun a ha hx => Og0.lt (pos_flatL hx) ha
    go_wp2_with fail
    refine (eqLogS_any _ _ _ _ (relS (finO R0 C0 l0 p0 q0 bl0 rd0 nx0)) (relS (finO R0 C0 l0 p0 q0 bl0 rd0 nx0)) _ (by have h1 := relS_few R0 C0 l0 p0 q0 bl0 rd0 nx0; omega) (by have h1 := relS_few R0 C0 l0 p0 q0 bl0 rd0 nx0; omega) Og0.rd Ow0.rd).mono ?_; rintro e w21 ⟨rfl, b⟩
    rw [decide_eq_true (rfl : (relS (finO R0 C0 l0 p0 q0 bl0 rd0 nx0)) = (relS (finO R0 C0 l0 p0 q0 bl0 rd0 nx0)))]
    replace X0 := X0.below b X0.lt
    replace Ow0 := Ow0.keep b
    replace O_x0 := O_x0.keep b
    replace XX0 := XX0.below b XX0.lt
    replace Og0 := Og0.keep b
    replace B := B.trans (b.mono B.size)
    have s22 : w18.heap.size ≤ w21.heap.size := b.size
    clear b
    have zXX0 : w12.heap.size < w21.heap.size := XX0.lt
    have kXX00 : w21.cell? ⟨w12.heap.size, 0, none⟩ = some (.int .i64 R0) := (XX0.cell 0).trans rfl
    have kXX01 : w21.cell? ⟨w12.heap.size, 1, none⟩ = some (.int .i64 C0) := (XX0.cell 1).trans rfl
    have kXX02 : w21.cell? ⟨w12.heap.size, 2, none⟩ = some (.slice (some ⟨gO_x0, 0, none⟩) l0.length l0.length) := (XX0.cell 2).trans rfl
    have kXX03 : w21.cell? ⟨w12.heap.size, 3, none⟩ = some (.int .i64 p0) := (XX0.cell 3).trans rfl
    have kXX04 : w21.cell? ⟨w12.heap.size, 4, none⟩ = some (.int .i64 q0) := (XX0.cell 4).trans rfl
    have kXX05 : w21.cell? ⟨w12.heap.size, 5, none⟩ = some (.int .i64 bl0) := (XX0.cell 5).trans rfl
    have kXX06 : w21.cell? ⟨w12.heap.size, 6, none⟩ = some (.int .i64 rd0) := (XX0.cell 6).trans rfl
    have kXX07 : w21.cell? ⟨w12.heap.size, 7, none⟩ = some (.int .i64 nx0) := (XX0.cell 7).trans rfl
    have zX0 : w.heap.size < w21.heap.size := X0.lt
    have kX00 : w21.cell? ⟨w.heap.size, 0, none⟩ = some (.int .i64 R0) := (X0.cell 0).trans rfl
    have kX01 : w21.cell? ⟨w.heap.size, 1, none⟩ = some (.int .i64 C0) := (X0.cell 1).trans rfl
    have kX02 : w21.cell? ⟨w.heap.size, 2, none⟩ = some (.slice A0 l0.length cap0) := (X0.cell 2).trans rfl
    have kX03 : w21.cell? ⟨w.heap.size, 3, none⟩ = some (.int .i64 p0) := (X0.cell 3).trans rfl
    have kX04 : w21.cell? ⟨w.heap.size, 4, none⟩ = some (.int .i64 q0) := (X0.cell 4).trans rfl
    have kX05 : w21.cell? ⟨w.heap.size, 5, none⟩ = some (.int .i64 bl0) := (X0.cell 5).trans rfl
    have kX06 : w21.cell? ⟨w.heap.size, 6, none⟩ = some (.int .i64 rd0) := (X0.cell 6).trans rfl
    have kX07 : w21.cell? ⟨w.heap.size, 7, none⟩ = some (.int .i64 nx0) := (X0.cell 7).trans rfl
    go_wp2_with fail
    have hqXX0 : w12.heap.size < w21.heap.size := XX0.lt
    have hqX0 : w.heap.size < w21.heap.size := X0.lt
    go_region_held3 (fun w' => w'.cell? ⟨w12.heap.size, 0, none⟩ = some (.int .i64 R0) ∧ w'.cell? ⟨w12.heap.size, 1, none⟩ = some (.int .i64 C0) ∧ w'.cell? ⟨w12.heap.size, 2, none⟩ = some (.slice (some ⟨gO_x0, 0, none⟩) l0.length l0.length) ∧ w'.cell? ⟨w12.heap.size, 3, none⟩ = some (.int .i64 p0) ∧ w'.cell? ⟨w12.heap.size, 4, none⟩ = some (.int .i64 q0) ∧ w'.cell? ⟨w12.heap.size, 5, none⟩ = some (.int .i64 bl0) ∧ w'.cell? ⟨w12.heap.size, 6, none⟩ = some (.int .i64 rd0) ∧ w'.cell? ⟨w12.heap.size, 7, none⟩ = some (.int .i64 nx0) ∧ w'.cell? ⟨w.heap.size, 0, none⟩ = some (.int .i64 R0) ∧ w'.cell? ⟨w.heap.size, 1, none⟩ = some (.int .i64 C0) ∧ w'.cell? ⟨w.heap.size, 2, none⟩ = some (.slice A0 l0.length cap0) ∧ w'.cell? ⟨w.heap.size, 3, none⟩ = some (.int .i64 p0) ∧ w'.cell? ⟨w.heap.size, 4, none⟩ = some (.int .i64 q0) ∧ w'.cell? ⟨w.heap.size, 5, none⟩ = some (.int .i64 bl0) ∧ w'.cell? ⟨w.heap.size, 6, none⟩ = some (.int .i64 rd0) ∧ w'.cell? ⟨w.heap.size, 7, none⟩ = some (.int .i64 nx0))
      (first | exact ⟨kXX00, kXX01, kXX02, kXX03, kXX04, kXX05, kXX06, kXX07, kX00, kX01, kX02, kX03, kX04, kX05, kX06, kX07⟩ | exact ⟨(b.cell (p := ⟨w12.heap.size, 0, none⟩) hqXX0).trans kXX00, (b.cell (p := ⟨w12.heap.size, 1, none⟩) hqXX0).trans kXX01, (b.cell (p := ⟨w12.heap.size, 2, none⟩) hqXX0).trans kXX02, (b.cell (p := ⟨w12.heap.size, 3, none⟩) hqXX0).trans kXX03, (b.cell (p := ⟨w12.heap.size, 4, none⟩) hqXX0).trans kXX04, (b.cell (p := ⟨w12.heap.size, 5, none⟩) hqXX0).trans kXX05, (b.cell (p := ⟨w12.heap.size, 6, none⟩) hqXX0).trans kXX06, (b.cell (p := ⟨w12.heap.size, 7, none⟩) hqXX0).trans kXX07, (b.cell (p := ⟨w.heap.size, 0, none⟩) hqX0).trans kX00, (b.cell (p := ⟨w.heap.size, 1, none⟩) hqX0).trans kX01, (b.cell (p := ⟨w.heap.size, 2, none⟩) hqX0).trans kX02, (b.cell (p := ⟨w.heap.size, 3, none⟩) hqX0).trans kX03, (b.cell (p := ⟨w.heap.size, 4, none⟩) hqX0).trans kX04, (b.cell (p := ⟨w.heap.size, 5, none⟩) hqX0).trans kX05, (b.cell (p := ⟨w.heap.size, 6, none⟩) hqX0).trans kX06, (b.cell (p := ⟨w.heap.size, 7, none⟩) hqX0).trans kX07⟩ | exact ⟨(b2.cell (p := ⟨w12.heap.size, 0, none⟩) (Nat.lt_of_lt_of_le hqXX0 b.size)).trans ((b.cell (p := ⟨w12.heap.size, 0, none⟩) hqXX0).trans kXX00), (b2.cell (p := ⟨w12.heap.size, 1, none⟩) (Nat.lt_of_lt_of_le hqXX0 b.size)).trans ((b.cell (p := ⟨w12.heap.size, 1, none⟩) hqXX0).trans kXX01), (b2.cell (p := ⟨w12.heap.size, 2, none⟩) (Nat.lt_of_lt_of_le hqXX0 b.size)).trans ((b.cell (p := ⟨w12.heap.size, 2, none⟩) hqXX0).trans kXX02), (b2.cell (p := ⟨w12.heap.size, 3, none⟩) (Nat.lt_of_lt_of_le hqXX0 b.size)).trans ((b.cell (p := ⟨w12.heap.size, 3, none⟩) hqXX0).trans kXX03), (b2.cell (p := ⟨w12.heap.size, 4, none⟩) (Nat.lt_of_lt_of_le hqXX0 b.size)).trans ((b.cell (p := ⟨w12.heap.size, 4, none⟩) hqXX0).trans kXX04), (b2.cell (p := ⟨w12.heap.size, 5, none⟩) (Nat.lt_of_lt_of_le hqXX0 b.size)).trans ((b.cell (p := ⟨w12.heap.size, 5, none⟩) hqXX0).trans kXX05), (b2.cell (p := ⟨w12.heap.size, 6, none⟩) (Nat.lt_of_lt_of_le hqXX0 b.size)).trans ((b.cell (p := ⟨w12.heap.size, 6, none⟩) hqXX0).trans kXX06), (b2.cell (p := ⟨w12.heap.size, 7, none⟩) (Nat.lt_of_lt_of_le hqXX0 b.size)).trans ((b.cell (p := ⟨w12.heap.size, 7, none⟩) hqXX0).trans kXX07), (b2.cell (p := ⟨w.heap.size, 0, none⟩) (Nat.lt_of_lt_of_le hqX0 b.size)).trans ((b.cell (p := ⟨w.heap.size, 0, none⟩) hqX0).trans kX00), (b2.cell (p := ⟨w.heap.size, 1, none⟩) (Nat.lt_of_lt_of_le hqX0 b.size)).trans ((b.cell (p := ⟨w.heap.size, 1, none⟩) hqX0).trans kX01), (b2.cell (p := ⟨w.heap.size, 2, none⟩) (Nat.lt_of_lt_of_le hqX0 b.size)).trans ((b.cell (p := ⟨w.heap.size, 2, none⟩) hqX0).trans kX02), (b2.cell (p := ⟨w.heap.size, 3, none⟩) (Nat.lt_of_lt_of_le hqX0 b.size)).trans ((b.cell (p := ⟨w.heap.size, 3, none⟩) hqX0).trans kX03), (b2.cell (p := ⟨w.heap.size, 4, none⟩) (Nat.lt_of_lt_of_le hqX0 b.size)).trans ((b.cell (p := ⟨w.heap.size, 4, none⟩) hqX0).trans kX04), (b2.cell (p := ⟨w.heap.size, 5, none⟩) (Nat.lt_of_lt_of_le hqX0 b.size)).trans ((b.cell (p := ⟨w.heap.size, 5, none⟩) hqX0).trans kX05), (b2.cell (p := ⟨w.heap.size, 6, none⟩) (Nat.lt_of_lt_of_le hqX0 b.size)).trans ((b.cell (p := ⟨w.heap.size, 6, none⟩) hqX0).trans kX06), (b2.cell (p := ⟨w.heap.size, 7, none⟩) (Nat.lt_of_lt_of_le hqX0 b.size)).trans ((b.cell (p := ⟨w.heap.size, 7, none⟩) hqX0).trans kX07)⟩)
      ((first | (go_at_call 17; refine (toMachine_any _ _ _ _ l0 _ _ _ _ _ _ hn0 ((hr0.below B.drew).mono B.size)).mono ?_; rintro e w23a ⟨gq, rfl, t, n, b⟩) | (go_at_call 19; refine (eqMachine_same _ _ _ _ _ _ _ _ _ _ _ l0 _ hn0 ((O_x0.keep (Below.drew (Below.refl _ _))).keep b).rd t.own.rd).mono ?_; rintro e w23b ⟨rfl, b2⟩)))
    have bb : Below w21.heap.size w21 w23b := ((Below.refl _ _).drew).trans (b.trans (b2.mono b.size))
    clear b b2 t n zXX0 kXX00 kXX01 kXX02 kXX03 kXX04 kXX05 kXX06 kXX07 zX0 kX00 kX01 kX02 kX03 kX04 kX05 kX06 kX07 hqXX0 hqX0
    replace X0 := X0.below bb X0.lt
    replace Ow0 := Ow0.keep bb
    replace O_x0 := O_x0.keep bb
    replace XX0 := XX0.below bb XX0.lt
    replace Og0 := Og0.keep bb
    replace B := B.trans (bb.mono B.size)
    have s24 : w21.heap.size ≤ w23b.heap.size := bb.size
    clear bb
    have zXX0 : w12.heap.size < w23b.heap.size := XX0.lt
    have kXX00 : w23b.cell? ⟨w12.heap.size, 0, none⟩ = some (.int .i64 R0) := (XX0.cell 0).trans rfl
    have kXX01 : w23b.cell? ⟨w12.heap.size, 1, none⟩ = some (.int .i64 C0) := (XX0.cell 1).trans rfl
    have kXX02 : w23b.cell? ⟨w12.heap.size, 2, none⟩ = some (.slice (some ⟨gO_x0, 0, none⟩) l0.length l0.length) := (XX0.cell 2).trans rfl
    have kXX03 : w23b.cell? ⟨w12.heap.size, 3, none⟩ = some (.int .i64 p0) := (XX0.cell 3).trans rfl
    have kXX04 : w23b.cell? ⟨w12.heap.size, 4, none⟩ = some (.int .i64 q0) := (XX0.cell 4).trans rfl
    have kXX05 : w23b.cell? ⟨w12.heap.size, 5, none⟩ = some (.int .i64 bl0) := (XX0.cell 5).trans rfl
    have kXX06 : w23b.cell? ⟨w12.heap.size, 6, none⟩ = some (.int .i64 rd0) := (XX0.cell 6).trans rfl
    have kXX07 : w23b.cell? ⟨w12.heap.size, 7, none⟩ = some (.int .i64 nx0) := (XX0.cell 7).trans rfl
    go_wp2_with fail
    refine (markMachine_n _ _ _ _ l0.length _ _ _ _ _ (flat l0) _ _ (flat_length _) hn0 (by omega) (by omega) O_x0).mono ?_; rintro e w25 ⟨rfl, o, b⟩
    clear zXX0 kXX00 kXX01 kXX02 kXX03 kXX04 kXX05 kXX06 kXX07
    replace X0 := X0.fx b (fun hp a ha => own_apart O_x0 X0 (by decide) (pos_flat hp) ha)
    replace Ow0 := Ow0.fx b (fun hp hx a a' ha ha' => by have h1 := loO_x0 a' ha'; have h2 := hiOw0 a ha (flatL_pos hx); omega)
    replace XX0 := XX0.fx b (fun hp a ha => own_apart O_x0 XX0 (by decide) (pos_flat hp) ha)
    replace Og0 := Og0.fx b (fun hp hx a a' ha ha' => by have h1 := hiO_x0 a' ha' hp; have h2 := loOg0 a ha; omega)
    replace B := B.trans (b.below B.size (fun a ha => by have h1 := loO_x0 a ha; omega))
    have s26 : w23b.heap.size ≤ w25.heap.size := b.size
    clear b
    replace O_x0 := o
    clear O_x0
    go_wp2_with fail
    refine (eqLogS_any _ _ _ _ (relS (finO R0 C0 l0 p0 q0 bl0 rd0 nx0)) (relS (finO R0 C0 l0 p0 q0 bl0 rd0 nx0)) _ (by have h1 := relS_few R0 C0 l0 p0 q0 bl0 rd0 nx0; omega) (by have h1 := relS_few R0 C0 l0 p0 q0 bl0 rd0 nx0; omega) Og0.rd Ow0.rd).mono ?_; rintro e w27 ⟨rfl, b⟩
    rw [decide_eq_true (rfl : (relS (finO R0 C0 l0 p0 q0 bl0 rd0 nx0)) = (relS (finO R0 C0 l0 p0 q0 bl0 rd0 nx0)))]
    replace X0 := X0.below b X0.lt
    replace Ow0 := Ow0.keep b
    replace XX0 := XX0.below b XX0.lt
    replace Og0 := Og0.keep b
    replace B := B.trans (b.mono B.size)
    have s28 : w25.heap.size ≤ w27.heap.size := b.size
    clear b
    go_wp2_with fail
    refine (markLogS_n _ _ (relS (finO R0 C0 l0 p0 q0 bl0 rd0 nx0)).length (flatL (relS (finO R0 C0 l0 p0 q0 bl0 rd0 nx0))) _ _ (flatL_len _) (by have h1 := relS_few R0 C0 l0 p0 q0 bl0 rd0 nx0; omega) (by omega) (by omega) Og0).mono ?_; rintro e w29 ⟨rfl, o, b⟩
    replace X0 := X0.fx b (fun hp a ha => own_apart Og0 X0 (by decide) (pos_flatL hp) ha)
    replace Ow0 := Ow0.fx b (fun hp hx a a' ha ha' => by have h1 := loOg0 a' ha'; have h2 := hiOw0 a ha (flatL_pos hx); omega)
    replace XX0 := XX0.fx b (fun hp a ha => own_apart Og0 XX0 (by decide) (pos_flatL hp) ha)
    replace B := B.trans (b.below B.size (fun a ha => by have h1 := loOg0 a ha; omega))
    have s30 : w27.heap.size ≤ w29.heap.size := b.size
    clear b
    replace Og0 := o
    go_wp2_with fail
    refine (heldLogS_any _ _ (relS (finO R0 C0 l0 p0 q0 bl0 rd0 nx0)).length _ _ (by have h1 := relS_few R0 C0 l0 p0 q0 bl0 rd0 nx0; omega) (by omega) (by omega) Og0).mono ?_; rintro e w31 ⟨rfl, rfl⟩
    have zX0 : w.heap.size < w29.heap.size := X0.lt
    have kX00 : w29.cell? ⟨w.heap.size, 0, none⟩ = some (.int .i64 R0) := (X0.cell 0).trans rfl
    have kX01 : w29.cell? ⟨w.heap.size, 1, none⟩ = some (.int .i64 C0) := (X0.cell 1).trans rfl
    have kX02 : w29.cell? ⟨w.heap.size, 2, none⟩ = some (.slice A0 l0.length cap0) := (X0.cell 2).trans rfl
    have kX03 : w29.cell? ⟨w.heap.size, 3, none⟩ = some (.int .i64 p0) := (X0.cell 3).trans rfl
    have kX04 : w29.cell? ⟨w.heap.size, 4, none⟩ = some (.int .i64 q0) := (X0.cell 4).trans rfl
    have kX05 : w29.cell? ⟨w.heap.size, 5, none⟩ = some (.int .i64 bl0) := (X0.cell 5).trans rfl
    have kX06 : w29.cell? ⟨w.heap.size, 6, none⟩ = some (.int .i64 rd0) := (X0.cell 6).trans rfl
    have kX07 : w29.cell? ⟨w.heap.size, 7, none⟩ = some (.int .i64 nx0) := (X0.cell 7).trans rfl
    go_wp2_with fail
    refine (toMachine_any _ _ _ _ l0 _ _ _ _ _ _ hn0 ((hr0.below B).mono B.size)).mono ?_; rintro e w32 ⟨gT0, rfl, t, n, b⟩
    clear zX0 kX00 kX01 kX02 kX03 kX04 kX05 kX06 kX07
    replace X0 := X0.below b X0.lt
    replace Ow0 := Ow0.keep b
    replace XX0 := XX0.below b XX0.lt
    replace Og0 := Og0.keep b
    replace B := B.trans (b.mono B.size)
    have s33 : w29.heap.size ≤ w32.heap.size := b.size
    clear b
    have T0 := t.own
    have loT0 : ∀ a : Addr, (some ⟨gT0, 0, none⟩) = some a → w29.heap.size ≤ a.block := fun a ha => by cases ha; exact n
    have hiT0 : ∀ a : Addr, (some ⟨gT0, 0, none⟩) = some a → 0 < l0.length → a.block < w32.heap.size := fun a ha _ => by cases ha; exact t.lt
    clear t n
    go_wp2_with fail
    refine (impl_LogOf _ _ _ _ l0 _ _ _ _ _ _ hn0 (T0.rd) ).mono ?_; rintro e w35 ⟨Ah0, ch0, rfl, Oh0, loOh0, b⟩
    replace X0 := X0.below b X0.lt
    replace Ow0 := Ow0.keep b
    replace XX0 := XX0.below b XX0.lt
    replace Og0 := Og0.keep b
    replace T0 := T0.keep b
    replace B := B.trans (b.mono B.size)
    have s36 : w32.heap.size ≤ w35.heap.size := b.size
    clear b
    have hiOh0 : ∀ a : Addr, Ah0 = some a → 0 < (relS (finO R0 C0 l0 p0 q0 bl0 rd0 nx0)).length → a.block < w35.heap.size := fun a ha hx => Oh0.lt (pos_flatL hx) ha
    clear T0
    go_wp2_with fail
    refine (eqLogS_any _ _ _ _ (relS (finO R0 C0 l0 p0 q0 bl0 rd0 nx0)) (relS (finO R0 C0 l0 p0 q0 bl0 rd0 nx0)) _ (by have h1 := relS_few R0 C0 l0 p0 q0 bl0 rd0 nx0; omega) (by have h1 := relS_few R0 C0 l0 p0 q0 bl0 rd0 nx0; omega) Oh0.rd Ow0.rd).mono ?_; rintro e w38 ⟨rfl, b⟩
    rw [decide_eq_true (rfl : (relS (finO R0 C0 l0 p0 q0 bl0 rd0 nx0)) = (relS (finO R0 C0 l0 p0 q0 bl0 rd0 nx0)))]
    replace X0 := X0.below b X0.lt
    replace Ow0 := Ow0.keep b
    replace XX0 := XX0.below b XX0.lt
    replace Og0 := Og0.keep b
    replace Oh0 := Oh0.keep b
    replace B := B.trans (b.mono B.size)
    have s39 : w35.heap.size ≤ w38.heap.size := b.size
    clear b
    go_wp2_with fail
    refine (heldLogS_any _ _ (relS (finO R0 C0 l0 p0 q0 bl0 rd0 nx0)).length _ _ (by have h1 := relS_few R0 C0 l0 p0 q0 bl0 rd0 nx0; omega) (by omega) (by omega) Og0).mono ?_; rintro e w40 ⟨rfl, rfl⟩
    go_wp2
    go_returns
    exact ⟨rfl, B⟩
  · go_enter Try.func4, Try.ntmps4
    have B : Below w.heap.size w w := Below.refl _ _
    go_wp2_with fail
    have b : Below w.heap.size w (w.alloc (.cells #[.int .i64 R0, .int .i64 C0, .slice A0 l0.length cap0, .int .i64 p0, .int .i64 q0, .int .i64 bl0, .int .i64 rd0, .int .i64 nx0] 33)) := (Below.refl _ _).alloc (Nat.le_refl _) _
    have X0 : Whole (w.alloc (.cells #[.int .i64 R0, .int .i64 C0, .slice A0 l0.length cap0, .int .i64 p0, .int .i64 q0, .int .i64 bl0, .int .i64 rd0, .int .i64 nx0] 33)) w.heap.size 33 [.int .i64 R0, .int .i64 C0, .slice A0 l0.length cap0, .int .i64 p0, .int .i64 q0, .int .i64 bl0, .int .i64 rd0, .int .i64 nx0] := heap_alloc_new w _
    have HZ := Lib.hid (show (w.alloc (.cells #[.int .i64 R0, .int .i64 C0, .slice A0 l0.length cap0, .int .i64 p0, .int .i64 q0, .int .i64 bl0, .int .i64 rd0, .int .i64 nx0] 33)).heap.size = w.heap.size + 1 by rw [World.size_alloc])
    replace B := B.trans (b.mono B.size)
    have s2 : w.heap.size ≤ (w.alloc (.cells #[.int .i64 R0, .int .i64 C0, .slice A0 l0.length cap0, .int .i64 p0, .int .i64 q0, .int .i64 bl0, .int .i64 rd0, .int .i64 nx0] 33)).heap.size := b.size
    clear b
    have hiX0 := X0.lt
    generalize w.alloc (.cells #[.int .i64 R0, .int .i64 C0, .slice A0 l0.length cap0, .int .i64 p0, .int .i64 q0, .int .i64 bl0, .int .i64 rd0, .int .i64 nx0] 33) = v1 at *
    have zX0 : w.heap.size < v1.heap.size := X0.lt
    have kX00 : v1.cell? ⟨w.heap.size, 0, none⟩ = some (.int .i64 R0) := (X0.cell 0).trans rfl
    have kX01 : v1.cell? ⟨w.heap.size, 1, none⟩ = some (.int .i64 C0) := (X0.cell 1).trans rfl
    have kX02 : v1.cell? ⟨w.heap.size, 2, none⟩ = some (.slice A0 l0.length cap0) := (X0.cell 2).trans rfl
    have kX03 : v1.cell? ⟨w.heap.size, 3, none⟩ = some (.int .i64 p0) := (X0.cell 3).trans rfl
    have kX04 : v1.cell? ⟨w.heap.size, 4, none⟩ = some (.int .i64 q0) := (X0.cell 4).trans rfl
    have kX05 : v1.cell? ⟨w.heap.size, 5, none⟩ = some (.int .i64 bl0) := (X0.cell 5).trans rfl
    have kX06 : v1.cell? ⟨w.heap.size, 6, none⟩ = some (.int .i64 rd0) := (X0.cell 6).trans rfl
    have kX07 : v1.cell? ⟨w.heap.size, 7, none⟩ = some (.int .i64 nx0) := (X0.cell 7).trans rfl
    go_wp2_with fail
    refine (szMachine_any _ _ _ _ _ _ _ _ _ _ _ _ hm0 (by omega) (by omega)).mono ?_; rintro e w4 ⟨rfl, b⟩
    clear zX0 kX00 kX01 kX02 kX03 kX04 kX05 kX06 kX07
    rw [if_pos (by omega)]
    replace X0 := X0.below b X0.lt
    replace B := B.trans (b.mono B.size)
    have s5 : v1.heap.size ≤ w4.heap.size := b.size
    clear b
    go_wp2
    go_returns
    exact ⟨rfl, B⟩
theorem LogOf_walk : Walk Try.prog 4 Try.f4 := by
  intro H enc W base args ds ps hA hval
  rw [Try.params4] at hA hval
  obtain ⟨v0, vs0, d0, ds0, p0, q0, hv0, hd0, hp0, h0, r0⟩ := trodAll_cons hA
  obtain ⟨e1, e2, e3⟩ := trodAll_nil r0
  have ha : args = #[v0] := by
    apply Array.toList_inj.1
    rw [hv0, e1]
  subst ha
  obtain ⟨R0, C0, A0, cap0, l0, m0a, m0b, m0c, m0d, m0e, rfl, hm0, hr0⟩ := open_machine (hval 0 33 v0 rfl rfl) h0
  exact LogOf_walk0 R0 C0 A0 cap0 l0 m0a m0b m0c m0d m0e W hm0 hr0
set_option maxRecDepth 100000 in
theorem LogOf_holds : Rows.FnExactLogOfSaid :=
  OpenClaim.holds_of_wide 4 Try.f4 rfl rfl rfl rfl rfl rfl rfl ⟨rfl, rfl, rfl, rfl, rfl⟩ rfl rfl rfl rfl rfl (by kernel_rfl) Try.func4 (by kernel_rfl)
    (of_decide_eq_true (by kernel_rfl)) (by unfold Func.isWrapper; first | (rw [if_pos (by decide +kernel)]; kernel_rfl) | (rw [if_neg (by decide +kernel)]; exact ⟨rfl, rfl⟩))
    (fun os started H enc _ => lifted (C := Try.checked) (s := Rows.fnExactLogOfSpec) started own (by kernel_rfl) Try.func4 ⟨#[], #[.agg #[.int .i64 0, .int .i64 0, .slice none 0 0, .int .i64 0, .int .i64 0, .int .i64 0, .int .i64 0, .int .i64 0]], []⟩ 8 (by kernel_rfl) (by kernel_rfl) (by kernel_rfl) (by kernel_rfl) (by kernel_rfl)
      laidOut (by kernel_rfl) rfl rfl Try.underlying4 (fun ds h => by
        match ds, h with
        | [d0], _ => exact ⟨rfl, rfl, rfl⟩) LogOf_walk)
end Go.Proofs.Ytlambflmabecfaa
