/- Contracts of the program and of the model, walked, part 5 of 5. No condition but what each says. -/
import Derived.Test.YtpfjbecpfdgnpabDoorM1
import Derived.Deep.RegionHeld3
import Derived.Deep.DeepCutAuto
import Derived.Test.YtpfjbecpfdgnpabDoorM2
import Derived.Test.YtpfjbecpfdgnpabDoorM4
namespace Go.Proofs.YtpfjbecpfdgnpabDoor
open Go.ChangeShapes Go.WideShapes Go.ChangeAt Go.RowKit Go.Joins Go.Deep
set_option linter.unusedSimpArgs false
set_option linter.unusedVariables false
set_option maxRecDepth 100000
set_option maxHeartbeats 4000000 in
theorem MachineText_walk0 (R0 C0 : Int) (A0 : Option Addr) (cap0 : Nat) (l0 : List (Int × Int)) (p0 q0 bl0 rd0 nx0 : Int) (w : World) (hm0 : l0.length ≤ maxLen) (hr0 : Rd w w.heap.size A0 (flat l0)) :
    Calls Tryd.prog 3 #[.agg #[.int .i64 R0, .int .i64 C0, .slice A0 l0.length cap0, .int .i64 p0, .int .i64 q0, .int .i64 bl0, .int .i64 rd0, .int .i64 nx0]] w fun e w' => e = .returned (.bool true) ∧ Below w.heap.size w w' := by
  by_cases ht0 : l0.length ≤ 1048576
  · have hn0 : l0.length ≤ 1048576 := by omega
    go_enter Tryd.func3, Tryd.ntmps3
    have B : Below w.heap.size w w := Below.refl _ _
    go_wp2_with fail
    have b : Below w.heap.size w (w.alloc (.cells #[.int .i64 R0, .int .i64 C0, .slice A0 l0.length cap0, .int .i64 p0, .int .i64 q0, .int .i64 bl0, .int .i64 rd0, .int .i64 nx0] 26)) := (Below.refl _ _).alloc (Nat.le_refl _) _
    have X0 : Whole (w.alloc (.cells #[.int .i64 R0, .int .i64 C0, .slice A0 l0.length cap0, .int .i64 p0, .int .i64 q0, .int .i64 bl0, .int .i64 rd0, .int .i64 nx0] 26)) w.heap.size 26 [.int .i64 R0, .int .i64 C0, .slice A0 l0.length cap0, .int .i64 p0, .int .i64 q0, .int .i64 bl0, .int .i64 rd0, .int .i64 nx0] := heap_alloc_new w _
    have HZ := Lib.hid (show (w.alloc (.cells #[.int .i64 R0, .int .i64 C0, .slice A0 l0.length cap0, .int .i64 p0, .int .i64 q0, .int .i64 bl0, .int .i64 rd0, .int .i64 nx0] 26)).heap.size = w.heap.size + 1 by rw [World.size_alloc])
    replace B := B.trans (b.mono B.size)
    have s2 : w.heap.size ≤ (w.alloc (.cells #[.int .i64 R0, .int .i64 C0, .slice A0 l0.length cap0, .int .i64 p0, .int .i64 q0, .int .i64 bl0, .int .i64 rd0, .int .i64 nx0] 26)).heap.size := b.size
    clear b
    have hiX0 := X0.lt
    generalize w.alloc (.cells #[.int .i64 R0, .int .i64 C0, .slice A0 l0.length cap0, .int .i64 p0, .int .i64 q0, .int .i64 bl0, .int .i64 rd0, .int .i64 nx0] 26) = v1 at *
    have zX0 : w.heap.size < v1.heap.size := X0.lt
    have kX00 : v1.cell? ⟨w.heap.size, 0, none⟩ = some (.int .i64 R0) := (X0.cell 0).trans rfl
    have kX01 : v1.cell? ⟨w.heap.size, 1, none⟩ = some (.int .i64 C0) := (X0.cell 1).trans rfl
    have kX02 : v1.cell? ⟨w.heap.size, 2, none⟩ = some (.slice A0 l0.length cap0) := (X0.cell 2).trans rfl
    have kX03 : v1.cell? ⟨w.heap.size, 3, none⟩ = some (.int .i64 p0) := (X0.cell 3).trans rfl
    have kX04 : v1.cell? ⟨w.heap.size, 4, none⟩ = some (.int .i64 q0) := (X0.cell 4).trans rfl
    have kX05 : v1.cell? ⟨w.heap.size, 5, none⟩ = some (.int .i64 bl0) := (X0.cell 5).trans rfl
    have kX06 : v1.cell? ⟨w.heap.size, 6, none⟩ = some (.int .i64 rd0) := (X0.cell 6).trans rfl
    have kX07 : v1.cell? ⟨w.heap.size, 7, none⟩ = some (.int .i64 nx0) := (X0.cell 7).trans rfl
    go_wp2_with fail
    refine (szMachine_any _ _ _ _ _ _ _ _ _ _ _ _ hm0 (by omega) (by omega)).mono ?_; rintro e w4 ⟨rfl, b⟩
    clear zX0 kX00 kX01 kX02 kX03 kX04 kX05 kX06 kX07
    rw [if_neg (by omega)]
    replace X0 := X0.below b X0.lt
    replace B := B.trans (b.mono B.size)
    have s5 : v1.heap.size ≤ w4.heap.size := b.size
    clear b
    have zX0 : w.heap.size < w4.heap.size := X0.lt
    have kX00 : w4.cell? ⟨w.heap.size, 0, none⟩ = some (.int .i64 R0) := (X0.cell 0).trans rfl
    have kX01 : w4.cell? ⟨w.heap.size, 1, none⟩ = some (.int .i64 C0) := (X0.cell 1).trans rfl
    have kX02 : w4.cell? ⟨w.heap.size, 2, none⟩ = some (.slice A0 l0.length cap0) := (X0.cell 2).trans rfl
    have kX03 : w4.cell? ⟨w.heap.size, 3, none⟩ = some (.int .i64 p0) := (X0.cell 3).trans rfl
    have kX04 : w4.cell? ⟨w.heap.size, 4, none⟩ = some (.int .i64 q0) := (X0.cell 4).trans rfl
    have kX05 : w4.cell? ⟨w.heap.size, 5, none⟩ = some (.int .i64 bl0) := (X0.cell 5).trans rfl
    have kX06 : w4.cell? ⟨w.heap.size, 6, none⟩ = some (.int .i64 rd0) := (X0.cell 6).trans rfl
    have kX07 : w4.cell? ⟨w.heap.size, 7, none⟩ = some (.int .i64 nx0) := (X0.cell 7).trans rfl
    go_wp2_with fail
    refine (toMachine_any _ _ _ _ l0 _ _ _ _ _ _ hn0 ((hr0.below B).mono B.size)).mono ?_; rintro e w6 ⟨gT0, rfl, t, n, b⟩
    clear zX0 kX00 kX01 kX02 kX03 kX04 kX05 kX06 kX07
    replace X0 := X0.below b X0.lt
    replace B := B.trans (b.mono B.size)
    have s7 : w4.heap.size ≤ w6.heap.size := b.size
    clear b
    have T0 := t.own
    have loT0 : ∀ a : Addr, (some ⟨gT0, 0, none⟩) = some a → w4.heap.size ≤ a.block := fun a ha => by cases ha; exact n
    have hiT0 : ∀ a : Addr, (some ⟨gT0, 0, none⟩) = some a → 0 < l0.length → a.block < w6.heap.size := fun a ha _ => by cases ha; exact t.lt
    clear t n
    go_wp2_with fail
    refine (spec_MachineText _ _ _ _ l0 _ _ _ _ _ _ hn0 (T0.rd) (Nat.le_refl _)).mono ?_; rintro e w9 ⟨rfl, b⟩
    replace X0 := X0.below b X0.lt
    replace T0 := T0.keep b
    replace B := B.trans (b.mono B.size)
    have s10 : w6.heap.size ≤ w9.heap.size := b.size
    clear b
    clear T0
    have zX0 : w.heap.size < w9.heap.size := X0.lt
    have kX00 : w9.cell? ⟨w.heap.size, 0, none⟩ = some (.int .i64 R0) := (X0.cell 0).trans rfl
    have kX01 : w9.cell? ⟨w.heap.size, 1, none⟩ = some (.int .i64 C0) := (X0.cell 1).trans rfl
    have kX02 : w9.cell? ⟨w.heap.size, 2, none⟩ = some (.slice A0 l0.length cap0) := (X0.cell 2).trans rfl
    have kX03 : w9.cell? ⟨w.heap.size, 3, none⟩ = some (.int .i64 p0) := (X0.cell 3).trans rfl
    have kX04 : w9.cell? ⟨w.heap.size, 4, none⟩ = some (.int .i64 q0) := (X0.cell 4).trans rfl
    have kX05 : w9.cell? ⟨w.heap.size, 5, none⟩ = some (.int .i64 bl0) := (X0.cell 5).trans rfl
    have kX06 : w9.cell? ⟨w.heap.size, 6, none⟩ = some (.int .i64 rd0) := (X0.cell 6).trans rfl
    have kX07 : w9.cell? ⟨w.heap.size, 7, none⟩ = some (.int .i64 nx0) := (X0.cell 7).trans rfl
    go_wp2_with fail
    clear zX0 kX00 kX01 kX02 kX03 kX04 kX05 kX06 kX07
    refine (toMachine_any _ _ _ _ l0 _ _ _ _ _ _ hn0 ((hr0.below B).mono B.size)).mono ?_; rintro e w11 ⟨gO_x0, rfl, t, n, b⟩
    replace X0 := X0.below b X0.lt
    replace B := B.trans (b.mono B.size)
    have s12 : w9.heap.size ≤ w11.heap.size := b.size
    clear b
    have O_x0 := t.own
    have loO_x0 : ∀ a : Addr, (some ⟨gO_x0, 0, none⟩) = some a → w9.heap.size ≤ a.block := fun a ha => by cases ha; exact n
    have hiO_x0 : ∀ a : Addr, (some ⟨gO_x0, 0, none⟩) = some a → 0 < l0.length → a.block < w11.heap.size := fun a ha _ => by cases ha; exact t.lt
    clear t n
    go_wp2_with fail
    have b : Below w11.heap.size w11 (w11.alloc (.cells #[.int .i64 R0, .int .i64 C0, .slice (some ⟨gO_x0, 0, none⟩) l0.length l0.length, .int .i64 p0, .int .i64 q0, .int .i64 bl0, .int .i64 rd0, .int .i64 nx0] 34)) := (Below.refl _ _).alloc (Nat.le_refl _) _
    have XX0 : Whole (w11.alloc (.cells #[.int .i64 R0, .int .i64 C0, .slice (some ⟨gO_x0, 0, none⟩) l0.length l0.length, .int .i64 p0, .int .i64 q0, .int .i64 bl0, .int .i64 rd0, .int .i64 nx0] 34)) w11.heap.size 34 [.int .i64 R0, .int .i64 C0, .slice (some ⟨gO_x0, 0, none⟩) l0.length l0.length, .int .i64 p0, .int .i64 q0, .int .i64 bl0, .int .i64 rd0, .int .i64 nx0] := heap_alloc_new w11 _
    replace X0 := X0.below b X0.lt
    replace O_x0 := O_x0.keep b
    replace B := B.trans (b.mono B.size)
    have s15 : w11.heap.size ≤ (w11.alloc (.cells #[.int .i64 R0, .int .i64 C0, .slice (some ⟨gO_x0, 0, none⟩) l0.length l0.length, .int .i64 p0, .int .i64 q0, .int .i64 bl0, .int .i64 rd0, .int .i64 nx0] 34)).heap.size := b.size
    clear b
    have hiXX0 := XX0.lt
    generalize w11.alloc (.cells #[.int .i64 R0, .int .i64 C0, .slice (some ⟨gO_x0, 0, none⟩) l0.length l0.length, .int .i64 p0, .int .i64 q0, .int .i64 bl0, .int .i64 rd0, .int .i64 nx0] 34) = v14 at *
    refine (impl_MachineText _ _ _ _ l0 _ _ _ _ _ _ hn0 (O_x0.rd) (Nat.le_refl _)).mono ?_; rintro e w17 ⟨rfl, b⟩
    replace X0 := X0.below b X0.lt
    replace O_x0 := O_x0.keep b
    replace XX0 := XX0.below b XX0.lt
    replace B := B.trans (b.mono B.size)
    have s18 : v14.heap.size ≤ w17.heap.size := b.size
    clear b
    have zXX0 : w11.heap.size < w17.heap.size := XX0.lt
    have kXX00 : w17.cell? ⟨w11.heap.size, 0, none⟩ = some (.int .i64 R0) := (XX0.cell 0).trans rfl
    have kXX01 : w17.cell? ⟨w11.heap.size, 1, none⟩ = some (.int .i64 C0) := (XX0.cell 1).trans rfl
    have kXX02 : w17.cell? ⟨w11.heap.size, 2, none⟩ = some (.slice (some ⟨gO_x0, 0, none⟩) l0.length l0.length) := (XX0.cell 2).trans rfl
    have kXX03 : w17.cell? ⟨w11.heap.size, 3, none⟩ = some (.int .i64 p0) := (XX0.cell 3).trans rfl
    have kXX04 : w17.cell? ⟨w11.heap.size, 4, none⟩ = some (.int .i64 q0) := (XX0.cell 4).trans rfl
    have kXX05 : w17.cell? ⟨w11.heap.size, 5, none⟩ = some (.int .i64 bl0) := (XX0.cell 5).trans rfl
    have kXX06 : w17.cell? ⟨w11.heap.size, 6, none⟩ = some (.int .i64 rd0) := (XX0.cell 6).trans rfl
    have kXX07 : w17.cell? ⟨w11.heap.size, 7, none⟩ = some (.int .i64 nx0) := (XX0.cell 7).trans rfl
    have zX0 : w.heap.size < w17.heap.size := X0.lt
    have kX00 : w17.cell? ⟨w.heap.size, 0, none⟩ = some (.int .i64 R0) := (X0.cell 0).trans rfl
    have kX01 : w17.cell? ⟨w.heap.size, 1, none⟩ = some (.int .i64 C0) := (X0.cell 1).trans rfl
    have kX02 : w17.cell? ⟨w.heap.size, 2, none⟩ = some (.slice A0 l0.length cap0) := (X0.cell 2).trans rfl
    have kX03 : w17.cell? ⟨w.heap.size, 3, none⟩ = some (.int .i64 p0) := (X0.cell 3).trans rfl
    have kX04 : w17.cell? ⟨w.heap.size, 4, none⟩ = some (.int .i64 q0) := (X0.cell 4).trans rfl
    have kX05 : w17.cell? ⟨w.heap.size, 5, none⟩ = some (.int .i64 bl0) := (X0.cell 5).trans rfl
    have kX06 : w17.cell? ⟨w.heap.size, 6, none⟩ = some (.int .i64 rd0) := (X0.cell 6).trans rfl
    have kX07 : w17.cell? ⟨w.heap.size, 7, none⟩ = some (.int .i64 nx0) := (X0.cell 7).trans rfl
    go_wp2_with fail
    have hqXX0 : w11.heap.size < w17.heap.size := XX0.lt
    have hqX0 : w.heap.size < w17.heap.size := X0.lt
    go_region_held3 (fun w' => w'.cell? ⟨w11.heap.size, 0, none⟩ = some (.int .i64 R0) ∧ w'.cell? ⟨w11.heap.size, 1, none⟩ = some (.int .i64 C0) ∧ w'.cell? ⟨w11.heap.size, 2, none⟩ = some (.slice (some ⟨gO_x0, 0, none⟩) l0.length l0.length) ∧ w'.cell? ⟨w11.heap.size, 3, none⟩ = some (.int .i64 p0) ∧ w'.cell? ⟨w11.heap.size, 4, none⟩ = some (.int .i64 q0) ∧ w'.cell? ⟨w11.heap.size, 5, none⟩ = some (.int .i64 bl0) ∧ w'.cell? ⟨w11.heap.size, 6, none⟩ = some (.int .i64 rd0) ∧ w'.cell? ⟨w11.heap.size, 7, none⟩ = some (.int .i64 nx0) ∧ w'.cell? ⟨w.heap.size, 0, none⟩ = some (.int .i64 R0) ∧ w'.cell? ⟨w.heap.size, 1, none⟩ = some (.int .i64 C0) ∧ w'.cell? ⟨w.heap.size, 2, none⟩ = some (.slice A0 l0.length cap0) ∧ w'.cell? ⟨w.heap.size, 3, none⟩ = some (.int .i64 p0) ∧ w'.cell? ⟨w.heap.size, 4, none⟩ = some (.int .i64 q0) ∧ w'.cell? ⟨w.heap.size, 5, none⟩ = some (.int .i64 bl0) ∧ w'.cell? ⟨w.heap.size, 6, none⟩ = some (.int .i64 rd0) ∧ w'.cell? ⟨w.heap.size, 7, none⟩ = some (.int .i64 nx0))
      (first | exact ⟨kXX00, kXX01, kXX02, kXX03, kXX04, kXX05, kXX06, kXX07, kX00, kX01, kX02, kX03, kX04, kX05, kX06, kX07⟩ | exact ⟨(b.cell (p := ⟨w11.heap.size, 0, none⟩) hqXX0).trans kXX00, (b.cell (p := ⟨w11.heap.size, 1, none⟩) hqXX0).trans kXX01, (b.cell (p := ⟨w11.heap.size, 2, none⟩) hqXX0).trans kXX02, (b.cell (p := ⟨w11.heap.size, 3, none⟩) hqXX0).trans kXX03, (b.cell (p := ⟨w11.heap.size, 4, none⟩) hqXX0).trans kXX04, (b.cell (p := ⟨w11.heap.size, 5, none⟩) hqXX0).trans kXX05, (b.cell (p := ⟨w11.heap.size, 6, none⟩) hqXX0).trans kXX06, (b.cell (p := ⟨w11.heap.size, 7, none⟩) hqXX0).trans kXX07, (b.cell (p := ⟨w.heap.size, 0, none⟩) hqX0).trans kX00, (b.cell (p := ⟨w.heap.size, 1, none⟩) hqX0).trans kX01, (b.cell (p := ⟨w.heap.size, 2, none⟩) hqX0).trans kX02, (b.cell (p := ⟨w.heap.size, 3, none⟩) hqX0).trans kX03, (b.cell (p := ⟨w.heap.size, 4, none⟩) hqX0).trans kX04, (b.cell (p := ⟨w.heap.size, 5, none⟩) hqX0).trans kX05, (b.cell (p := ⟨w.heap.size, 6, none⟩) hqX0).trans kX06, (b.cell (p := ⟨w.heap.size, 7, none⟩) hqX0).trans kX07⟩ | exact ⟨(b2.cell (p := ⟨w11.heap.size, 0, none⟩) (Nat.lt_of_lt_of_le hqXX0 b.size)).trans ((b.cell (p := ⟨w11.heap.size, 0, none⟩) hqXX0).trans kXX00), (b2.cell (p := ⟨w11.heap.size, 1, none⟩) (Nat.lt_of_lt_of_le hqXX0 b.size)).trans ((b.cell (p := ⟨w11.heap.size, 1, none⟩) hqXX0).trans kXX01), (b2.cell (p := ⟨w11.heap.size, 2, none⟩) (Nat.lt_of_lt_of_le hqXX0 b.size)).trans ((b.cell (p := ⟨w11.heap.size, 2, none⟩) hqXX0).trans kXX02), (b2.cell (p := ⟨w11.heap.size, 3, none⟩) (Nat.lt_of_lt_of_le hqXX0 b.size)).trans ((b.cell (p := ⟨w11.heap.size, 3, none⟩) hqXX0).trans kXX03), (b2.cell (p := ⟨w11.heap.size, 4, none⟩) (Nat.lt_of_lt_of_le hqXX0 b.size)).trans ((b.cell (p := ⟨w11.heap.size, 4, none⟩) hqXX0).trans kXX04), (b2.cell (p := ⟨w11.heap.size, 5, none⟩) (Nat.lt_of_lt_of_le hqXX0 b.size)).trans ((b.cell (p := ⟨w11.heap.size, 5, none⟩) hqXX0).trans kXX05), (b2.cell (p := ⟨w11.heap.size, 6, none⟩) (Nat.lt_of_lt_of_le hqXX0 b.size)).trans ((b.cell (p := ⟨w11.heap.size, 6, none⟩) hqXX0).trans kXX06), (b2.cell (p := ⟨w11.heap.size, 7, none⟩) (Nat.lt_of_lt_of_le hqXX0 b.size)).trans ((b.cell (p := ⟨w11.heap.size, 7, none⟩) hqXX0).trans kXX07), (b2.cell (p := ⟨w.heap.size, 0, none⟩) (Nat.lt_of_lt_of_le hqX0 b.size)).trans ((b.cell (p := ⟨w.heap.size, 0, none⟩) hqX0).trans kX00), (b2.cell (p := ⟨w.heap.size, 1, none⟩) (Nat.lt_of_lt_of_le hqX0 b.size)).trans ((b.cell (p := ⟨w.heap.size, 1, none⟩) hqX0).trans kX01), (b2.cell (p := ⟨w.heap.size, 2, none⟩) (Nat.lt_of_lt_of_le hqX0 b.size)).trans ((b.cell (p := ⟨w.heap.size, 2, none⟩) hqX0).trans kX02), (b2.cell (p := ⟨w.heap.size, 3, none⟩) (Nat.lt_of_lt_of_le hqX0 b.size)).trans ((b.cell (p := ⟨w.heap.size, 3, none⟩) hqX0).trans kX03), (b2.cell (p := ⟨w.heap.size, 4, none⟩) (Nat.lt_of_lt_of_le hqX0 b.size)).trans ((b.cell (p := ⟨w.heap.size, 4, none⟩) hqX0).trans kX04), (b2.cell (p := ⟨w.heap.size, 5, none⟩) (Nat.lt_of_lt_of_le hqX0 b.size)).trans ((b.cell (p := ⟨w.heap.size, 5, none⟩) hqX0).trans kX05), (b2.cell (p := ⟨w.heap.size, 6, none⟩) (Nat.lt_of_lt_of_le hqX0 b.size)).trans ((b.cell (p := ⟨w.heap.size, 6, none⟩) hqX0).trans kX06), (b2.cell (p := ⟨w.heap.size, 7, none⟩) (Nat.lt_of_lt_of_le hqX0 b.size)).trans ((b.cell (p := ⟨w.heap.size, 7, none⟩) hqX0).trans kX07)⟩)
      ((first | (go_at_call 6; refine (toMachine_any _ _ _ _ l0 _ _ _ _ _ _ hn0 ((hr0.below B.drew).mono B.size)).mono ?_; rintro e w19a ⟨gq, rfl, t, n, b⟩) | (go_at_call 8; refine (eqMachine_same _ _ _ _ _ _ _ _ _ _ _ l0 _ hn0 ((O_x0.keep (Below.drew (Below.refl _ _))).keep b).rd t.own.rd).mono ?_; rintro e w19b ⟨rfl, b2⟩)))
    have bb : Below w17.heap.size w17 w19b := ((Below.refl _ _).drew).trans (b.trans (b2.mono b.size))
    clear b b2 t n zXX0 kXX00 kXX01 kXX02 kXX03 kXX04 kXX05 kXX06 kXX07 zX0 kX00 kX01 kX02 kX03 kX04 kX05 kX06 kX07 hqXX0 hqX0
    replace X0 := X0.below bb X0.lt
    replace O_x0 := O_x0.keep bb
    replace XX0 := XX0.below bb XX0.lt
    replace B := B.trans (bb.mono B.size)
    have s20 : w17.heap.size ≤ w19b.heap.size := bb.size
    clear bb
    go_wp2
    go_returns
    exact ⟨rfl, B⟩
  · go_enter Tryd.func3, Tryd.ntmps3
    have B : Below w.heap.size w w := Below.refl _ _
    go_wp2_with fail
    have b : Below w.heap.size w (w.alloc (.cells #[.int .i64 R0, .int .i64 C0, .slice A0 l0.length cap0, .int .i64 p0, .int .i64 q0, .int .i64 bl0, .int .i64 rd0, .int .i64 nx0] 26)) := (Below.refl _ _).alloc (Nat.le_refl _) _
    have X0 : Whole (w.alloc (.cells #[.int .i64 R0, .int .i64 C0, .slice A0 l0.length cap0, .int .i64 p0, .int .i64 q0, .int .i64 bl0, .int .i64 rd0, .int .i64 nx0] 26)) w.heap.size 26 [.int .i64 R0, .int .i64 C0, .slice A0 l0.length cap0, .int .i64 p0, .int .i64 q0, .int .i64 bl0, .int .i64 rd0, .int .i64 nx0] := heap_alloc_new w _
    have HZ := Lib.hid (show (w.alloc (.cells #[.int .i64 R0, .int .i64 C0, .slice A0 l0.length cap0, .int .i64 p0, .int .i64 q0, .int .i64 bl0, .int .i64 rd0, .int .i64 nx0] 26)).heap.size = w.heap.size + 1 by rw [World.size_alloc])
    replace B := B.trans (b.mono B.size)
    have s2 : w.heap.size ≤ (w.alloc (.cells #[.int .i64 R0, .int .i64 C0, .slice A0 l0.length cap0, .int .i64 p0, .int .i64 q0, .int .i64 bl0, .int .i64 rd0, .int .i64 nx0] 26)).heap.size := b.size
    clear b
    have hiX0 := X0.lt
    generalize w.alloc (.cells #[.int .i64 R0, .int .i64 C0, .slice A0 l0.length cap0, .int .i64 p0, .int .i64 q0, .int .i64 bl0, .int .i64 rd0, .int .i64 nx0] 26) = v1 at *
    have zX0 : w.heap.size < v1.heap.size := X0.lt
    have kX00 : v1.cell? ⟨w.heap.size, 0, none⟩ = some (.int .i64 R0) := (X0.cell 0).trans rfl
    have kX01 : v1.cell? ⟨w.heap.size, 1, none⟩ = some (.int .i64 C0) := (X0.cell 1).trans rfl
    have kX02 : v1.cell? ⟨w.heap.size, 2, none⟩ = some (.slice A0 l0.length cap0) := (X0.cell 2).trans rfl
    have kX03 : v1.cell? ⟨w.heap.size, 3, none⟩ = some (.int .i64 p0) := (X0.cell 3).trans rfl
    have kX04 : v1.cell? ⟨w.heap.size, 4, none⟩ = some (.int .i64 q0) := (X0.cell 4).trans rfl
    have kX05 : v1.cell? ⟨w.heap.size, 5, none⟩ = some (.int .i64 bl0) := (X0.cell 5).trans rfl
    have kX06 : v1.cell? ⟨w.heap.size, 6, none⟩ = some (.int .i64 rd0) := (X0.cell 6).trans rfl
    have kX07 : v1.cell? ⟨w.heap.size, 7, none⟩ = some (.int .i64 nx0) := (X0.cell 7).trans rfl
    go_wp2_with fail
    refine (szMachine_any _ _ _ _ _ _ _ _ _ _ _ _ hm0 (by omega) (by omega)).mono ?_; rintro e w4 ⟨rfl, b⟩
    clear zX0 kX00 kX01 kX02 kX03 kX04 kX05 kX06 kX07
    rw [if_pos (by omega)]
    replace X0 := X0.below b X0.lt
    replace B := B.trans (b.mono B.size)
    have s5 : v1.heap.size ≤ w4.heap.size := b.size
    clear b
    go_wp2
    go_returns
    exact ⟨rfl, B⟩
theorem MachineText_walk : Walk Tryd.prog 3 Tryd.f3 := by
  intro H enc W base args ds ps hA hval
  rw [Tryd.params3] at hA hval
  obtain ⟨v0, vs0, d0, ds0, p0, q0, hv0, hd0, hp0, h0, r0⟩ := trodAll_cons hA
  obtain ⟨e1, e2, e3⟩ := trodAll_nil r0
  have ha : args = #[v0] := by
    apply Array.toList_inj.1
    rw [hv0, e1]
  subst ha
  obtain ⟨R0, C0, A0, cap0, l0, m0a, m0b, m0c, m0d, m0e, rfl, hm0, hr0⟩ := open_machine (hval 0 26 v0 rfl rfl) h0
  exact MachineText_walk0 R0 C0 A0 cap0 l0 m0a m0b m0c m0d m0e W hm0 hr0
end Go.Proofs.YtpfjbecpfdgnpabDoor
