/- For every machine and every list of entries, ExplainsLog of the program answers as the model does, and keeps its arguments. No condition. -/
import Derived.Test.YtlambflmabecfaaGreatM1
import Derived.Deep.RegionHeld3
import Derived.Deep.DeepCutAuto
import Derived.Test.YtlambflmabecfaaGreatM2
import Derived.Test.YtlambflmabecfaaGreatM9
namespace Go.Proofs.YtlambflmabecfaaGreat
open Go.ChangeShapes Go.WideShapes Go.ChangeAt Go.RowKit Go.Joins Go.Deep
set_option linter.unusedSimpArgs false
set_option linter.unusedVariables false
set_option maxRecDepth 100000
set_option maxHeartbeats 4000000 in
theorem ExplainsLog_walk0 (R0 C0 : Int) (A0 : Option Addr) (cap0 : Nat) (l0 : List (Int × Int)) (p0 q0 bl0 rd0 nx0 : Int) (A1 : Option Addr) (cap1 : Nat) (l1 : List (Int × Int × Int × Int)) (w : World) (hm0 : l0.length ≤ maxLen) (hr0 : Rd w w.heap.size A0 (flat l0)) (hm1 : l1.length ≤ maxLen) (hr1 : Rd w w.heap.size A1 (flatL l1)) :
    Calls Tryz.prog 3 #[.agg #[.int .i64 R0, .int .i64 C0, .slice A0 l0.length cap0, .int .i64 p0, .int .i64 q0, .int .i64 bl0, .int .i64 rd0, .int .i64 nx0], .slice A1 l1.length cap1] w fun e w' => e = .returned (.bool true) ∧ Below w.heap.size w w' := by
  by_cases ht0 : l0.length ≤ 1048576
  · have hn0 : l0.length ≤ 1048576 := by omega
    by_cases ht1 : l0.length + l1.length ≤ 1048576
    · have hn1 : l1.length ≤ 1048576 := by omega
      go_enter Tryz.func3, Tryz.ntmps3
      have B : Below w.heap.size w w := Below.refl _ _
      go_wp2_with fail
      have b : Below w.heap.size w (w.alloc (.cells #[.int .i64 R0, .int .i64 C0, .slice A0 l0.length cap0, .int .i64 p0, .int .i64 q0, .int .i64 bl0, .int .i64 rd0, .int .i64 nx0] 26)) := (Below.refl _ _).alloc (Nat.le_refl _) _
      have X0 : Whole (w.alloc (.cells #[.int .i64 R0, .int .i64 C0, .slice A0 l0.length cap0, .int .i64 p0, .int .i64 q0, .int .i64 bl0, .int .i64 rd0, .int .i64 nx0] 26)) w.heap.size 26 [.int .i64 R0, .int .i64 C0, .slice A0 l0.length cap0, .int .i64 p0, .int .i64 q0, .int .i64 bl0, .int .i64 rd0, .int .i64 nx0] := heap_alloc_new w _
      have HZ := Lib.hid (show (w.alloc (.cells #[.int .i64 R0, .int .i64 C0, .slice A0 l0.length cap0, .int .i64 p0, .int .i64 q0, .int .i64 bl0, .int .i64 rd0, .int .i64 nx0] 26)).heap.size = w.heap.size + 1 by rw [World.size_alloc])
      replace B := B.trans (b.mono B.size)
      have s2 : w.heap.size ≤ (w.alloc (.cells #[.int .i64 R0, .int .i64 C0, .slice A0 l0.length cap0, .int .i64 p0, .int .i64 q0, .int .i64 bl0, .int .i64 rd0, .int .i64 nx0] 26)).heap.size := b.size
      clear b
      have hiX0 := X0.lt
      generalize w.alloc (.cells #[.int .i64 R0, .int .i64 C0, .slice A0 l0.length cap0, .int .i64 p0, .int .i64 q0, .int .i64 bl0, .int .i64 rd0, .int .i64 nx0] 26) = v1 at *
      have zX0 : w.heap.size < v1.heap.size := X0.lt
      have kX00 : v1.cell? ⟨w.heap.size, 0, none⟩ = some (.int .i64 R0) := (X0.cell 0).trans rfl
      have kX01 : v1.cell? ⟨w.heap.size, 1, none⟩ = some (.int .i64 C0) := (X0.cell 1).trans rfl
      have kX02 : v1.cell? ⟨w.heap.size, 2, none⟩ = some (.slice A0 l0.length cap0) := (X0.cell 2).trans rfl
      have kX03 : v1.cell? ⟨w.heap.size, 3, none⟩ = some (.int .i64 p0) := (X0.cell 3).trans rfl
      have kX04 : v1.cell? ⟨w.heap.size, 4, none⟩ = some (.int .i64 q0) := (X0.cell 4).trans rfl
      have kX05 : v1.cell? ⟨w.heap.size, 5, none⟩ = some (.int .i64 bl0) := (X0.cell 5).trans rfl
      have kX06 : v1.cell? ⟨w.heap.size, 6, none⟩ = some (.int .i64 rd0) := (X0.cell 6).trans rfl
      have kX07 : v1.cell? ⟨w.heap.size, 7, none⟩ = some (.int .i64 nx0) := (X0.cell 7).trans rfl
      go_wp2_with fail
      refine (szMachine_any _ _ _ _ _ _ _ _ _ _ _ _ hm0 (by omega) (by omega)).mono ?_; rintro e w4 ⟨rfl, b⟩
      clear zX0 kX00 kX01 kX02 kX03 kX04 kX05 kX06 kX07
      rw [if_neg (by omega)]
      replace X0 := X0.below b X0.lt
      replace B := B.trans (b.mono B.size)
      have s5 : v1.heap.size ≤ w4.heap.size := b.size
      clear b
      go_wp2_with fail
      refine (szLogS_any _ _ _ _ _ hm1 (by omega) (by omega)).mono ?_; rintro e w6 ⟨rfl, rfl⟩
      rw [if_neg (by omega)]
      have zX0 : w.heap.size < w4.heap.size := X0.lt
      have kX00 : w4.cell? ⟨w.heap.size, 0, none⟩ = some (.int .i64 R0) := (X0.cell 0).trans rfl
      have kX01 : w4.cell? ⟨w.heap.size, 1, none⟩ = some (.int .i64 C0) := (X0.cell 1).trans rfl
      have kX02 : w4.cell? ⟨w.heap.size, 2, none⟩ = some (.slice A0 l0.length cap0) := (X0.cell 2).trans rfl
      have kX03 : w4.cell? ⟨w.heap.size, 3, none⟩ = some (.int .i64 p0) := (X0.cell 3).trans rfl
      have kX04 : w4.cell? ⟨w.heap.size, 4, none⟩ = some (.int .i64 q0) := (X0.cell 4).trans rfl
      have kX05 : w4.cell? ⟨w.heap.size, 5, none⟩ = some (.int .i64 bl0) := (X0.cell 5).trans rfl
      have kX06 : w4.cell? ⟨w.heap.size, 6, none⟩ = some (.int .i64 rd0) := (X0.cell 6).trans rfl
      have kX07 : w4.cell? ⟨w.heap.size, 7, none⟩ = some (.int .i64 nx0) := (X0.cell 7).trans rfl
      go_wp2_with fail
      refine (toMachine_any _ _ _ _ l0 _ _ _ _ _ _ hn0 ((hr0.below B).mono B.size)).mono ?_; rintro e w7 ⟨gT0, rfl, t, n, b⟩
      clear zX0 kX00 kX01 kX02 kX03 kX04 kX05 kX06 kX07
      replace X0 := X0.below b X0.lt
      replace B := B.trans (b.mono B.size)
      have s8 : w4.heap.size ≤ w7.heap.size := b.size
      clear b
      have T0 := t.own
      have loT0 : ∀ a : Addr, (some ⟨gT0, 0, none⟩) = some a → w4.heap.size ≤ a.block := fun a ha => by cases ha; exact n
      have hiT0 : ∀ a : Addr, (some ⟨gT0, 0, none⟩) = some a → 0 < l0.length → a.block < w7.heap.size := fun a ha _ => by cases ha; exact t.lt
      clear t n
      go_wp2_with fail
      refine (toLogS_any _ _ l1 _ hn1 ((hr1.below B).mono B.size)).mono ?_; rintro e w10 ⟨gT1, rfl, t, n, b⟩
      replace X0 := X0.below b X0.lt
      replace T0 := T0.keep b
      replace B := B.trans (b.mono B.size)
      have s11 : w7.heap.size ≤ w10.heap.size := b.size
      clear b
      have T1 := t.own
      have loT1 : ∀ a : Addr, (some ⟨gT1, 0, none⟩) = some a → w7.heap.size ≤ a.block := fun a ha => by cases ha; exact n
      have hiT1 : ∀ a : Addr, (some ⟨gT1, 0, none⟩) = some a → 0 < l1.length → a.block < w10.heap.size := fun a ha _ => by cases ha; exact t.lt
      clear t n
      go_wp2_with fail
      refine (spec_ExplainsLog _ _ _ _ l0 _ _ _ _ _ _ _ l1 _ hn0 (T0.rd) hn1 (T1.rd) ).mono ?_; rintro e w13 ⟨rfl, b⟩
      replace X0 := X0.below b X0.lt
      replace T0 := T0.keep b
      replace T1 := T1.keep b
      replace B := B.trans (b.mono B.size)
      have s14 : w10.heap.size ≤ w13.heap.size := b.size
      clear b
      clear T0
      clear T1
      have zX0 : w.heap.size < w13.heap.size := X0.lt
      have kX00 : w13.cell? ⟨w.heap.size, 0, none⟩ = some (.int .i64 R0) := (X0.cell 0).trans rfl
      have kX01 : w13.cell? ⟨w.heap.size, 1, none⟩ = some (.int .i64 C0) := (X0.cell 1).trans rfl
      have kX02 : w13.cell? ⟨w.heap.size, 2, none⟩ = some (.slice A0 l0.length cap0) := (X0.cell 2).trans rfl
      have kX03 : w13.cell? ⟨w.heap.size, 3, none⟩ = some (.int .i64 p0) := (X0.cell 3).trans rfl
      have kX04 : w13.cell? ⟨w.heap.size, 4, none⟩ = some (.int .i64 q0) := (X0.cell 4).trans rfl
      have kX05 : w13.cell? ⟨w.heap.size, 5, none⟩ = some (.int .i64 bl0) := (X0.cell 5).trans rfl
      have kX06 : w13.cell? ⟨w.heap.size, 6, none⟩ = some (.int .i64 rd0) := (X0.cell 6).trans rfl
      have kX07 : w13.cell? ⟨w.heap.size, 7, none⟩ = some (.int .i64 nx0) := (X0.cell 7).trans rfl
      go_wp2_with fail
      clear zX0 kX00 kX01 kX02 kX03 kX04 kX05 kX06 kX07
      refine (toMachine_any _ _ _ _ l0 _ _ _ _ _ _ hn0 ((hr0.below B).mono B.size)).mono ?_; rintro e w15 ⟨gO_x0, rfl, t, n, b⟩
      replace X0 := X0.below b X0.lt
      replace B := B.trans (b.mono B.size)
      have s16 : w13.heap.size ≤ w15.heap.size := b.size
      clear b
      have O_x0 := t.own
      have loO_x0 : ∀ a : Addr, (some ⟨gO_x0, 0, none⟩) = some a → w13.heap.size ≤ a.block := fun a ha => by cases ha; exact n
      have hiO_x0 : ∀ a : Addr, (some ⟨gO_x0, 0, none⟩) = some a → 0 < l0.length → a.block < w15.heap.size := fun a ha _ => by cases ha; exact t.lt
      clear t n
      go_wp2_with fail
      have b : Below w15.heap.size w15 (w15.alloc (.cells #[.int .i64 R0, .int .i64 C0, .slice (some ⟨gO_x0, 0, none⟩) l0.length l0.length, .int .i64 p0, .int .i64 q0, .int .i64 bl0, .int .i64 rd0, .int .i64 nx0] 36)) := (Below.refl _ _).alloc (Nat.le_refl _) _
      have XX0 : Whole (w15.alloc (.cells #[.int .i64 R0, .int .i64 C0, .slice (some ⟨gO_x0, 0, none⟩) l0.length l0.length, .int .i64 p0, .int .i64 q0, .int .i64 bl0, .int .i64 rd0, .int .i64 nx0] 36)) w15.heap.size 36 [.int .i64 R0, .int .i64 C0, .slice (some ⟨gO_x0, 0, none⟩) l0.length l0.length, .int .i64 p0, .int .i64 q0, .int .i64 bl0, .int .i64 rd0, .int .i64 nx0] := heap_alloc_new w15 _
      replace X0 := X0.below b X0.lt
      replace O_x0 := O_x0.keep b
      replace B := B.trans (b.mono B.size)
      have s19 : w15.heap.size ≤ (w15.alloc (.cells #[.int .i64 R0, .int .i64 C0, .slice (some ⟨gO_x0, 0, none⟩) l0.length l0.length, .int .i64 p0, .int .i64 q0, .int .i64 bl0, .int .i64 rd0, .int .i64 nx0] 36)).heap.size := b.size
      clear b
      have hiXX0 := XX0.lt
      generalize w15.alloc (.cells #[.int .i64 R0, .int .i64 C0, .slice (some ⟨gO_x0, 0, none⟩) l0.length l0.length, .int .i64 p0, .int .i64 q0, .int .i64 bl0, .int .i64 rd0, .int .i64 nx0] 36) = v18 at *
      refine (toLogS_any _ _ l1 _ hn1 ((hr1.below B).mono B.size)).mono ?_; rintro e w21 ⟨gO_x1, rfl, t, n, b⟩
      replace X0 := X0.below b X0.lt
      replace O_x0 := O_x0.keep b
      replace XX0 := XX0.below b XX0.lt
      replace B := B.trans (b.mono B.size)
      have s22 : v18.heap.size ≤ w21.heap.size := b.size
      clear b
      have O_x1 := t.own
      have loO_x1 : ∀ a : Addr, (some ⟨gO_x1, 0, none⟩) = some a → v18.heap.size ≤ a.block := fun a ha => by cases ha; exact n
      have hiO_x1 : ∀ a : Addr, (some ⟨gO_x1, 0, none⟩) = some a → 0 < l1.length → a.block < w21.heap.size := fun a ha _ => by cases ha; exact t.lt
      clear t n
      have zXX0 : w15.heap.size < w21.heap.size := XX0.lt
      have kXX00 : w21.cell? ⟨w15.heap.size, 0, none⟩ = some (.int .i64 R0) := (XX0.cell 0).trans rfl
      have kXX01 : w21.cell? ⟨w15.heap.size, 1, none⟩ = some (.int .i64 C0) := (XX0.cell 1).trans rfl
      have kXX02 : w21.cell? ⟨w15.heap.size, 2, none⟩ = some (.slice (some ⟨gO_x0, 0, none⟩) l0.length l0.length) := (XX0.cell 2).trans rfl
      have kXX03 : w21.cell? ⟨w15.heap.size, 3, none⟩ = some (.int .i64 p0) := (XX0.cell 3).trans rfl
      have kXX04 : w21.cell? ⟨w15.heap.size, 4, none⟩ = some (.int .i64 q0) := (XX0.cell 4).trans rfl
      have kXX05 : w21.cell? ⟨w15.heap.size, 5, none⟩ = some (.int .i64 bl0) := (XX0.cell 5).trans rfl
      have kXX06 : w21.cell? ⟨w15.heap.size, 6, none⟩ = some (.int .i64 rd0) := (XX0.cell 6).trans rfl
      have kXX07 : w21.cell? ⟨w15.heap.size, 7, none⟩ = some (.int .i64 nx0) := (XX0.cell 7).trans rfl
      go_wp2_with fail
      refine (impl_ExplainsLog _ _ _ _ l0 _ _ _ _ _ _ _ l1 _ hn0 (O_x0.rd) hn1 (O_x1.rd) ).mono ?_; rintro e w24 ⟨rfl, b⟩
      clear zXX0 kXX00 kXX01 kXX02 kXX03 kXX04 kXX05 kXX06 kXX07
      replace X0 := X0.below b X0.lt
      replace O_x0 := O_x0.keep b
      replace XX0 := XX0.below b XX0.lt
      replace O_x1 := O_x1.keep b
      replace B := B.trans (b.mono B.size)
      have s25 : w21.heap.size ≤ w24.heap.size := b.size
      clear b
      have zXX0 : w15.heap.size < w24.heap.size := XX0.lt
      have kXX00 : w24.cell? ⟨w15.heap.size, 0, none⟩ = some (.int .i64 R0) := (XX0.cell 0).trans rfl
      have kXX01 : w24.cell? ⟨w15.heap.size, 1, none⟩ = some (.int .i64 C0) := (XX0.cell 1).trans rfl
      have kXX02 : w24.cell? ⟨w15.heap.size, 2, none⟩ = some (.slice (some ⟨gO_x0, 0, none⟩) l0.length l0.length) := (XX0.cell 2).trans rfl
      have kXX03 : w24.cell? ⟨w15.heap.size, 3, none⟩ = some (.int .i64 p0) := (XX0.cell 3).trans rfl
      have kXX04 : w24.cell? ⟨w15.heap.size, 4, none⟩ = some (.int .i64 q0) := (XX0.cell 4).trans rfl
      have kXX05 : w24.cell? ⟨w15.heap.size, 5, none⟩ = some (.int .i64 bl0) := (XX0.cell 5).trans rfl
      have kXX06 : w24.cell? ⟨w15.heap.size, 6, none⟩ = some (.int .i64 rd0) := (XX0.cell 6).trans rfl
      have kXX07 : w24.cell? ⟨w15.heap.size, 7, none⟩ = some (.int .i64 nx0) := (XX0.cell 7).trans rfl
      have zX0 : w.heap.size < w24.heap.size := X0.lt
      have kX00 : w24.cell? ⟨w.heap.size, 0, none⟩ = some (.int .i64 R0) := (X0.cell 0).trans rfl
      have kX01 : w24.cell? ⟨w.heap.size, 1, none⟩ = some (.int .i64 C0) := (X0.cell 1).trans rfl
      have kX02 : w24.cell? ⟨w.heap.size, 2, none⟩ = some (.slice A0 l0.length cap0) := (X0.cell 2).trans rfl
      have kX03 : w24.cell? ⟨w.heap.size, 3, none⟩ = some (.int .i64 p0) := (X0.cell 3).trans rfl
      have kX04 : w24.cell? ⟨w.heap.size, 4, none⟩ = some (.int .i64 q0) := (X0.cell 4).trans rfl
      have kX05 : w24.cell? ⟨w.heap.size, 5, none⟩ = some (.int .i64 bl0) := (X0.cell 5).trans rfl
      have kX06 : w24.cell? ⟨w.heap.size, 6, none⟩ = some (.int .i64 rd0) := (X0.cell 6).trans rfl
      have kX07 : w24.cell? ⟨w.heap.size, 7, none⟩ = some (.int .i64 nx0) := (X0.cell 7).trans rfl
      go_wp2_with fail
      have hqXX0 : w15.heap.size < w24.heap.size := XX0.lt
      have hqX0 : w.heap.size < w24.heap.size := X0.lt
      go_region_held3 (fun w' => w'.cell? ⟨w15.heap.size, 0, none⟩ = some (.int .i64 R0) ∧ w'.cell? ⟨w15.heap.size, 1, none⟩ = some (.int .i64 C0) ∧ w'.cell? ⟨w15.heap.size, 2, none⟩ = some (.slice (some ⟨gO_x0, 0, none⟩) l0.length l0.length) ∧ w'.cell? ⟨w15.heap.size, 3, none⟩ = some (.int .i64 p0) ∧ w'.cell? ⟨w15.heap.size, 4, none⟩ = some (.int .i64 q0) ∧ w'.cell? ⟨w15.heap.size, 5, none⟩ = some (.int .i64 bl0) ∧ w'.cell? ⟨w15.heap.size, 6, none⟩ = some (.int .i64 rd0) ∧ w'.cell? ⟨w15.heap.size, 7, none⟩ = some (.int .i64 nx0) ∧ w'.cell? ⟨w.heap.size, 0, none⟩ = some (.int .i64 R0) ∧ w'.cell? ⟨w.heap.size, 1, none⟩ = some (.int .i64 C0) ∧ w'.cell? ⟨w.heap.size, 2, none⟩ = some (.slice A0 l0.length cap0) ∧ w'.cell? ⟨w.heap.size, 3, none⟩ = some (.int .i64 p0) ∧ w'.cell? ⟨w.heap.size, 4, none⟩ = some (.int .i64 q0) ∧ w'.cell? ⟨w.heap.size, 5, none⟩ = some (.int .i64 bl0) ∧ w'.cell? ⟨w.heap.size, 6, none⟩ = some (.int .i64 rd0) ∧ w'.cell? ⟨w.heap.size, 7, none⟩ = some (.int .i64 nx0))
        (first | exact ⟨kXX00, kXX01, kXX02, kXX03, kXX04, kXX05, kXX06, kXX07, kX00, kX01, kX02, kX03, kX04, kX05, kX06, kX07⟩ | exact ⟨(b.cell (p := ⟨w15.heap.size, 0, none⟩) hqXX0).trans kXX00, (b.cell (p := ⟨w15.heap.size, 1, none⟩) hqXX0).trans kXX01, (b.cell (p := ⟨w15.heap.size, 2, none⟩) hqXX0).trans kXX02, (b.cell (p := ⟨w15.heap.size, 3, none⟩) hqXX0).trans kXX03, (b.cell (p := ⟨w15.heap.size, 4, none⟩) hqXX0).trans kXX04, (b.cell (p := ⟨w15.heap.size, 5, none⟩) hqXX0).trans kXX05, (b.cell (p := ⟨w15.heap.size, 6, none⟩) hqXX0).trans kXX06, (b.cell (p := ⟨w15.heap.size, 7, none⟩) hqXX0).trans kXX07, (b.cell (p := ⟨w.heap.size, 0, none⟩) hqX0).trans kX00, (b.cell (p := ⟨w.heap.size, 1, none⟩) hqX0).trans kX01, (b.cell (p := ⟨w.heap.size, 2, none⟩) hqX0).trans kX02, (b.cell (p := ⟨w.heap.size, 3, none⟩) hqX0).trans kX03, (b.cell (p := ⟨w.heap.size, 4, none⟩) hqX0).trans kX04, (b.cell (p := ⟨w.heap.size, 5, none⟩) hqX0).trans kX05, (b.cell (p := ⟨w.heap.size, 6, none⟩) hqX0).trans kX06, (b.cell (p := ⟨w.heap.size, 7, none⟩) hqX0).trans kX07⟩ | exact ⟨(b2.cell (p := ⟨w15.heap.size, 0, none⟩) (Nat.lt_of_lt_of_le hqXX0 b.size)).trans ((b.cell (p := ⟨w15.heap.size, 0, none⟩) hqXX0).trans kXX00), (b2.cell (p := ⟨w15.heap.size, 1, none⟩) (Nat.lt_of_lt_of_le hqXX0 b.size)).trans ((b.cell (p := ⟨w15.heap.size, 1, none⟩) hqXX0).trans kXX01), (b2.cell (p := ⟨w15.heap.size, 2, none⟩) (Nat.lt_of_lt_of_le hqXX0 b.size)).trans ((b.cell (p := ⟨w15.heap.size, 2, none⟩) hqXX0).trans kXX02), (b2.cell (p := ⟨w15.heap.size, 3, none⟩) (Nat.lt_of_lt_of_le hqXX0 b.size)).trans ((b.cell (p := ⟨w15.heap.size, 3, none⟩) hqXX0).trans kXX03), (b2.cell (p := ⟨w15.heap.size, 4, none⟩) (Nat.lt_of_lt_of_le hqXX0 b.size)).trans ((b.cell (p := ⟨w15.heap.size, 4, none⟩) hqXX0).trans kXX04), (b2.cell (p := ⟨w15.heap.size, 5, none⟩) (Nat.lt_of_lt_of_le hqXX0 b.size)).trans ((b.cell (p := ⟨w15.heap.size, 5, none⟩) hqXX0).trans kXX05), (b2.cell (p := ⟨w15.heap.size, 6, none⟩) (Nat.lt_of_lt_of_le hqXX0 b.size)).trans ((b.cell (p := ⟨w15.heap.size, 6, none⟩) hqXX0).trans kXX06), (b2.cell (p := ⟨w15.heap.size, 7, none⟩) (Nat.lt_of_lt_of_le hqXX0 b.size)).trans ((b.cell (p := ⟨w15.heap.size, 7, none⟩) hqXX0).trans kXX07), (b2.cell (p := ⟨w.heap.size, 0, none⟩) (Nat.lt_of_lt_of_le hqX0 b.size)).trans ((b.cell (p := ⟨w.heap.size, 0, none⟩) hqX0).trans kX00), (b2.cell (p := ⟨w.heap.size, 1, none⟩) (Nat.lt_of_lt_of_le hqX0 b.size)).trans ((b.cell (p := ⟨w.heap.size, 1, none⟩) hqX0).trans kX01), (b2.cell (p := ⟨w.heap.size, 2, none⟩) (Nat.lt_of_lt_of_le hqX0 b.size)).trans ((b.cell (p := ⟨w.heap.size, 2, none⟩) hqX0).trans kX02), (b2.cell (p := ⟨w.heap.size, 3, none⟩) (Nat.lt_of_lt_of_le hqX0 b.size)).trans ((b.cell (p := ⟨w.heap.size, 3, none⟩) hqX0).trans kX03), (b2.cell (p := ⟨w.heap.size, 4, none⟩) (Nat.lt_of_lt_of_le hqX0 b.size)).trans ((b.cell (p := ⟨w.heap.size, 4, none⟩) hqX0).trans kX04), (b2.cell (p := ⟨w.heap.size, 5, none⟩) (Nat.lt_of_lt_of_le hqX0 b.size)).trans ((b.cell (p := ⟨w.heap.size, 5, none⟩) hqX0).trans kX05), (b2.cell (p := ⟨w.heap.size, 6, none⟩) (Nat.lt_of_lt_of_le hqX0 b.size)).trans ((b.cell (p := ⟨w.heap.size, 6, none⟩) hqX0).trans kX06), (b2.cell (p := ⟨w.heap.size, 7, none⟩) (Nat.lt_of_lt_of_le hqX0 b.size)).trans ((b.cell (p := ⟨w.heap.size, 7, none⟩) hqX0).trans kX07)⟩)
        ((first | (go_at_call 8; refine (toMachine_any _ _ _ _ l0 _ _ _ _ _ _ hn0 ((hr0.below B.drew).mono B.size)).mono ?_; rintro e w26a ⟨gq, rfl, t, n, b⟩) | (go_at_call 11; refine (eqMachine_same _ _ _ _ _ _ _ _ _ _ _ l0 _ hn0 ((O_x0.keep (Below.drew (Below.refl _ _))).keep b).rd t.own.rd).mono ?_; rintro e w26b ⟨rfl, b2⟩)))
      have bb : Below w24.heap.size w24 w26b := ((Below.refl _ _).drew).trans (b.trans (b2.mono b.size))
      clear b b2 t n zXX0 kXX00 kXX01 kXX02 kXX03 kXX04 kXX05 kXX06 kXX07 zX0 kX00 kX01 kX02 kX03 kX04 kX05 kX06 kX07 hqXX0 hqX0
      replace X0 := X0.below bb X0.lt
      replace O_x0 := O_x0.keep bb
      replace XX0 := XX0.below bb XX0.lt
      replace O_x1 := O_x1.keep bb
      replace B := B.trans (bb.mono B.size)
      have s27 : w24.heap.size ≤ w26b.heap.size := bb.size
      clear bb
      go_wp2_with fail
      refine (toLogS_any _ _ l1 _ hn1 ((hr1.below B).mono B.size)).mono ?_; rintro e w28 ⟨gT1, rfl, t, n, b⟩
      replace X0 := X0.below b X0.lt
      replace O_x0 := O_x0.keep b
      replace XX0 := XX0.below b XX0.lt
      replace O_x1 := O_x1.keep b
      replace B := B.trans (b.mono B.size)
      have s29 : w26b.heap.size ≤ w28.heap.size := b.size
      clear b
      have T1 := t.own
      have loT1 : ∀ a : Addr, (some ⟨gT1, 0, none⟩) = some a → w26b.heap.size ≤ a.block := fun a ha => by cases ha; exact n
      have hiT1 : ∀ a : Addr, (some ⟨gT1, 0, none⟩) = some a → 0 < l1.length → a.block < w28.heap.size := fun a ha _ => by cases ha; exact t.lt
      clear t n
      go_wp2_with fail
      refine (eqLogS_any _ _ _ _ l1 l1 _ hn1 hn1 O_x1.rd T1.rd).mono ?_; rintro e w31 ⟨rfl, b⟩
      rw [decide_eq_true (rfl : l1 = l1)]
      replace X0 := X0.below b X0.lt
      replace O_x0 := O_x0.keep b
      replace XX0 := XX0.below b XX0.lt
      replace O_x1 := O_x1.keep b
      replace T1 := T1.keep b
      replace B := B.trans (b.mono B.size)
      have s32 : w28.heap.size ≤ w31.heap.size := b.size
      clear b
      clear T1
      go_wp2
      go_returns
      exact ⟨rfl, B⟩
    · go_enter Tryz.func3, Tryz.ntmps3
      have B : Below w.heap.size w w := Below.refl _ _
      go_wp2_with fail
      have b : Below w.heap.size w (w.alloc (.cells #[.int .i64 R0, .int .i64 C0, .slice A0 l0.length cap0, .int .i64 p0, .int .i64 q0, .int .i64 bl0, .int .i64 rd0, .int .i64 nx0] 26)) := (Below.refl _ _).alloc (Nat.le_refl _) _
      have X0 : Whole (w.alloc (.cells #[.int .i64 R0, .int .i64 C0, .slice A0 l0.length cap0, .int .i64 p0, .int .i64 q0, .int .i64 bl0, .int .i64 rd0, .int .i64 nx0] 26)) w.heap.size 26 [.int .i64 R0, .int .i64 C0, .slice A0 l0.length cap0, .int .i64 p0, .int .i64 q0, .int .i64 bl0, .int .i64 rd0, .int .i64 nx0] := heap_alloc_new w _
      have HZ := Lib.hid (show (w.alloc (.cells #[.int .i64 R0, .int .i64 C0, .slice A0 l0.length cap0, .int .i64 p0, .int .i64 q0, .int .i64 bl0, .int .i64 rd0, .int .i64 nx0] 26)).heap.size = w.heap.size + 1 by rw [World.size_alloc])
      replace B := B.trans (b.mono B.size)
      have s2 : w.heap.size ≤ (w.alloc (.cells #[.int .i64 R0, .int .i64 C0, .slice A0 l0.length cap0, .int .i64 p0, .int .i64 q0, .int .i64 bl0, .int .i64 rd0, .int .i64 nx0] 26)).heap.size := b.size
      clear b
      have hiX0 := X0.lt
      generalize w.alloc (.cells #[.int .i64 R0, .int .i64 C0, .slice A0 l0.length cap0, .int .i64 p0, .int .i64 q0, .int .i64 bl0, .int .i64 rd0, .int .i64 nx0] 26) = v1 at *
      have zX0 : w.heap.size < v1.heap.size := X0.lt
      have kX00 : v1.cell? ⟨w.heap.size, 0, none⟩ = some (.int .i64 R0) := (X0.cell 0).trans rfl
      have kX01 : v1.cell? ⟨w.heap.size, 1, none⟩ = some (.int .i64 C0) := (X0.cell 1).trans rfl
      have kX02 : v1.cell? ⟨w.heap.size, 2, none⟩ = some (.slice A0 l0.length cap0) := (X0.cell 2).trans rfl
      have kX03 : v1.cell? ⟨w.heap.size, 3, none⟩ = some (.int .i64 p0) := (X0.cell 3).trans rfl
      have kX04 : v1.cell? ⟨w.heap.size, 4, none⟩ = some (.int .i64 q0) := (X0.cell 4).trans rfl
      have kX05 : v1.cell? ⟨w.heap.size, 5, none⟩ = some (.int .i64 bl0) := (X0.cell 5).trans rfl
      have kX06 : v1.cell? ⟨w.heap.size, 6, none⟩ = some (.int .i64 rd0) := (X0.cell 6).trans rfl
      have kX07 : v1.cell? ⟨w.heap.size, 7, none⟩ = some (.int .i64 nx0) := (X0.cell 7).trans rfl
      go_wp2_with fail
      refine (szMachine_any _ _ _ _ _ _ _ _ _ _ _ _ hm0 (by omega) (by omega)).mono ?_; rintro e w4 ⟨rfl, b⟩
      clear zX0 kX00 kX01 kX02 kX03 kX04 kX05 kX06 kX07
      rw [if_neg (by omega)]
      replace X0 := X0.below b X0.lt
      replace B := B.trans (b.mono B.size)
      have s5 : v1.heap.size ≤ w4.heap.size := b.size
      clear b
      go_wp2_with fail
      refine (szLogS_any _ _ _ _ _ hm1 (by omega) (by omega)).mono ?_; rintro e w6 ⟨rfl, rfl⟩
      rw [if_pos (by omega)]
      go_wp2
      go_returns
      exact ⟨rfl, B⟩
  · go_enter Tryz.func3, Tryz.ntmps3
    have B : Below w.heap.size w w := Below.refl _ _
    go_wp2_with fail
    have b : Below w.heap.size w (w.alloc (.cells #[.int .i64 R0, .int .i64 C0, .slice A0 l0.length cap0, .int .i64 p0, .int .i64 q0, .int .i64 bl0, .int .i64 rd0, .int .i64 nx0] 26)) := (Below.refl _ _).alloc (Nat.le_refl _) _
    have X0 : Whole (w.alloc (.cells #[.int .i64 R0, .int .i64 C0, .slice A0 l0.length cap0, .int .i64 p0, .int .i64 q0, .int .i64 bl0, .int .i64 rd0, .int .i64 nx0] 26)) w.heap.size 26 [.int .i64 R0, .int .i64 C0, .slice A0 l0.length cap0, .int .i64 p0, .int .i64 q0, .int .i64 bl0, .int .i64 rd0, .int .i64 nx0] := heap_alloc_new w _
    have HZ := Lib.hid (show (w.alloc (.cells #[.int .i64 R0, .int .i64 C0, .slice A0 l0.length cap0, .int .i64 p0, .int .i64 q0, .int .i64 bl0, .int .i64 rd0, .int .i64 nx0] 26)).heap.size = w.heap.size + 1 by rw [World.size_alloc])
    replace B := B.trans (b.mono B.size)
    have s2 : w.heap.size ≤ (w.alloc (.cells #[.int .i64 R0, .int .i64 C0, .slice A0 l0.length cap0, .int .i64 p0, .int .i64 q0, .int .i64 bl0, .int .i64 rd0, .int .i64 nx0] 26)).heap.size := b.size
    clear b
    have hiX0 := X0.lt
    generalize w.alloc (.cells #[.int .i64 R0, .int .i64 C0, .slice A0 l0.length cap0, .int .i64 p0, .int .i64 q0, .int .i64 bl0, .int .i64 rd0, .int .i64 nx0] 26) = v1 at *
    have zX0 : w.heap.size < v1.heap.size := X0.lt
    have kX00 : v1.cell? ⟨w.heap.size, 0, none⟩ = some (.int .i64 R0) := (X0.cell 0).trans rfl
    have kX01 : v1.cell? ⟨w.heap.size, 1, none⟩ = some (.int .i64 C0) := (X0.cell 1).trans rfl
    have kX02 : v1.cell? ⟨w.heap.size, 2, none⟩ = some (.slice A0 l0.length cap0) := (X0.cell 2).trans rfl
    have kX03 : v1.cell? ⟨w.heap.size, 3, none⟩ = some (.int .i64 p0) := (X0.cell 3).trans rfl
    have kX04 : v1.cell? ⟨w.heap.size, 4, none⟩ = some (.int .i64 q0) := (X0.cell 4).trans rfl
    have kX05 : v1.cell? ⟨w.heap.size, 5, none⟩ = some (.int .i64 bl0) := (X0.cell 5).trans rfl
    have kX06 : v1.cell? ⟨w.heap.size, 6, none⟩ = some (.int .i64 rd0) := (X0.cell 6).trans rfl
    have kX07 : v1.cell? ⟨w.heap.size, 7, none⟩ = some (.int .i64 nx0) := (X0.cell 7).trans rfl
    go_wp2_with fail
    refine (szMachine_any _ _ _ _ _ _ _ _ _ _ _ _ hm0 (by omega) (by omega)).mono ?_; rintro e w4 ⟨rfl, b⟩
    clear zX0 kX00 kX01 kX02 kX03 kX04 kX05 kX06 kX07
    rw [if_pos (by omega)]
    replace X0 := X0.below b X0.lt
    replace B := B.trans (b.mono B.size)
    have s5 : v1.heap.size ≤ w4.heap.size := b.size
    clear b
    go_wp2
    go_returns
    exact ⟨rfl, B⟩
theorem ExplainsLog_walk : Walk Tryz.prog 3 Tryz.f3 := by
  intro H enc W base args ds ps hA hval
  rw [Tryz.params3] at hA hval
  obtain ⟨v0, vs0, d0, ds0, p0, q0, hv0, hd0, hp0, h0, r0⟩ := trodAll_cons hA
  obtain ⟨v1, vs1, d1, ds1, p1, q1, hv1, hd1, hp1, h1, r1⟩ := trodAll_cons r0
  obtain ⟨e1, e2, e3⟩ := trodAll_nil r1
  have ha : args = #[v0, v1] := by
    apply Array.toList_inj.1
    rw [hv0, hv1, e1]
  subst ha
  obtain ⟨R0, C0, A0, cap0, l0, m0a, m0b, m0c, m0d, m0e, rfl, hm0, hr0⟩ := open_machine (hval 0 26 v0 rfl rfl) h0
  obtain ⟨A1, cap1, l1, e1_, hm1, hr1⟩ := open_logs (hval 1 27 v1 rfl rfl) h1
  subst e1_
  exact ExplainsLog_walk0 R0 C0 A0 cap0 l0 m0a m0b m0c m0d m0e A1 cap1 l1 W hm0 hr0 hm1 hr1
set_option maxRecDepth 100000 in
theorem ExplainsLog_holds : Rows.FnExactExplainsLogSaid :=
  OpenClaim.holds_of_wide 3 Tryz.f3 rfl rfl rfl rfl rfl rfl rfl ⟨rfl, rfl, rfl, rfl, rfl⟩ rfl rfl rfl rfl rfl (by kernel_rfl) Tryz.func3 (by kernel_rfl)
    (of_decide_eq_true (by kernel_rfl)) (by unfold Func.isWrapper; first | (rw [if_pos (by decide +kernel)]; kernel_rfl) | (rw [if_neg (by decide +kernel)]; exact ⟨rfl, rfl⟩))
    (fun os started H enc _ => lifted (C := Tryz.checked) (s := Rows.fnExactExplainsLogSpec) started own (by kernel_rfl) Tryz.func3 ⟨#[], #[.agg #[.int .i64 0, .int .i64 0, .slice none 0 0, .int .i64 0, .int .i64 0, .int .i64 0, .int .i64 0, .int .i64 0], .slice none 0 0], []⟩ 8 (by kernel_rfl) (by kernel_rfl) (by kernel_rfl) (by kernel_rfl) (by kernel_rfl)
      laidOut (by kernel_rfl) rfl rfl Tryz.underlying4 (fun ds h => by
        match ds, h with
        | [d0, d1], _ => exact ⟨rfl, rfl, rfl⟩) ExplainsLog_walk)
end Go.Proofs.YtlambflmabecfaaGreat
