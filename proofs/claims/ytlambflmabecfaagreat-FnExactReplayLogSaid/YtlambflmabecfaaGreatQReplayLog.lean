/- For every machine and every list of entries, ReplayLog of the program answers as the model does, keeps its arguments, and owns what it hands back. No condition. -/
import Derived.Test.YtlambflmabecfaaGreatM1
import Derived.Deep.RegionHeld3
import Derived.Deep.DeepCutAuto
import Derived.Test.YtlambflmabecfaaGreatM2
import Derived.Test.YtlambflmabecfaaGreatM9
namespace Go.Proofs.YtlambflmabecfaaGreat
open Go.ChangeShapes Go.WideShapes Go.ChangeAt Go.RowKit Go.Joins Go.Deep
set_option linter.unusedSimpArgs false
set_option linter.unusedVariables false
set_option maxRecDepth 100000
set_option maxHeartbeats 4000000 in
theorem ReplayLog_walk0 (R0 C0 : Int) (A0 : Option Addr) (cap0 : Nat) (l0 : List (Int × Int)) (p0 q0 bl0 rd0 nx0 : Int) (A1 : Option Addr) (cap1 : Nat) (l1 : List (Int × Int × Int × Int)) (w : World) (hm0 : l0.length ≤ maxLen) (hr0 : Rd w w.heap.size A0 (flat l0)) (hm1 : l1.length ≤ maxLen) (hr1 : Rd w w.heap.size A1 (flatL l1)) :
    Calls Tryz.prog 4 #[.agg #[.int .i64 R0, .int .i64 C0, .slice A0 l0.length cap0, .int .i64 p0, .int .i64 q0, .int .i64 bl0, .int .i64 rd0, .int .i64 nx0], .slice A1 l1.length cap1] w fun e w' => e = .returned (.bool true) ∧ Below w.heap.size w w' := by
  by_cases ht0 : l0.length ≤ 1048576
  · have hn0 : l0.length ≤ 1048576 := by omega
    by_cases ht1 : l0.length + l1.length ≤ 1048576
    · have hn1 : l1.length ≤ 1048576 := by omega
      go_enter Tryz.func4, Tryz.ntmps4
      have B : Below w.heap.size w w := Below.refl _ _
      go_wp2_with fail
      have b : Below w.heap.size w (w.alloc (.cells #[.int .i64 R0, .int .i64 C0, .slice A0 l0.length cap0, .int .i64 p0, .int .i64 q0, .int .i64 bl0, .int .i64 rd0, .int .i64 nx0] 26)) := (Below.refl _ _).alloc (Nat.le_refl _) _
      have X0 : Whole (w.alloc (.cells #[.int .i64 R0, .int .i64 C0, .slice A0 l0.length cap0, .int .i64 p0, .int .i64 q0, .int .i64 bl0, .int .i64 rd0, .int .i64 nx0] 26)) w.heap.size 26 [.int .i64 R0, .int .i64 C0, .slice A0 l0.length cap0, .int .i64 p0, .int .i64 q0, .int .i64 bl0, .int .i64 rd0, .int .i64 nx0] := heap_alloc_new w _
      have HZ := Lib.hid (show (w.alloc (.cells #[.int .i64 R0, .int .i64 C0, .slice A0 l0.length cap0, .int .i64 p0, .int .i64 q0, .int .i64 bl0, .int .i64 rd0, .int .i64 nx0] 26)).heap.size = w.heap.size + 1 by rw [World.size_alloc])
      replace B := B.trans (b.mono B.size)
      have s2 : w.heap.size ≤ (w.alloc (.cells #[.int .i64 R0, .int .i64 C0, .slice A0 l0.length cap0, .int .i64 p0, .int .i64 q0, .int .i64 bl0, .int .i64 rd0, .int .i64 nx0] 26)).heap.size := b.size
      clear b
      have hiX0 := X0.lt
      generalize w.alloc (.cells #[.int .i64 R0, .int .i64 C0, .slice A0 l0.length cap0, .int .i64 p0, .int .i64 q0, .int .i64 bl0, .int .i64 rd0, .int .i64 nx0] 26) = v1 at *
      have zX0 : w.heap.size < v1.heap.size := X0.lt
      have kX00 : v1.cell? ⟨w.heap.size, 0, none⟩ = some (.int .i64 R0) := (X0.cell 0).trans rfl
      have kX01 : v1.cell? ⟨w.heap.size, 1, none⟩ = some (.int .i64 C0) := (X0.cell 1).trans rfl
      have kX02 : v1.cell? ⟨w.heap.size, 2, none⟩ = some (.slice A0 l0.length cap0) := (X0.cell 2).trans rfl
      have kX03 : v1.cell? ⟨w.heap.size, 3, none⟩ = some (.int .i64 p0) := (X0.cell 3).trans rfl
      have kX04 : v1.cell? ⟨w.heap.size, 4, none⟩ = some (.int .i64 q0) := (X0.cell 4).trans rfl
      have kX05 : v1.cell? ⟨w.heap.size, 5, none⟩ = some (.int .i64 bl0) := (X0.cell 5).trans rfl
      have kX06 : v1.cell? ⟨w.heap.size, 6, none⟩ = some (.int .i64 rd0) := (X0.cell 6).trans rfl
      have kX07 : v1.cell? ⟨w.heap.size, 7, none⟩ = some (.int .i64 nx0) := (X0.cell 7).trans rfl
      go_wp2_with fail
      refine (szMachine_any _ _ _ _ _ _ _ _ _ _ _ _ hm0 (by omega) (by omega)).mono ?_; rintro e w4 ⟨rfl, b⟩
      clear zX0 kX00 kX01 kX02 kX03 kX04 kX05 kX06 kX07
      rw [if_neg (by omega)]
      replace X0 := X0.below b X0.lt
      replace B := B.trans (b.mono B.size)
      have s5 : v1.heap.size ≤ w4.heap.size := b.size
      clear b
      go_wp2_with fail
      refine (szLogS_any _ _ _ _ _ hm1 (by omega) (by omega)).mono ?_; rintro e w6 ⟨rfl, rfl⟩
      rw [if_neg (by omega)]
      have zX0 : w.heap.size < w4.heap.size := X0.lt
      have kX00 : w4.cell? ⟨w.heap.size, 0, none⟩ = some (.int .i64 R0) := (X0.cell 0).trans rfl
      have kX01 : w4.cell? ⟨w.heap.size, 1, none⟩ = some (.int .i64 C0) := (X0.cell 1).trans rfl
      have kX02 : w4.cell? ⟨w.heap.size, 2, none⟩ = some (.slice A0 l0.length cap0) := (X0.cell 2).trans rfl
      have kX03 : w4.cell? ⟨w.heap.size, 3, none⟩ = some (.int .i64 p0) := (X0.cell 3).trans rfl
      have kX04 : w4.cell? ⟨w.heap.size, 4, none⟩ = some (.int .i64 q0) := (X0.cell 4).trans rfl
      have kX05 : w4.cell? ⟨w.heap.size, 5, none⟩ = some (.int .i64 bl0) := (X0.cell 5).trans rfl
      have kX06 : w4.cell? ⟨w.heap.size, 6, none⟩ = some (.int .i64 rd0) := (X0.cell 6).trans rfl
      have kX07 : w4.cell? ⟨w.heap.size, 7, none⟩ = some (.int .i64 nx0) := (X0.cell 7).trans rfl
      go_wp2_with fail
      refine (toMachine_any _ _ _ _ l0 _ _ _ _ _ _ hn0 ((hr0.below B).mono B.size)).mono ?_; rintro e w7 ⟨gT0, rfl, t, n, b⟩
      clear zX0 kX00 kX01 kX02 kX03 kX04 kX05 kX06 kX07
      replace X0 := X0.below b X0.lt
      replace B := B.trans (b.mono B.size)
      have s8 : w4.heap.size ≤ w7.heap.size := b.size
      clear b
      have T0 := t.own
      have loT0 : ∀ a : Addr, (some ⟨gT0, 0, none⟩) = some a → w4.heap.size ≤ a.block := fun a ha => by cases ha; exact n
      have hiT0 : ∀ a : Addr, (some ⟨gT0, 0, none⟩) = some a → 0 < l0.length → a.block < w7.heap.size := fun a ha _ => by cases ha; exact t.lt
      clear t n
      go_wp2_with fail
      refine (toLogS_any _ _ l1 _ hn1 ((hr1.below B).mono B.size)).mono ?_; rintro e w10 ⟨gT1, rfl, t, n, b⟩
      replace X0 := X0.below b X0.lt
      replace T0 := T0.keep b
      replace B := B.trans (b.mono B.size)
      have s11 : w7.heap.size ≤ w10.heap.size := b.size
      clear b
      have T1 := t.own
      have loT1 : ∀ a : Addr, (some ⟨gT1, 0, none⟩) = some a → w7.heap.size ≤ a.block := fun a ha => by cases ha; exact n
      have hiT1 : ∀ a : Addr, (some ⟨gT1, 0, none⟩) = some a → 0 < l1.length → a.block < w10.heap.size := fun a ha _ => by cases ha; exact t.lt
      clear t n
      go_wp2_with fail
      refine (spec_ReplayLog _ _ _ _ l0 _ _ _ _ _ _ _ l1 _ hn0 (T0.rd) hn1 (T1.rd) ).mono ?_; rintro e w13 ⟨Aw0, cw0, rfl, Ow0, loOw0, b⟩
      replace X0 := X0.below b X0.lt
      replace T0 := T0.keep b
      replace T1 := T1.keep b
      replace B := B.trans (b.mono B.size)
      have s14 : w10.heap.size ≤ w13.heap.size := b.size
      clear b
      have hiOw0 : ∀ a : Addr, Aw0 = some a → 0 < ((repO R0 C0 l0 p0 q0 bl0 rd0 nx0 l1).l).length → a.block < w13.heap.size := fun a ha hx => Ow0.lt (pos_flat hx) ha
      clear T0
      clear T1
      have zX0 : w.heap.size < w13.heap.size := X0.lt
      have kX00 : w13.cell? ⟨w.heap.size, 0, none⟩ = some (.int .i64 R0) := (X0.cell 0).trans rfl
      have kX01 : w13.cell? ⟨w.heap.size, 1, none⟩ = some (.int .i64 C0) := (X0.cell 1).trans rfl
      have kX02 : w13.cell? ⟨w.heap.size, 2, none⟩ = some (.slice A0 l0.length cap0) := (X0.cell 2).trans rfl
      have kX03 : w13.cell? ⟨w.heap.size, 3, none⟩ = some (.int .i64 p0) := (X0.cell 3).trans rfl
      have kX04 : w13.cell? ⟨w.heap.size, 4, none⟩ = some (.int .i64 q0) := (X0.cell 4).trans rfl
      have kX05 : w13.cell? ⟨w.heap.size, 5, none⟩ = some (.int .i64 bl0) := (X0.cell 5).trans rfl
      have kX06 : w13.cell? ⟨w.heap.size, 6, none⟩ = some (.int .i64 rd0) := (X0.cell 6).trans rfl
      have kX07 : w13.cell? ⟨w.heap.size, 7, none⟩ = some (.int .i64 nx0) := (X0.cell 7).trans rfl
      go_wp2_with fail
      clear zX0 kX00 kX01 kX02 kX03 kX04 kX05 kX06 kX07
      have b : Below w13.heap.size w13 (w13.alloc (.cells #[.int .i64 (selI (expO R0 C0 l0 p0 q0 bl0 rd0 nx0 l1) R0), .int .i64 (selI (expO R0 C0 l0 p0 q0 bl0 rd0 nx0 l1) C0), .slice Aw0 ((repO R0 C0 l0 p0 q0 bl0 rd0 nx0 l1).l).length cw0, .int .i64 (selI (expO R0 C0 l0 p0 q0 bl0 rd0 nx0 l1) p0), .int .i64 (selI (expO R0 C0 l0 p0 q0 bl0 rd0 nx0 l1) q0), .int .i64 ((repO R0 C0 l0 p0 q0 bl0 rd0 nx0 l1).bl), .int .i64 ((repO R0 C0 l0 p0 q0 bl0 rd0 nx0 l1).rd), .int .i64 ((repO R0 C0 l0 p0 q0 bl0 rd0 nx0 l1).nx)] 36)) := (Below.refl _ _).alloc (Nat.le_refl _) _
      have Zw0 : Whole (w13.alloc (.cells #[.int .i64 (selI (expO R0 C0 l0 p0 q0 bl0 rd0 nx0 l1) R0), .int .i64 (selI (expO R0 C0 l0 p0 q0 bl0 rd0 nx0 l1) C0), .slice Aw0 ((repO R0 C0 l0 p0 q0 bl0 rd0 nx0 l1).l).length cw0, .int .i64 (selI (expO R0 C0 l0 p0 q0 bl0 rd0 nx0 l1) p0), .int .i64 (selI (expO R0 C0 l0 p0 q0 bl0 rd0 nx0 l1) q0), .int .i64 ((repO R0 C0 l0 p0 q0 bl0 rd0 nx0 l1).bl), .int .i64 ((repO R0 C0 l0 p0 q0 bl0 rd0 nx0 l1).rd), .int .i64 ((repO R0 C0 l0 p0 q0 bl0 rd0 nx0 l1).nx)] 36)) w13.heap.size 36 [.int .i64 (selI (expO R0 C0 l0 p0 q0 bl0 rd0 nx0 l1) R0), .int .i64 (selI (expO R0 C0 l0 p0 q0 bl0 rd0 nx0 l1) C0), .slice Aw0 ((repO R0 C0 l0 p0 q0 bl0 rd0 nx0 l1).l).length cw0, .int .i64 (selI (expO R0 C0 l0 p0 q0 bl0 rd0 nx0 l1) p0), .int .i64 (selI (expO R0 C0 l0 p0 q0 bl0 rd0 nx0 l1) q0), .int .i64 ((repO R0 C0 l0 p0 q0 bl0 rd0 nx0 l1).bl), .int .i64 ((repO R0 C0 l0 p0 q0 bl0 rd0 nx0 l1).rd), .int .i64 ((repO R0 C0 l0 p0 q0 bl0 rd0 nx0 l1).nx)] := heap_alloc_new w13 _
      replace X0 := X0.below b X0.lt
      replace Ow0 := Ow0.keep b
      replace B := B.trans (b.mono B.size)
      have s17 : w13.heap.size ≤ (w13.alloc (.cells #[.int .i64 (selI (expO R0 C0 l0 p0 q0 bl0 rd0 nx0 l1) R0), .int .i64 (selI (expO R0 C0 l0 p0 q0 bl0 rd0 nx0 l1) C0), .slice Aw0 ((repO R0 C0 l0 p0 q0 bl0 rd0 nx0 l1).l).length cw0, .int .i64 (selI (expO R0 C0 l0 p0 q0 bl0 rd0 nx0 l1) p0), .int .i64 (selI (expO R0 C0 l0 p0 q0 bl0 rd0 nx0 l1) q0), .int .i64 ((repO R0 C0 l0 p0 q0 bl0 rd0 nx0 l1).bl), .int .i64 ((repO R0 C0 l0 p0 q0 bl0 rd0 nx0 l1).rd), .int .i64 ((repO R0 C0 l0 p0 q0 bl0 rd0 nx0 l1).nx)] 36)).heap.size := b.size
      clear b
      have hiZw0 := Zw0.lt
      generalize w13.alloc (.cells #[.int .i64 (selI (expO R0 C0 l0 p0 q0 bl0 rd0 nx0 l1) R0), .int .i64 (selI (expO R0 C0 l0 p0 q0 bl0 rd0 nx0 l1) C0), .slice Aw0 ((repO R0 C0 l0 p0 q0 bl0 rd0 nx0 l1).l).length cw0, .int .i64 (selI (expO R0 C0 l0 p0 q0 bl0 rd0 nx0 l1) p0), .int .i64 (selI (expO R0 C0 l0 p0 q0 bl0 rd0 nx0 l1) q0), .int .i64 ((repO R0 C0 l0 p0 q0 bl0 rd0 nx0 l1).bl), .int .i64 ((repO R0 C0 l0 p0 q0 bl0 rd0 nx0 l1).rd), .int .i64 ((repO R0 C0 l0 p0 q0 bl0 rd0 nx0 l1).nx)] 36) = v16 at *
      refine (toMachine_any _ _ _ _ l0 _ _ _ _ _ _ hn0 ((hr0.below B).mono B.size)).mono ?_; rintro e w19 ⟨gO_x0, rfl, t, n, b⟩
      replace X0 := X0.below b X0.lt
      replace Ow0 := Ow0.keep b
      replace Zw0 := Zw0.below b Zw0.lt
      replace B := B.trans (b.mono B.size)
      have s20 : v16.heap.size ≤ w19.heap.size := b.size
      clear b
      have O_x0 := t.own
      have loO_x0 : ∀ a : Addr, (some ⟨gO_x0, 0, none⟩) = some a → v16.heap.size ≤ a.block := fun a ha => by cases ha; exact n
      have hiO_x0 : ∀ a : Addr, (some ⟨gO_x0, 0, none⟩) = some a → 0 < l0.length → a.block < w19.heap.size := fun a ha _ => by cases ha; exact t.lt
      clear t n
      go_wp2_with fail
      have b : Below w19.heap.size w19 (w19.alloc (.cells #[.int .i64 R0, .int .i64 C0, .slice (some ⟨gO_x0, 0, none⟩) l0.length l0.length, .int .i64 p0, .int .i64 q0, .int .i64 bl0, .int .i64 rd0, .int .i64 nx0] 36)) := (Below.refl _ _).alloc (Nat.le_refl _) _
      have XX0 : Whole (w19.alloc (.cells #[.int .i64 R0, .int .i64 C0, .slice (some ⟨gO_x0, 0, none⟩) l0.length l0.length, .int .i64 p0, .int .i64 q0, .int .i64 bl0, .int .i64 rd0, .int .i64 nx0] 36)) w19.heap.size 36 [.int .i64 R0, .int .i64 C0, .slice (some ⟨gO_x0, 0, none⟩) l0.length l0.length, .int .i64 p0, .int .i64 q0, .int .i64 bl0, .int .i64 rd0, .int .i64 nx0] := heap_alloc_new w19 _
      replace X0 := X0.below b X0.lt
      replace Ow0 := Ow0.keep b
      replace Zw0 := Zw0.below b Zw0.lt
      replace O_x0 := O_x0.keep b
      replace B := B.trans (b.mono B.size)
      have s23 : w19.heap.size ≤ (w19.alloc (.cells #[.int .i64 R0, .int .i64 C0, .slice (some ⟨gO_x0, 0, none⟩) l0.length l0.length, .int .i64 p0, .int .i64 q0, .int .i64 bl0, .int .i64 rd0, .int .i64 nx0] 36)).heap.size := b.size
      clear b
      have hiXX0 := XX0.lt
      generalize w19.alloc (.cells #[.int .i64 R0, .int .i64 C0, .slice (some ⟨gO_x0, 0, none⟩) l0.length l0.length, .int .i64 p0, .int .i64 q0, .int .i64 bl0, .int .i64 rd0, .int .i64 nx0] 36) = v22 at *
      refine (toLogS_any _ _ l1 _ hn1 ((hr1.below B).mono B.size)).mono ?_; rintro e w25 ⟨gO_x1, rfl, t, n, b⟩
      replace X0 := X0.below b X0.lt
      replace Ow0 := Ow0.keep b
      replace Zw0 := Zw0.below b Zw0.lt
      replace O_x0 := O_x0.keep b
      replace XX0 := XX0.below b XX0.lt
      replace B := B.trans (b.mono B.size)
      have s26 : v22.heap.size ≤ w25.heap.size := b.size
      clear b
      have O_x1 := t.own
      have loO_x1 : ∀ a : Addr, (some ⟨gO_x1, 0, none⟩) = some a → v22.heap.size ≤ a.block := fun a ha => by cases ha; exact n
      have hiO_x1 : ∀ a : Addr, (some ⟨gO_x1, 0, none⟩) = some a → 0 < l1.length → a.block < w25.heap.size := fun a ha _ => by cases ha; exact t.lt
      clear t n
      have zXX0 : w19.heap.size < w25.heap.size := XX0.lt
      have kXX00 : w25.cell? ⟨w19.heap.size, 0, none⟩ = some (.int .i64 R0) := (XX0.cell 0).trans rfl
      have kXX01 : w25.cell? ⟨w19.heap.size, 1, none⟩ = some (.int .i64 C0) := (XX0.cell 1).trans rfl
      have kXX02 : w25.cell? ⟨w19.heap.size, 2, none⟩ = some (.slice (some ⟨gO_x0, 0, none⟩) l0.length l0.length) := (XX0.cell 2).trans rfl
      have kXX03 : w25.cell? ⟨w19.heap.size, 3, none⟩ = some (.int .i64 p0) := (XX0.cell 3).trans rfl
      have kXX04 : w25.cell? ⟨w19.heap.size, 4, none⟩ = some (.int .i64 q0) := (XX0.cell 4).trans rfl
      have kXX05 : w25.cell? ⟨w19.heap.size, 5, none⟩ = some (.int .i64 bl0) := (XX0.cell 5).trans rfl
      have kXX06 : w25.cell? ⟨w19.heap.size, 6, none⟩ = some (.int .i64 rd0) := (XX0.cell 6).trans rfl
      have kXX07 : w25.cell? ⟨w19.heap.size, 7, none⟩ = some (.int .i64 nx0) := (XX0.cell 7).trans rfl
      go_wp2_with fail
      refine (impl_ReplayLog _ _ _ _ l0 _ _ _ _ _ _ _ l1 _ hn0 (O_x0.rd) hn1 (O_x1.rd) ).mono ?_; rintro e w28 ⟨Ag0, cg0, rfl, Og0, loOg0, b⟩
      clear zXX0 kXX00 kXX01 kXX02 kXX03 kXX04 kXX05 kXX06 kXX07
      replace X0 := X0.below b X0.lt
      replace Ow0 := Ow0.keep b
      replace Zw0 := Zw0.below b Zw0.lt
      replace O_x0 := O_x0.keep b
      replace XX0 := XX0.below b XX0.lt
      replace O_x1 := O_x1.keep b
      replace B := B.trans (b.mono B.size)
      have s29 : w25.heap.size ≤ w28.heap.size := b.size
      clear b
      have hiOg0 : ∀ a : Addr, Ag0 = some a → 0 < ((repO R0 C0 l0 p0 q0 bl0 rd0 nx0 l1).l).length → a.block < w28.heap.size := fun a ha hx => Og0.lt (pos_flat hx) ha
      have zZw0 : w13.heap.size < w28.heap.size := Zw0.lt
      have kZw00 : w28.cell? ⟨w13.heap.size, 0, none⟩ = some (.int .i64 (selI (expO R0 C0 l0 p0 q0 bl0 rd0 nx0 l1) R0)) := (Zw0.cell 0).trans rfl
      have kZw01 : w28.cell? ⟨w13.heap.size, 1, none⟩ = some (.int .i64 (selI (expO R0 C0 l0 p0 q0 bl0 rd0 nx0 l1) C0)) := (Zw0.cell 1).trans rfl
      have kZw02 : w28.cell? ⟨w13.heap.size, 2, none⟩ = some (.slice Aw0 ((repO R0 C0 l0 p0 q0 bl0 rd0 nx0 l1).l).length cw0) := (Zw0.cell 2).trans rfl
      have kZw03 : w28.cell? ⟨w13.heap.size, 3, none⟩ = some (.int .i64 (selI (expO R0 C0 l0 p0 q0 bl0 rd0 nx0 l1) p0)) := (Zw0.cell 3).trans rfl
      have kZw04 : w28.cell? ⟨w13.heap.size, 4, none⟩ = some (.int .i64 (selI (expO R0 C0 l0 p0 q0 bl0 rd0 nx0 l1) q0)) := (Zw0.cell 4).trans rfl
      have kZw05 : w28.cell? ⟨w13.heap.size, 5, none⟩ = some (.int .i64 ((repO R0 C0 l0 p0 q0 bl0 rd0 nx0 l1).bl)) := (Zw0.cell 5).trans rfl
      have kZw06 : w28.cell? ⟨w13.heap.size, 6, none⟩ = some (.int .i64 ((repO R0 C0 l0 p0 q0 bl0 rd0 nx0 l1).rd)) := (Zw0.cell 6).trans rfl
      have kZw07 : w28.cell? ⟨w13.heap.size, 7, none⟩ = some (.int .i64 ((repO R0 C0 l0 p0 q0 bl0 rd0 nx0 l1).nx)) := (Zw0.cell 7).trans rfl
      go_wp2_with fail
      clear zZw0 kZw00 kZw01 kZw02 kZw03 kZw04 kZw05 kZw06 kZw07
      have b : Below w28.heap.size w28 (w28.alloc (.cells #[.int .i64 (selI (expO R0 C0 l0 p0 q0 bl0 rd0 nx0 l1) R0), .int .i64 (selI (expO R0 C0 l0 p0 q0 bl0 rd0 nx0 l1) C0), .slice Ag0 ((repO R0 C0 l0 p0 q0 bl0 rd0 nx0 l1).l).length cg0, .int .i64 (selI (expO R0 C0 l0 p0 q0 bl0 rd0 nx0 l1) p0), .int .i64 (selI (expO R0 C0 l0 p0 q0 bl0 rd0 nx0 l1) q0), .int .i64 ((repO R0 C0 l0 p0 q0 bl0 rd0 nx0 l1).bl), .int .i64 ((repO R0 C0 l0 p0 q0 bl0 rd0 nx0 l1).rd), .int .i64 ((repO R0 C0 l0 p0 q0 bl0 rd0 nx0 l1).nx)] 36)) := (Below.refl _ _).alloc (Nat.le_refl _) _
      have Zg0 : Whole (w28.alloc (.cells #[.int .i64 (selI (expO R0 C0 l0 p0 q0 bl0 rd0 nx0 l1) R0), .int .i64 (selI (expO R0 C0 l0 p0 q0 bl0 rd0 nx0 l1) C0), .slice Ag0 ((repO R0 C0 l0 p0 q0 bl0 rd0 nx0 l1).l).length cg0, .int .i64 (selI (expO R0 C0 l0 p0 q0 bl0 rd0 nx0 l1) p0), .int .i64 (selI (expO R0 C0 l0 p0 q0 bl0 rd0 nx0 l1) q0), .int .i64 ((repO R0 C0 l0 p0 q0 bl0 rd0 nx0 l1).bl), .int .i64 ((repO R0 C0 l0 p0 q0 bl0 rd0 nx0 l1).rd), .int .i64 ((repO R0 C0 l0 p0 q0 bl0 rd0 nx0 l1).nx)] 36)) w28.heap.size 36 [.int .i64 (selI (expO R0 C0 l0 p0 q0 bl0 rd0 nx0 l1) R0), .int .i64 (selI (expO R0 C0 l0 p0 q0 bl0 rd0 nx0 l1) C0), .slice Ag0 ((repO R0 C0 l0 p0 q0 bl0 rd0 nx0 l1).l).length cg0, .int .i64 (selI (expO R0 C0 l0 p0 q0 bl0 rd0 nx0 l1) p0), .int .i64 (selI (expO R0 C0 l0 p0 q0 bl0 rd0 nx0 l1) q0), .int .i64 ((repO R0 C0 l0 p0 q0 bl0 rd0 nx0 l1).bl), .int .i64 ((repO R0 C0 l0 p0 q0 bl0 rd0 nx0 l1).rd), .int .i64 ((repO R0 C0 l0 p0 q0 bl0 rd0 nx0 l1).nx)] := heap_alloc_new w28 _
      replace X0 := X0.below b X0.lt
      replace Ow0 := Ow0.keep b
      replace Zw0 := Zw0.below b Zw0.lt
      replace O_x0 := O_x0.keep b
      replace XX0 := XX0.below b XX0.lt
      replace O_x1 := O_x1.keep b
      replace Og0 := Og0.keep b
      replace B := B.trans (b.mono B.size)
      have s32 : w28.heap.size ≤ (w28.alloc (.cells #[.int .i64 (selI (expO R0 C0 l0 p0 q0 bl0 rd0 nx0 l1) R0), .int .i64 (selI (expO R0 C0 l0 p0 q0 bl0 rd0 nx0 l1) C0), .slice Ag0 ((repO R0 C0 l0 p0 q0 bl0 rd0 nx0 l1).l).length cg0, .int .i64 (selI (expO R0 C0 l0 p0 q0 bl0 rd0 nx0 l1) p0), .int .i64 (selI (expO R0 C0 l0 p0 q0 bl0 rd0 nx0 l1) q0), .int .i64 ((repO R0 C0 l0 p0 q0 bl0 rd0 nx0 l1).bl), .int .i64 ((repO R0 C0 l0 p0 q0 bl0 rd0 nx0 l1).rd), .int .i64 ((repO R0 C0 l0 p0 q0 bl0 rd0 nx0 l1).nx)] 36)).heap.size := b.size
      clear b
      have hiZg0 := Zg0.lt
      generalize w28.alloc (.cells #[.int .i64 (selI (expO R0 C0 l0 p0 q0 bl0 rd0 nx0 l1) R0), .int .i64 (selI (expO R0 C0 l0 p0 q0 bl0 rd0 nx0 l1) C0), .slice Ag0 ((repO R0 C0 l0 p0 q0 bl0 rd0 nx0 l1).l).length cg0, .int .i64 (selI (expO R0 C0 l0 p0 q0 bl0 rd0 nx0 l1) p0), .int .i64 (selI (expO R0 C0 l0 p0 q0 bl0 rd0 nx0 l1) q0), .int .i64 ((repO R0 C0 l0 p0 q0 bl0 rd0 nx0 l1).bl), .int .i64 ((repO R0 C0 l0 p0 q0 bl0 rd0 nx0 l1).rd), .int .i64 ((repO R0 C0 l0 p0 q0 bl0 rd0 nx0 l1).nx)] 36) = v31 at *
      refine (eqMachine_same _ _ _ _ _ _ _ _ _ _ _ ((repO R0 C0 l0 p0 q0 bl0 rd0 nx0 l1).l) _ (repO_len _ _ _ _ _ _ _ _ _ hn0) Og0.rd Ow0.rd).mono ?_; rintro e w34 ⟨rfl, b⟩
      replace X0 := X0.below b X0.lt
      replace Ow0 := Ow0.keep b
      replace Zw0 := Zw0.below b Zw0.lt
      replace O_x0 := O_x0.keep b
      replace XX0 := XX0.below b XX0.lt
      replace O_x1 := O_x1.keep b
      replace Og0 := Og0.keep b
      replace Zg0 := Zg0.below b Zg0.lt
      replace B := B.trans (b.mono B.size)
      have s35 : v31.heap.size ≤ w34.heap.size := b.size
      clear b
      have zXX0 : w19.heap.size < w34.heap.size := XX0.lt
      have kXX00 : w34.cell? ⟨w19.heap.size, 0, none⟩ = some (.int .i64 R0) := (XX0.cell 0).trans rfl
      have kXX01 : w34.cell? ⟨w19.heap.size, 1, none⟩ = some (.int .i64 C0) := (XX0.cell 1).trans rfl
      have kXX02 : w34.cell? ⟨w19.heap.size, 2, none⟩ = some (.slice (some ⟨gO_x0, 0, none⟩) l0.length l0.length) := (XX0.cell 2).trans rfl
      have kXX03 : w34.cell? ⟨w19.heap.size, 3, none⟩ = some (.int .i64 p0) := (XX0.cell 3).trans rfl
      have kXX04 : w34.cell? ⟨w19.heap.size, 4, none⟩ = some (.int .i64 q0) := (XX0.cell 4).trans rfl
      have kXX05 : w34.cell? ⟨w19.heap.size, 5, none⟩ = some (.int .i64 bl0) := (XX0.cell 5).trans rfl
      have kXX06 : w34.cell? ⟨w19.heap.size, 6, none⟩ = some (.int .i64 rd0) := (XX0.cell 6).trans rfl
      have kXX07 : w34.cell? ⟨w19.heap.size, 7, none⟩ = some (.int .i64 nx0) := (XX0.cell 7).trans rfl
      have zX0 : w.heap.size < w34.heap.size := X0.lt
      have kX00 : w34.cell? ⟨w.heap.size, 0, none⟩ = some (.int .i64 R0) := (X0.cell 0).trans rfl
      have kX01 : w34.cell? ⟨w.heap.size, 1, none⟩ = some (.int .i64 C0) := (X0.cell 1).trans rfl
      have kX02 : w34.cell? ⟨w.heap.size, 2, none⟩ = some (.slice A0 l0.length cap0) := (X0.cell 2).trans rfl
      have kX03 : w34.cell? ⟨w.heap.size, 3, none⟩ = some (.int .i64 p0) := (X0.cell 3).trans rfl
      have kX04 : w34.cell? ⟨w.heap.size, 4, none⟩ = some (.int .i64 q0) := (X0.cell 4).trans rfl
      have kX05 : w34.cell? ⟨w.heap.size, 5, none⟩ = some (.int .i64 bl0) := (X0.cell 5).trans rfl
      have kX06 : w34.cell? ⟨w.heap.size, 6, none⟩ = some (.int .i64 rd0) := (X0.cell 6).trans rfl
      have kX07 : w34.cell? ⟨w.heap.size, 7, none⟩ = some (.int .i64 nx0) := (X0.cell 7).trans rfl
      go_wp2_with fail
      have hqXX0 : w19.heap.size < w34.heap.size := XX0.lt
      have hqX0 : w.heap.size < w34.heap.size := X0.lt
      go_region_held3 (fun w' => w'.cell? ⟨w19.heap.size, 0, none⟩ = some (.int .i64 R0) ∧ w'.cell? ⟨w19.heap.size, 1, none⟩ = some (.int .i64 C0) ∧ w'.cell? ⟨w19.heap.size, 2, none⟩ = some (.slice (some ⟨gO_x0, 0, none⟩) l0.length l0.length) ∧ w'.cell? ⟨w19.heap.size, 3, none⟩ = some (.int .i64 p0) ∧ w'.cell? ⟨w19.heap.size, 4, none⟩ = some (.int .i64 q0) ∧ w'.cell? ⟨w19.heap.size, 5, none⟩ = some (.int .i64 bl0) ∧ w'.cell? ⟨w19.heap.size, 6, none⟩ = some (.int .i64 rd0) ∧ w'.cell? ⟨w19.heap.size, 7, none⟩ = some (.int .i64 nx0) ∧ w'.cell? ⟨w.heap.size, 0, none⟩ = some (.int .i64 R0) ∧ w'.cell? ⟨w.heap.size, 1, none⟩ = some (.int .i64 C0) ∧ w'.cell? ⟨w.heap.size, 2, none⟩ = some (.slice A0 l0.length cap0) ∧ w'.cell? ⟨w.heap.size, 3, none⟩ = some (.int .i64 p0) ∧ w'.cell? ⟨w.heap.size, 4, none⟩ = some (.int .i64 q0) ∧ w'.cell? ⟨w.heap.size, 5, none⟩ = some (.int .i64 bl0) ∧ w'.cell? ⟨w.heap.size, 6, none⟩ = some (.int .i64 rd0) ∧ w'.cell? ⟨w.heap.size, 7, none⟩ = some (.int .i64 nx0))
        (first | exact ⟨kXX00, kXX01, kXX02, kXX03, kXX04, kXX05, kXX06, kXX07, kX00, kX01, kX02, kX03, kX04, kX05, kX06, kX07⟩ | exact ⟨(b.cell (p := ⟨w19.heap.size, 0, none⟩) hqXX0).trans kXX00, (b.cell (p := ⟨w19.heap.size, 1, none⟩) hqXX0).trans kXX01, (b.cell (p := ⟨w19.heap.size, 2, none⟩) hqXX0).trans kXX02, (b.cell (p := ⟨w19.heap.size, 3, none⟩) hqXX0).trans kXX03, (b.cell (p := ⟨w19.heap.size, 4, none⟩) hqXX0).trans kXX04, (b.cell (p := ⟨w19.heap.size, 5, none⟩) hqXX0).trans kXX05, (b.cell (p := ⟨w19.heap.size, 6, none⟩) hqXX0).trans kXX06, (b.cell (p := ⟨w19.heap.size, 7, none⟩) hqXX0).trans kXX07, (b.cell (p := ⟨w.heap.size, 0, none⟩) hqX0).trans kX00, (b.cell (p := ⟨w.heap.size, 1, none⟩) hqX0).trans kX01, (b.cell (p := ⟨w.heap.size, 2, none⟩) hqX0).trans kX02, (b.cell (p := ⟨w.heap.size, 3, none⟩) hqX0).trans kX03, (b.cell (p := ⟨w.heap.size, 4, none⟩) hqX0).trans kX04, (b.cell (p := ⟨w.heap.size, 5, none⟩) hqX0).trans kX05, (b.cell (p := ⟨w.heap.size, 6, none⟩) hqX0).trans kX06, (b.cell (p := ⟨w.heap.size, 7, none⟩) hqX0).trans kX07⟩ | exact ⟨(b2.cell (p := ⟨w19.heap.size, 0, none⟩) (Nat.lt_of_lt_of_le hqXX0 b.size)).trans ((b.cell (p := ⟨w19.heap.size, 0, none⟩) hqXX0).trans kXX00), (b2.cell (p := ⟨w19.heap.size, 1, none⟩) (Nat.lt_of_lt_of_le hqXX0 b.size)).trans ((b.cell (p := ⟨w19.heap.size, 1, none⟩) hqXX0).trans kXX01), (b2.cell (p := ⟨w19.heap.size, 2, none⟩) (Nat.lt_of_lt_of_le hqXX0 b.size)).trans ((b.cell (p := ⟨w19.heap.size, 2, none⟩) hqXX0).trans kXX02), (b2.cell (p := ⟨w19.heap.size, 3, none⟩) (Nat.lt_of_lt_of_le hqXX0 b.size)).trans ((b.cell (p := ⟨w19.heap.size, 3, none⟩) hqXX0).trans kXX03), (b2.cell (p := ⟨w19.heap.size, 4, none⟩) (Nat.lt_of_lt_of_le hqXX0 b.size)).trans ((b.cell (p := ⟨w19.heap.size, 4, none⟩) hqXX0).trans kXX04), (b2.cell (p := ⟨w19.heap.size, 5, none⟩) (Nat.lt_of_lt_of_le hqXX0 b.size)).trans ((b.cell (p := ⟨w19.heap.size, 5, none⟩) hqXX0).trans kXX05), (b2.cell (p := ⟨w19.heap.size, 6, none⟩) (Nat.lt_of_lt_of_le hqXX0 b.size)).trans ((b.cell (p := ⟨w19.heap.size, 6, none⟩) hqXX0).trans kXX06), (b2.cell (p := ⟨w19.heap.size, 7, none⟩) (Nat.lt_of_lt_of_le hqXX0 b.size)).trans ((b.cell (p := ⟨w19.heap.size, 7, none⟩) hqXX0).trans kXX07), (b2.cell (p := ⟨w.heap.size, 0, none⟩) (Nat.lt_of_lt_of_le hqX0 b.size)).trans ((b.cell (p := ⟨w.heap.size, 0, none⟩) hqX0).trans kX00), (b2.cell (p := ⟨w.heap.size, 1, none⟩) (Nat.lt_of_lt_of_le hqX0 b.size)).trans ((b.cell (p := ⟨w.heap.size, 1, none⟩) hqX0).trans kX01), (b2.cell (p := ⟨w.heap.size, 2, none⟩) (Nat.lt_of_lt_of_le hqX0 b.size)).trans ((b.cell (p := ⟨w.heap.size, 2, none⟩) hqX0).trans kX02), (b2.cell (p := ⟨w.heap.size, 3, none⟩) (Nat.lt_of_lt_of_le hqX0 b.size)).trans ((b.cell (p := ⟨w.heap.size, 3, none⟩) hqX0).trans kX03), (b2.cell (p := ⟨w.heap.size, 4, none⟩) (Nat.lt_of_lt_of_le hqX0 b.size)).trans ((b.cell (p := ⟨w.heap.size, 4, none⟩) hqX0).trans kX04), (b2.cell (p := ⟨w.heap.size, 5, none⟩) (Nat.lt_of_lt_of_le hqX0 b.size)).trans ((b.cell (p := ⟨w.heap.size, 5, none⟩) hqX0).trans kX05), (b2.cell (p := ⟨w.heap.size, 6, none⟩) (Nat.lt_of_lt_of_le hqX0 b.size)).trans ((b.cell (p := ⟨w.heap.size, 6, none⟩) hqX0).trans kX06), (b2.cell (p := ⟨w.heap.size, 7, none⟩) (Nat.lt_of_lt_of_le hqX0 b.size)).trans ((b.cell (p := ⟨w.heap.size, 7, none⟩) hqX0).trans kX07)⟩)
        ((first | (go_at_call 8; refine (toMachine_any _ _ _ _ l0 _ _ _ _ _ _ hn0 ((hr0.below B.drew).mono B.size)).mono ?_; rintro e w36a ⟨gq, rfl, t, n, b⟩) | (go_at_call 11; refine (eqMachine_same _ _ _ _ _ _ _ _ _ _ _ l0 _ hn0 ((O_x0.keep (Below.drew (Below.refl _ _))).keep b).rd t.own.rd).mono ?_; rintro e w36b ⟨rfl, b2⟩)))
      have bb : Below w34.heap.size w34 w36b := ((Below.refl _ _).drew).trans (b.trans (b2.mono b.size))
      clear b b2 t n zXX0 kXX00 kXX01 kXX02 kXX03 kXX04 kXX05 kXX06 kXX07 zX0 kX00 kX01 kX02 kX03 kX04 kX05 kX06 kX07 hqXX0 hqX0
      replace X0 := X0.below bb X0.lt
      replace Ow0 := Ow0.keep bb
      replace Zw0 := Zw0.below bb Zw0.lt
      replace O_x0 := O_x0.keep bb
      replace XX0 := XX0.below bb XX0.lt
      replace O_x1 := O_x1.keep bb
      replace Og0 := Og0.keep bb
      replace Zg0 := Zg0.below bb Zg0.lt
      replace B := B.trans (bb.mono B.size)
      have s37 : w34.heap.size ≤ w36b.heap.size := bb.size
      clear bb
      go_wp2_with fail
      refine (toLogS_any _ _ l1 _ hn1 ((hr1.below B).mono B.size)).mono ?_; rintro e w38 ⟨gT1, rfl, t, n, b⟩
      replace X0 := X0.below b X0.lt
      replace Ow0 := Ow0.keep b
      replace Zw0 := Zw0.below b Zw0.lt
      replace O_x0 := O_x0.keep b
      replace XX0 := XX0.below b XX0.lt
      replace O_x1 := O_x1.keep b
      replace Og0 := Og0.keep b
      replace Zg0 := Zg0.below b Zg0.lt
      replace B := B.trans (b.mono B.size)
      have s39 : w36b.heap.size ≤ w38.heap.size := b.size
      clear b
      have T1 := t.own
      have loT1 : ∀ a : Addr, (some ⟨gT1, 0, none⟩) = some a → w36b.heap.size ≤ a.block := fun a ha => by cases ha; exact n
      have hiT1 : ∀ a : Addr, (some ⟨gT1, 0, none⟩) = some a → 0 < l1.length → a.block < w38.heap.size := fun a ha _ => by cases ha; exact t.lt
      clear t n
      go_wp2_with fail
      refine (eqLogS_any _ _ _ _ l1 l1 _ hn1 hn1 O_x1.rd T1.rd).mono ?_; rintro e w41 ⟨rfl, b⟩
      rw [decide_eq_true (rfl : l1 = l1)]
      replace X0 := X0.below b X0.lt
      replace Ow0 := Ow0.keep b
      replace Zw0 := Zw0.below b Zw0.lt
      replace O_x0 := O_x0.keep b
      replace XX0 := XX0.below b XX0.lt
      replace O_x1 := O_x1.keep b
      replace Og0 := Og0.keep b
      replace Zg0 := Zg0.below b Zg0.lt
      replace T1 := T1.keep b
      replace B := B.trans (b.mono B.size)
      have s42 : w38.heap.size ≤ w41.heap.size := b.size
      clear b
      clear T1
      have zXX0 : w19.heap.size < w41.heap.size := XX0.lt
      have kXX00 : w41.cell? ⟨w19.heap.size, 0, none⟩ = some (.int .i64 R0) := (XX0.cell 0).trans rfl
      have kXX01 : w41.cell? ⟨w19.heap.size, 1, none⟩ = some (.int .i64 C0) := (XX0.cell 1).trans rfl
      have kXX02 : w41.cell? ⟨w19.heap.size, 2, none⟩ = some (.slice (some ⟨gO_x0, 0, none⟩) l0.length l0.length) := (XX0.cell 2).trans rfl
      have kXX03 : w41.cell? ⟨w19.heap.size, 3, none⟩ = some (.int .i64 p0) := (XX0.cell 3).trans rfl
      have kXX04 : w41.cell? ⟨w19.heap.size, 4, none⟩ = some (.int .i64 q0) := (XX0.cell 4).trans rfl
      have kXX05 : w41.cell? ⟨w19.heap.size, 5, none⟩ = some (.int .i64 bl0) := (XX0.cell 5).trans rfl
      have kXX06 : w41.cell? ⟨w19.heap.size, 6, none⟩ = some (.int .i64 rd0) := (XX0.cell 6).trans rfl
      have kXX07 : w41.cell? ⟨w19.heap.size, 7, none⟩ = some (.int .i64 nx0) := (XX0.cell 7).trans rfl
      go_wp2_with fail
      refine (markMachine_n _ _ _ _ l0.length _ _ _ _ _ (flat l0) _ _ (flat_length _) hn0 (by omega) (by omega) O_x0).mono ?_; rintro e w43 ⟨rfl, o, b⟩
      clear zXX0 kXX00 kXX01 kXX02 kXX03 kXX04 kXX05 kXX06 kXX07
      replace X0 := X0.fx b (fun hp a ha => own_apart O_x0 X0 (by decide) (pos_flat hp) ha)
      replace Ow0 := Ow0.fx b (fun hp hx a a' ha ha' => by have h1 := loO_x0 a' ha'; have h2 := hiOw0 a ha (flat_pos hx); omega)
      replace Zw0 := Zw0.fx b (fun hp a ha => own_apart O_x0 Zw0 (by decide) (pos_flat hp) ha)
      replace XX0 := XX0.fx b (fun hp a ha => own_apart O_x0 XX0 (by decide) (pos_flat hp) ha)
      replace O_x1 := O_x1.fx b (fun hp hx a a' ha ha' => by have h1 := hiO_x0 a' ha' hp; have h2 := loO_x1 a ha; omega)
      replace Og0 := Og0.fx b (fun hp hx a a' ha ha' => by have h1 := hiO_x0 a' ha' hp; have h2 := loOg0 a ha; omega)
      replace Zg0 := Zg0.fx b (fun hp a ha => own_apart O_x0 Zg0 (by decide) (pos_flat hp) ha)
      replace B := B.trans (b.below B.size (fun a ha => by have h1 := loO_x0 a ha; omega))
      have s44 : w41.heap.size ≤ w43.heap.size := b.size
      clear b
      replace O_x0 := o
      clear O_x0
      go_wp2_with fail
      refine (markLogS_n _ _ l1.length (flatL l1) _ _ (flatL_len _) hn1 (by omega) (by omega) O_x1).mono ?_; rintro e w45 ⟨rfl, o, b⟩
      replace X0 := X0.fx b (fun hp a ha => own_apart O_x1 X0 (by decide) (pos_flatL hp) ha)
      replace Ow0 := Ow0.fx b (fun hp hx a a' ha ha' => by have h1 := loO_x1 a' ha'; have h2 := hiOw0 a ha (flat_pos hx); omega)
      replace Zw0 := Zw0.fx b (fun hp a ha => own_apart O_x1 Zw0 (by decide) (pos_flatL hp) ha)
      replace XX0 := XX0.fx b (fun hp a ha => own_apart O_x1 XX0 (by decide) (pos_flatL hp) ha)
      replace Og0 := Og0.fx b (fun hp hx a a' ha ha' => by have h1 := hiO_x1 a' ha' hp; have h2 := loOg0 a ha; omega)
      replace Zg0 := Zg0.fx b (fun hp a ha => own_apart O_x1 Zg0 (by decide) (pos_flatL hp) ha)
      replace B := B.trans (b.below B.size (fun a ha => by have h1 := loO_x1 a ha; omega))
      have s46 : w43.heap.size ≤ w45.heap.size := b.size
      clear b
      replace O_x1 := o
      clear O_x1
      have zZg0 : w28.heap.size < w45.heap.size := Zg0.lt
      have kZg00 : w45.cell? ⟨w28.heap.size, 0, none⟩ = some (.int .i64 (selI (expO R0 C0 l0 p0 q0 bl0 rd0 nx0 l1) R0)) := (Zg0.cell 0).trans rfl
      have kZg01 : w45.cell? ⟨w28.heap.size, 1, none⟩ = some (.int .i64 (selI (expO R0 C0 l0 p0 q0 bl0 rd0 nx0 l1) C0)) := (Zg0.cell 1).trans rfl
      have kZg02 : w45.cell? ⟨w28.heap.size, 2, none⟩ = some (.slice Ag0 ((repO R0 C0 l0 p0 q0 bl0 rd0 nx0 l1).l).length cg0) := (Zg0.cell 2).trans rfl
      have kZg03 : w45.cell? ⟨w28.heap.size, 3, none⟩ = some (.int .i64 (selI (expO R0 C0 l0 p0 q0 bl0 rd0 nx0 l1) p0)) := (Zg0.cell 3).trans rfl
      have kZg04 : w45.cell? ⟨w28.heap.size, 4, none⟩ = some (.int .i64 (selI (expO R0 C0 l0 p0 q0 bl0 rd0 nx0 l1) q0)) := (Zg0.cell 4).trans rfl
      have kZg05 : w45.cell? ⟨w28.heap.size, 5, none⟩ = some (.int .i64 ((repO R0 C0 l0 p0 q0 bl0 rd0 nx0 l1).bl)) := (Zg0.cell 5).trans rfl
      have kZg06 : w45.cell? ⟨w28.heap.size, 6, none⟩ = some (.int .i64 ((repO R0 C0 l0 p0 q0 bl0 rd0 nx0 l1).rd)) := (Zg0.cell 6).trans rfl
      have kZg07 : w45.cell? ⟨w28.heap.size, 7, none⟩ = some (.int .i64 ((repO R0 C0 l0 p0 q0 bl0 rd0 nx0 l1).nx)) := (Zg0.cell 7).trans rfl
      have zZw0 : w13.heap.size < w45.heap.size := Zw0.lt
      have kZw00 : w45.cell? ⟨w13.heap.size, 0, none⟩ = some (.int .i64 (selI (expO R0 C0 l0 p0 q0 bl0 rd0 nx0 l1) R0)) := (Zw0.cell 0).trans rfl
      have kZw01 : w45.cell? ⟨w13.heap.size, 1, none⟩ = some (.int .i64 (selI (expO R0 C0 l0 p0 q0 bl0 rd0 nx0 l1) C0)) := (Zw0.cell 1).trans rfl
      have kZw02 : w45.cell? ⟨w13.heap.size, 2, none⟩ = some (.slice Aw0 ((repO R0 C0 l0 p0 q0 bl0 rd0 nx0 l1).l).length cw0) := (Zw0.cell 2).trans rfl
      have kZw03 : w45.cell? ⟨w13.heap.size, 3, none⟩ = some (.int .i64 (selI (expO R0 C0 l0 p0 q0 bl0 rd0 nx0 l1) p0)) := (Zw0.cell 3).trans rfl
      have kZw04 : w45.cell? ⟨w13.heap.size, 4, none⟩ = some (.int .i64 (selI (expO R0 C0 l0 p0 q0 bl0 rd0 nx0 l1) q0)) := (Zw0.cell 4).trans rfl
      have kZw05 : w45.cell? ⟨w13.heap.size, 5, none⟩ = some (.int .i64 ((repO R0 C0 l0 p0 q0 bl0 rd0 nx0 l1).bl)) := (Zw0.cell 5).trans rfl
      have kZw06 : w45.cell? ⟨w13.heap.size, 6, none⟩ = some (.int .i64 ((repO R0 C0 l0 p0 q0 bl0 rd0 nx0 l1).rd)) := (Zw0.cell 6).trans rfl
      have kZw07 : w45.cell? ⟨w13.heap.size, 7, none⟩ = some (.int .i64 ((repO R0 C0 l0 p0 q0 bl0 rd0 nx0 l1).nx)) := (Zw0.cell 7).trans rfl
      go_wp2_with fail
      refine (eqMachine_same _ _ _ _ _ _ _ _ _ _ _ ((repO R0 C0 l0 p0 q0 bl0 rd0 nx0 l1).l) _ (repO_len _ _ _ _ _ _ _ _ _ hn0) Og0.rd Ow0.rd).mono ?_; rintro e w47 ⟨rfl, b⟩
      clear zZg0 kZg00 kZg01 kZg02 kZg03 kZg04 kZg05 kZg06 kZg07 zZw0 kZw00 kZw01 kZw02 kZw03 kZw04 kZw05 kZw06 kZw07
      replace X0 := X0.below b X0.lt
      replace Ow0 := Ow0.keep b
      replace Zw0 := Zw0.below b Zw0.lt
      replace XX0 := XX0.below b XX0.lt
      replace Og0 := Og0.keep b
      replace Zg0 := Zg0.below b Zg0.lt
      replace B := B.trans (b.mono B.size)
      have s48 : w45.heap.size ≤ w47.heap.size := b.size
      clear b
      have zZg0 : w28.heap.size < w47.heap.size := Zg0.lt
      have kZg00 : w47.cell? ⟨w28.heap.size, 0, none⟩ = some (.int .i64 (selI (expO R0 C0 l0 p0 q0 bl0 rd0 nx0 l1) R0)) := (Zg0.cell 0).trans rfl
      have kZg01 : w47.cell? ⟨w28.heap.size, 1, none⟩ = some (.int .i64 (selI (expO R0 C0 l0 p0 q0 bl0 rd0 nx0 l1) C0)) := (Zg0.cell 1).trans rfl
      have kZg02 : w47.cell? ⟨w28.heap.size, 2, none⟩ = some (.slice Ag0 ((repO R0 C0 l0 p0 q0 bl0 rd0 nx0 l1).l).length cg0) := (Zg0.cell 2).trans rfl
      have kZg03 : w47.cell? ⟨w28.heap.size, 3, none⟩ = some (.int .i64 (selI (expO R0 C0 l0 p0 q0 bl0 rd0 nx0 l1) p0)) := (Zg0.cell 3).trans rfl
      have kZg04 : w47.cell? ⟨w28.heap.size, 4, none⟩ = some (.int .i64 (selI (expO R0 C0 l0 p0 q0 bl0 rd0 nx0 l1) q0)) := (Zg0.cell 4).trans rfl
      have kZg05 : w47.cell? ⟨w28.heap.size, 5, none⟩ = some (.int .i64 ((repO R0 C0 l0 p0 q0 bl0 rd0 nx0 l1).bl)) := (Zg0.cell 5).trans rfl
      have kZg06 : w47.cell? ⟨w28.heap.size, 6, none⟩ = some (.int .i64 ((repO R0 C0 l0 p0 q0 bl0 rd0 nx0 l1).rd)) := (Zg0.cell 6).trans rfl
      have kZg07 : w47.cell? ⟨w28.heap.size, 7, none⟩ = some (.int .i64 ((repO R0 C0 l0 p0 q0 bl0 rd0 nx0 l1).nx)) := (Zg0.cell 7).trans rfl
      go_wp2_with fail
      refine (markMachine_n _ _ _ _ ((repO R0 C0 l0 p0 q0 bl0 rd0 nx0 l1).l).length _ _ _ _ _ (flat ((repO R0 C0 l0 p0 q0 bl0 rd0 nx0 l1).l)) _ _ (flat_length _) (repO_len _ _ _ _ _ _ _ _ _ hn0) (by omega) (by omega) Og0).mono ?_; rintro e w49 ⟨rfl, o, b⟩
      clear zZg0 kZg00 kZg01 kZg02 kZg03 kZg04 kZg05 kZg06 kZg07
      replace X0 := X0.fx b (fun hp a ha => own_apart Og0 X0 (by decide) (pos_flat hp) ha)
      replace Ow0 := Ow0.fx b (fun hp hx a a' ha ha' => by have h1 := loOg0 a' ha'; have h2 := hiOw0 a ha (flat_pos hx); omega)
      replace Zw0 := Zw0.fx b (fun hp a ha => own_apart Og0 Zw0 (by decide) (pos_flat hp) ha)
      replace XX0 := XX0.fx b (fun hp a ha => own_apart Og0 XX0 (by decide) (pos_flat hp) ha)
      replace Zg0 := Zg0.fx b (fun hp a ha => own_apart Og0 Zg0 (by decide) (pos_flat hp) ha)
      replace B := B.trans (b.below B.size (fun a ha => by have h1 := loOg0 a ha; omega))
      have s50 : w47.heap.size ≤ w49.heap.size := b.size
      clear b
      replace Og0 := o
      have zZg0 : w28.heap.size < w49.heap.size := Zg0.lt
      have kZg00 : w49.cell? ⟨w28.heap.size, 0, none⟩ = some (.int .i64 (selI (expO R0 C0 l0 p0 q0 bl0 rd0 nx0 l1) R0)) := (Zg0.cell 0).trans rfl
      have kZg01 : w49.cell? ⟨w28.heap.size, 1, none⟩ = some (.int .i64 (selI (expO R0 C0 l0 p0 q0 bl0 rd0 nx0 l1) C0)) := (Zg0.cell 1).trans rfl
      have kZg02 : w49.cell? ⟨w28.heap.size, 2, none⟩ = some (.slice Ag0 ((repO R0 C0 l0 p0 q0 bl0 rd0 nx0 l1).l).length cg0) := (Zg0.cell 2).trans rfl
      have kZg03 : w49.cell? ⟨w28.heap.size, 3, none⟩ = some (.int .i64 (selI (expO R0 C0 l0 p0 q0 bl0 rd0 nx0 l1) p0)) := (Zg0.cell 3).trans rfl
      have kZg04 : w49.cell? ⟨w28.heap.size, 4, none⟩ = some (.int .i64 (selI (expO R0 C0 l0 p0 q0 bl0 rd0 nx0 l1) q0)) := (Zg0.cell 4).trans rfl
      have kZg05 : w49.cell? ⟨w28.heap.size, 5, none⟩ = some (.int .i64 ((repO R0 C0 l0 p0 q0 bl0 rd0 nx0 l1).bl)) := (Zg0.cell 5).trans rfl
      have kZg06 : w49.cell? ⟨w28.heap.size, 6, none⟩ = some (.int .i64 ((repO R0 C0 l0 p0 q0 bl0 rd0 nx0 l1).rd)) := (Zg0.cell 6).trans rfl
      have kZg07 : w49.cell? ⟨w28.heap.size, 7, none⟩ = some (.int .i64 ((repO R0 C0 l0 p0 q0 bl0 rd0 nx0 l1).nx)) := (Zg0.cell 7).trans rfl
      go_wp2_with fail
      refine (heldMachine_any _ _ _ _ ((repO R0 C0 l0 p0 q0 bl0 rd0 nx0 l1).l).length _ _ _ _ _ _ _ (repO_len _ _ _ _ _ _ _ _ _ hn0) (by omega) (by omega) Og0).mono ?_; rintro e w51 ⟨rfl, b⟩
      clear zZg0 kZg00 kZg01 kZg02 kZg03 kZg04 kZg05 kZg06 kZg07
      replace X0 := X0.below b X0.lt
      replace Ow0 := Ow0.keep b
      replace Zw0 := Zw0.below b Zw0.lt
      replace XX0 := XX0.below b XX0.lt
      replace Og0 := Og0.keep b
      replace Zg0 := Zg0.below b Zg0.lt
      replace B := B.trans (b.mono B.size)
      have s52 : w49.heap.size ≤ w51.heap.size := b.size
      clear b
      have zX0 : w.heap.size < w51.heap.size := X0.lt
      have kX00 : w51.cell? ⟨w.heap.size, 0, none⟩ = some (.int .i64 R0) := (X0.cell 0).trans rfl
      have kX01 : w51.cell? ⟨w.heap.size, 1, none⟩ = some (.int .i64 C0) := (X0.cell 1).trans rfl
      have kX02 : w51.cell? ⟨w.heap.size, 2, none⟩ = some (.slice A0 l0.length cap0) := (X0.cell 2).trans rfl
      have kX03 : w51.cell? ⟨w.heap.size, 3, none⟩ = some (.int .i64 p0) := (X0.cell 3).trans rfl
      have kX04 : w51.cell? ⟨w.heap.size, 4, none⟩ = some (.int .i64 q0) := (X0.cell 4).trans rfl
      have kX05 : w51.cell? ⟨w.heap.size, 5, none⟩ = some (.int .i64 bl0) := (X0.cell 5).trans rfl
      have kX06 : w51.cell? ⟨w.heap.size, 6, none⟩ = some (.int .i64 rd0) := (X0.cell 6).trans rfl
      have kX07 : w51.cell? ⟨w.heap.size, 7, none⟩ = some (.int .i64 nx0) := (X0.cell 7).trans rfl
      go_wp2_with fail
      refine (toMachine_any _ _ _ _ l0 _ _ _ _ _ _ hn0 ((hr0.below B).mono B.size)).mono ?_; rintro e w53 ⟨gT0, rfl, t, n, b⟩
      clear zX0 kX00 kX01 kX02 kX03 kX04 kX05 kX06 kX07
      replace X0 := X0.below b X0.lt
      replace Ow0 := Ow0.keep b
      replace Zw0 := Zw0.below b Zw0.lt
      replace XX0 := XX0.below b XX0.lt
      replace Og0 := Og0.keep b
      replace Zg0 := Zg0.below b Zg0.lt
      replace B := B.trans (b.mono B.size)
      have s54 : w51.heap.size ≤ w53.heap.size := b.size
      clear b
      have T0 := t.own
      have loT0 : ∀ a : Addr, (some ⟨gT0, 0, none⟩) = some a → w51.heap.size ≤ a.block := fun a ha => by cases ha; exact n
      have hiT0 : ∀ a : Addr, (some ⟨gT0, 0, none⟩) = some a → 0 < l0.length → a.block < w53.heap.size := fun a ha _ => by cases ha; exact t.lt
      clear t n
      go_wp2_with fail
      refine (toLogS_any _ _ l1 _ hn1 ((hr1.below B).mono B.size)).mono ?_; rintro e w56 ⟨gT1, rfl, t, n, b⟩
      replace X0 := X0.below b X0.lt
      replace Ow0 := Ow0.keep b
      replace Zw0 := Zw0.below b Zw0.lt
      replace XX0 := XX0.below b XX0.lt
      replace Og0 := Og0.keep b
      replace Zg0 := Zg0.below b Zg0.lt
      replace T0 := T0.keep b
      replace B := B.trans (b.mono B.size)
      have s57 : w53.heap.size ≤ w56.heap.size := b.size
      clear b
      have T1 := t.own
      have loT1 : ∀ a : Addr, (some ⟨gT1, 0, none⟩) = some a → w53.heap.size ≤ a.block := fun a ha => by cases ha; exact n
      have hiT1 : ∀ a : Addr, (some ⟨gT1, 0, none⟩) = some a → 0 < l1.length → a.block < w56.heap.size := fun a ha _ => by cases ha; exact t.lt
      clear t n
      go_wp2_with fail
      refine (impl_ReplayLog _ _ _ _ l0 _ _ _ _ _ _ _ l1 _ hn0 (T0.rd) hn1 (T1.rd) ).mono ?_; rintro e w59 ⟨Ah0, ch0, rfl, Oh0, loOh0, b⟩
      replace X0 := X0.below b X0.lt
      replace Ow0 := Ow0.keep b
      replace Zw0 := Zw0.below b Zw0.lt
      replace XX0 := XX0.below b XX0.lt
      replace Og0 := Og0.keep b
      replace Zg0 := Zg0.below b Zg0.lt
      replace T0 := T0.keep b
      replace T1 := T1.keep b
      replace B := B.trans (b.mono B.size)
      have s60 : w56.heap.size ≤ w59.heap.size := b.size
      clear b
      have hiOh0 : ∀ a : Addr, Ah0 = some a → 0 < ((repO R0 C0 l0 p0 q0 bl0 rd0 nx0 l1).l).length → a.block < w59.heap.size := fun a ha hx => Oh0.lt (pos_flat hx) ha
      clear T0
      clear T1
      have zZw0 : w13.heap.size < w59.heap.size := Zw0.lt
      have kZw00 : w59.cell? ⟨w13.heap.size, 0, none⟩ = some (.int .i64 (selI (expO R0 C0 l0 p0 q0 bl0 rd0 nx0 l1) R0)) := (Zw0.cell 0).trans rfl
      have kZw01 : w59.cell? ⟨w13.heap.size, 1, none⟩ = some (.int .i64 (selI (expO R0 C0 l0 p0 q0 bl0 rd0 nx0 l1) C0)) := (Zw0.cell 1).trans rfl
      have kZw02 : w59.cell? ⟨w13.heap.size, 2, none⟩ = some (.slice Aw0 ((repO R0 C0 l0 p0 q0 bl0 rd0 nx0 l1).l).length cw0) := (Zw0.cell 2).trans rfl
      have kZw03 : w59.cell? ⟨w13.heap.size, 3, none⟩ = some (.int .i64 (selI (expO R0 C0 l0 p0 q0 bl0 rd0 nx0 l1) p0)) := (Zw0.cell 3).trans rfl
      have kZw04 : w59.cell? ⟨w13.heap.size, 4, none⟩ = some (.int .i64 (selI (expO R0 C0 l0 p0 q0 bl0 rd0 nx0 l1) q0)) := (Zw0.cell 4).trans rfl
      have kZw05 : w59.cell? ⟨w13.heap.size, 5, none⟩ = some (.int .i64 ((repO R0 C0 l0 p0 q0 bl0 rd0 nx0 l1).bl)) := (Zw0.cell 5).trans rfl
      have kZw06 : w59.cell? ⟨w13.heap.size, 6, none⟩ = some (.int .i64 ((repO R0 C0 l0 p0 q0 bl0 rd0 nx0 l1).rd)) := (Zw0.cell 6).trans rfl
      have kZw07 : w59.cell? ⟨w13.heap.size, 7, none⟩ = some (.int .i64 ((repO R0 C0 l0 p0 q0 bl0 rd0 nx0 l1).nx)) := (Zw0.cell 7).trans rfl
      go_wp2_with fail
      clear zZw0 kZw00 kZw01 kZw02 kZw03 kZw04 kZw05 kZw06 kZw07
      have b : Below w59.heap.size w59 (w59.alloc (.cells #[.int .i64 (selI (expO R0 C0 l0 p0 q0 bl0 rd0 nx0 l1) R0), .int .i64 (selI (expO R0 C0 l0 p0 q0 bl0 rd0 nx0 l1) C0), .slice Ah0 ((repO R0 C0 l0 p0 q0 bl0 rd0 nx0 l1).l).length ch0, .int .i64 (selI (expO R0 C0 l0 p0 q0 bl0 rd0 nx0 l1) p0), .int .i64 (selI (expO R0 C0 l0 p0 q0 bl0 rd0 nx0 l1) q0), .int .i64 ((repO R0 C0 l0 p0 q0 bl0 rd0 nx0 l1).bl), .int .i64 ((repO R0 C0 l0 p0 q0 bl0 rd0 nx0 l1).rd), .int .i64 ((repO R0 C0 l0 p0 q0 bl0 rd0 nx0 l1).nx)] 36)) := (Below.refl _ _).alloc (Nat.le_refl _) _
      have Zh0 : Whole (w59.alloc (.cells #[.int .i64 (selI (expO R0 C0 l0 p0 q0 bl0 rd0 nx0 l1) R0), .int .i64 (selI (expO R0 C0 l0 p0 q0 bl0 rd0 nx0 l1) C0), .slice Ah0 ((repO R0 C0 l0 p0 q0 bl0 rd0 nx0 l1).l).length ch0, .int .i64 (selI (expO R0 C0 l0 p0 q0 bl0 rd0 nx0 l1) p0), .int .i64 (selI (expO R0 C0 l0 p0 q0 bl0 rd0 nx0 l1) q0), .int .i64 ((repO R0 C0 l0 p0 q0 bl0 rd0 nx0 l1).bl), .int .i64 ((repO R0 C0 l0 p0 q0 bl0 rd0 nx0 l1).rd), .int .i64 ((repO R0 C0 l0 p0 q0 bl0 rd0 nx0 l1).nx)] 36)) w59.heap.size 36 [.int .i64 (selI (expO R0 C0 l0 p0 q0 bl0 rd0 nx0 l1) R0), .int .i64 (selI (expO R0 C0 l0 p0 q0 bl0 rd0 nx0 l1) C0), .slice Ah0 ((repO R0 C0 l0 p0 q0 bl0 rd0 nx0 l1).l).length ch0, .int .i64 (selI (expO R0 C0 l0 p0 q0 bl0 rd0 nx0 l1) p0), .int .i64 (selI (expO R0 C0 l0 p0 q0 bl0 rd0 nx0 l1) q0), .int .i64 ((repO R0 C0 l0 p0 q0 bl0 rd0 nx0 l1).bl), .int .i64 ((repO R0 C0 l0 p0 q0 bl0 rd0 nx0 l1).rd), .int .i64 ((repO R0 C0 l0 p0 q0 bl0 rd0 nx0 l1).nx)] := heap_alloc_new w59 _
      replace X0 := X0.below b X0.lt
      replace Ow0 := Ow0.keep b
      replace Zw0 := Zw0.below b Zw0.lt
      replace XX0 := XX0.below b XX0.lt
      replace Og0 := Og0.keep b
      replace Zg0 := Zg0.below b Zg0.lt
      replace Oh0 := Oh0.keep b
      replace B := B.trans (b.mono B.size)
      have s63 : w59.heap.size ≤ (w59.alloc (.cells #[.int .i64 (selI (expO R0 C0 l0 p0 q0 bl0 rd0 nx0 l1) R0), .int .i64 (selI (expO R0 C0 l0 p0 q0 bl0 rd0 nx0 l1) C0), .slice Ah0 ((repO R0 C0 l0 p0 q0 bl0 rd0 nx0 l1).l).length ch0, .int .i64 (selI (expO R0 C0 l0 p0 q0 bl0 rd0 nx0 l1) p0), .int .i64 (selI (expO R0 C0 l0 p0 q0 bl0 rd0 nx0 l1) q0), .int .i64 ((repO R0 C0 l0 p0 q0 bl0 rd0 nx0 l1).bl), .int .i64 ((repO R0 C0 l0 p0 q0 bl0 rd0 nx0 l1).rd), .int .i64 ((repO R0 C0 l0 p0 q0 bl0 rd0 nx0 l1).nx)] 36)).heap.size := b.size
      clear b
      have hiZh0 := Zh0.lt
      generalize w59.alloc (.cells #[.int .i64 (selI (expO R0 C0 l0 p0 q0 bl0 rd0 nx0 l1) R0), .int .i64 (selI (expO R0 C0 l0 p0 q0 bl0 rd0 nx0 l1) C0), .slice Ah0 ((repO R0 C0 l0 p0 q0 bl0 rd0 nx0 l1).l).length ch0, .int .i64 (selI (expO R0 C0 l0 p0 q0 bl0 rd0 nx0 l1) p0), .int .i64 (selI (expO R0 C0 l0 p0 q0 bl0 rd0 nx0 l1) q0), .int .i64 ((repO R0 C0 l0 p0 q0 bl0 rd0 nx0 l1).bl), .int .i64 ((repO R0 C0 l0 p0 q0 bl0 rd0 nx0 l1).rd), .int .i64 ((repO R0 C0 l0 p0 q0 bl0 rd0 nx0 l1).nx)] 36) = v62 at *
      refine (eqMachine_same _ _ _ _ _ _ _ _ _ _ _ ((repO R0 C0 l0 p0 q0 bl0 rd0 nx0 l1).l) _ (repO_len _ _ _ _ _ _ _ _ _ hn0) Oh0.rd Ow0.rd).mono ?_; rintro e w65 ⟨rfl, b⟩
      replace X0 := X0.below b X0.lt
      replace Ow0 := Ow0.keep b
      replace Zw0 := Zw0.below b Zw0.lt
      replace XX0 := XX0.below b XX0.lt
      replace Og0 := Og0.keep b
      replace Zg0 := Zg0.below b Zg0.lt
      replace Oh0 := Oh0.keep b
      replace Zh0 := Zh0.below b Zh0.lt
      replace B := B.trans (b.mono B.size)
      have s66 : v62.heap.size ≤ w65.heap.size := b.size
      clear b
      have zZg0 : w28.heap.size < w65.heap.size := Zg0.lt
      have kZg00 : w65.cell? ⟨w28.heap.size, 0, none⟩ = some (.int .i64 (selI (expO R0 C0 l0 p0 q0 bl0 rd0 nx0 l1) R0)) := (Zg0.cell 0).trans rfl
      have kZg01 : w65.cell? ⟨w28.heap.size, 1, none⟩ = some (.int .i64 (selI (expO R0 C0 l0 p0 q0 bl0 rd0 nx0 l1) C0)) := (Zg0.cell 1).trans rfl
      have kZg02 : w65.cell? ⟨w28.heap.size, 2, none⟩ = some (.slice Ag0 ((repO R0 C0 l0 p0 q0 bl0 rd0 nx0 l1).l).length cg0) := (Zg0.cell 2).trans rfl
      have kZg03 : w65.cell? ⟨w28.heap.size, 3, none⟩ = some (.int .i64 (selI (expO R0 C0 l0 p0 q0 bl0 rd0 nx0 l1) p0)) := (Zg0.cell 3).trans rfl
      have kZg04 : w65.cell? ⟨w28.heap.size, 4, none⟩ = some (.int .i64 (selI (expO R0 C0 l0 p0 q0 bl0 rd0 nx0 l1) q0)) := (Zg0.cell 4).trans rfl
      have kZg05 : w65.cell? ⟨w28.heap.size, 5, none⟩ = some (.int .i64 ((repO R0 C0 l0 p0 q0 bl0 rd0 nx0 l1).bl)) := (Zg0.cell 5).trans rfl
      have kZg06 : w65.cell? ⟨w28.heap.size, 6, none⟩ = some (.int .i64 ((repO R0 C0 l0 p0 q0 bl0 rd0 nx0 l1).rd)) := (Zg0.cell 6).trans rfl
      have kZg07 : w65.cell? ⟨w28.heap.size, 7, none⟩ = some (.int .i64 ((repO R0 C0 l0 p0 q0 bl0 rd0 nx0 l1).nx)) := (Zg0.cell 7).trans rfl
      go_wp2_with fail
      refine (heldMachine_any _ _ _ _ ((repO R0 C0 l0 p0 q0 bl0 rd0 nx0 l1).l).length _ _ _ _ _ _ _ (repO_len _ _ _ _ _ _ _ _ _ hn0) (by omega) (by omega) Og0).mono ?_; rintro e w67 ⟨rfl, b⟩
      clear zZg0 kZg00 kZg01 kZg02 kZg03 kZg04 kZg05 kZg06 kZg07
      replace X0 := X0.below b X0.lt
      replace Ow0 := Ow0.keep b
      replace Zw0 := Zw0.below b Zw0.lt
      replace XX0 := XX0.below b XX0.lt
      replace Og0 := Og0.keep b
      replace Zg0 := Zg0.below b Zg0.lt
      replace Oh0 := Oh0.keep b
      replace Zh0 := Zh0.below b Zh0.lt
      replace B := B.trans (b.mono B.size)
      have s68 : w65.heap.size ≤ w67.heap.size := b.size
      clear b
      go_wp2
      go_returns
      exact ⟨rfl, B⟩
    · go_enter Tryz.func4, Tryz.ntmps4
      have B : Below w.heap.size w w := Below.refl _ _
      go_wp2_with fail
      have b : Below w.heap.size w (w.alloc (.cells #[.int .i64 R0, .int .i64 C0, .slice A0 l0.length cap0, .int .i64 p0, .int .i64 q0, .int .i64 bl0, .int .i64 rd0, .int .i64 nx0] 26)) := (Below.refl _ _).alloc (Nat.le_refl _) _
      have X0 : Whole (w.alloc (.cells #[.int .i64 R0, .int .i64 C0, .slice A0 l0.length cap0, .int .i64 p0, .int .i64 q0, .int .i64 bl0, .int .i64 rd0, .int .i64 nx0] 26)) w.heap.size 26 [.int .i64 R0, .int .i64 C0, .slice A0 l0.length cap0, .int .i64 p0, .int .i64 q0, .int .i64 bl0, .int .i64 rd0, .int .i64 nx0] := heap_alloc_new w _
      have HZ := Lib.hid (show (w.alloc (.cells #[.int .i64 R0, .int .i64 C0, .slice A0 l0.length cap0, .int .i64 p0, .int .i64 q0, .int .i64 bl0, .int .i64 rd0, .int .i64 nx0] 26)).heap.size = w.heap.size + 1 by rw [World.size_alloc])
      replace B := B.trans (b.mono B.size)
      have s2 : w.heap.size ≤ (w.alloc (.cells #[.int .i64 R0, .int .i64 C0, .slice A0 l0.length cap0, .int .i64 p0, .int .i64 q0, .int .i64 bl0, .int .i64 rd0, .int .i64 nx0] 26)).heap.size := b.size
      clear b
      have hiX0 := X0.lt
      generalize w.alloc (.cells #[.int .i64 R0, .int .i64 C0, .slice A0 l0.length cap0, .int .i64 p0, .int .i64 q0, .int .i64 bl0, .int .i64 rd0, .int .i64 nx0] 26) = v1 at *
      have zX0 : w.heap.size < v1.heap.size := X0.lt
      have kX00 : v1.cell? ⟨w.heap.size, 0, none⟩ = some (.int .i64 R0) := (X0.cell 0).trans rfl
      have kX01 : v1.cell? ⟨w.heap.size, 1, none⟩ = some (.int .i64 C0) := (X0.cell 1).trans rfl
      have kX02 : v1.cell? ⟨w.heap.size, 2, none⟩ = some (.slice A0 l0.length cap0) := (X0.cell 2).trans rfl
      have kX03 : v1.cell? ⟨w.heap.size, 3, none⟩ = some (.int .i64 p0) := (X0.cell 3).trans rfl
      have kX04 : v1.cell? ⟨w.heap.size, 4, none⟩ = some (.int .i64 q0) := (X0.cell 4).trans rfl
      have kX05 : v1.cell? ⟨w.heap.size, 5, none⟩ = some (.int .i64 bl0) := (X0.cell 5).trans rfl
      have kX06 : v1.cell? ⟨w.heap.size, 6, none⟩ = some (.int .i64 rd0) := (X0.cell 6).trans rfl
      have kX07 : v1.cell? ⟨w.heap.size, 7, none⟩ = some (.int .i64 nx0) := (X0.cell 7).trans rfl
      go_wp2_with fail
      refine (szMachine_any _ _ _ _ _ _ _ _ _ _ _ _ hm0 (by omega) (by omega)).mono ?_; rintro e w4 ⟨rfl, b⟩
      clear zX0 kX00 kX01 kX02 kX03 kX04 kX05 kX06 kX07
      rw [if_neg (by omega)]
      replace X0 := X0.below b X0.lt
      replace B := B.trans (b.mono B.size)
      have s5 : v1.heap.size ≤ w4.heap.size := b.size
      clear b
      go_wp2_with fail
      refine (szLogS_any _ _ _ _ _ hm1 (by omega) (by omega)).mono ?_; rintro e w6 ⟨rfl, rfl⟩
      rw [if_pos (by omega)]
      go_wp2
      go_returns
      exact ⟨rfl, B⟩
  · go_enter Tryz.func4, Tryz.ntmps4
    have B : Below w.heap.size w w := Below.refl _ _
    go_wp2_with fail
    have b : Below w.heap.size w (w.alloc (.cells #[.int .i64 R0, .int .i64 C0, .slice A0 l0.length cap0, .int .i64 p0, .int .i64 q0, .int .i64 bl0, .int .i64 rd0, .int .i64 nx0] 26)) := (Below.refl _ _).alloc (Nat.le_refl _) _
    have X0 : Whole (w.alloc (.cells #[.int .i64 R0, .int .i64 C0, .slice A0 l0.length cap0, .int .i64 p0, .int .i64 q0, .int .i64 bl0, .int .i64 rd0, .int .i64 nx0] 26)) w.heap.size 26 [.int .i64 R0, .int .i64 C0, .slice A0 l0.length cap0, .int .i64 p0, .int .i64 q0, .int .i64 bl0, .int .i64 rd0, .int .i64 nx0] := heap_alloc_new w _
    have HZ := Lib.hid (show (w.alloc (.cells #[.int .i64 R0, .int .i64 C0, .slice A0 l0.length cap0, .int .i64 p0, .int .i64 q0, .int .i64 bl0, .int .i64 rd0, .int .i64 nx0] 26)).heap.size = w.heap.size + 1 by rw [World.size_alloc])
    replace B := B.trans (b.mono B.size)
    have s2 : w.heap.size ≤ (w.alloc (.cells #[.int .i64 R0, .int .i64 C0, .slice A0 l0.length cap0, .int .i64 p0, .int .i64 q0, .int .i64 bl0, .int .i64 rd0, .int .i64 nx0] 26)).heap.size := b.size
    clear b
    have hiX0 := X0.lt
    generalize w.alloc (.cells #[.int .i64 R0, .int .i64 C0, .slice A0 l0.length cap0, .int .i64 p0, .int .i64 q0, .int .i64 bl0, .int .i64 rd0, .int .i64 nx0] 26) = v1 at *
    have zX0 : w.heap.size < v1.heap.size := X0.lt
    have kX00 : v1.cell? ⟨w.heap.size, 0, none⟩ = some (.int .i64 R0) := (X0.cell 0).trans rfl
    have kX01 : v1.cell? ⟨w.heap.size, 1, none⟩ = some (.int .i64 C0) := (X0.cell 1).trans rfl
    have kX02 : v1.cell? ⟨w.heap.size, 2, none⟩ = some (.slice A0 l0.length cap0) := (X0.cell 2).trans rfl
    have kX03 : v1.cell? ⟨w.heap.size, 3, none⟩ = some (.int .i64 p0) := (X0.cell 3).trans rfl
    have kX04 : v1.cell? ⟨w.heap.size, 4, none⟩ = some (.int .i64 q0) := (X0.cell 4).trans rfl
    have kX05 : v1.cell? ⟨w.heap.size, 5, none⟩ = some (.int .i64 bl0) := (X0.cell 5).trans rfl
    have kX06 : v1.cell? ⟨w.heap.size, 6, none⟩ = some (.int .i64 rd0) := (X0.cell 6).trans rfl
    have kX07 : v1.cell? ⟨w.heap.size, 7, none⟩ = some (.int .i64 nx0) := (X0.cell 7).trans rfl
    go_wp2_with fail
    refine (szMachine_any _ _ _ _ _ _ _ _ _ _ _ _ hm0 (by omega) (by omega)).mono ?_; rintro e w4 ⟨rfl, b⟩
    clear zX0 kX00 kX01 kX02 kX03 kX04 kX05 kX06 kX07
    rw [if_pos (by omega)]
    replace X0 := X0.below b X0.lt
    replace B := B.trans (b.mono B.size)
    have s5 : v1.heap.size ≤ w4.heap.size := b.size
    clear b
    go_wp2
    go_returns
    exact ⟨rfl, B⟩
theorem ReplayLog_walk : Walk Tryz.prog 4 Tryz.f4 := by
  intro H enc W base args ds ps hA hval
  rw [Tryz.params4] at hA hval
  obtain ⟨v0, vs0, d0, ds0, p0, q0, hv0, hd0, hp0, h0, r0⟩ := trodAll_cons hA
  obtain ⟨v1, vs1, d1, ds1, p1, q1, hv1, hd1, hp1, h1, r1⟩ := trodAll_cons r0
  obtain ⟨e1, e2, e3⟩ := trodAll_nil r1
  have ha : args = #[v0, v1] := by
    apply Array.toList_inj.1
    rw [hv0, hv1, e1]
  subst ha
  obtain ⟨R0, C0, A0, cap0, l0, m0a, m0b, m0c, m0d, m0e, rfl, hm0, hr0⟩ := open_machine (hval 0 26 v0 rfl rfl) h0
  obtain ⟨A1, cap1, l1, e1_, hm1, hr1⟩ := open_logs (hval 1 27 v1 rfl rfl) h1
  subst e1_
  exact ReplayLog_walk0 R0 C0 A0 cap0 l0 m0a m0b m0c m0d m0e A1 cap1 l1 W hm0 hr0 hm1 hr1
set_option maxRecDepth 100000 in
theorem ReplayLog_holds : Rows.FnExactReplayLogSaid :=
  OpenClaim.holds_of_wide 4 Tryz.f4 rfl rfl rfl rfl rfl rfl rfl ⟨rfl, rfl, rfl, rfl, rfl⟩ rfl rfl rfl rfl rfl (by kernel_rfl) Tryz.func4 (by kernel_rfl)
    (of_decide_eq_true (by kernel_rfl)) (by unfold Func.isWrapper; first | (rw [if_pos (by decide +kernel)]; kernel_rfl) | (rw [if_neg (by decide +kernel)]; exact ⟨rfl, rfl⟩))
    (fun os started H enc _ => lifted (C := Tryz.checked) (s := Rows.fnExactReplayLogSpec) started own (by kernel_rfl) Tryz.func4 ⟨#[], #[.agg #[.int .i64 0, .int .i64 0, .slice none 0 0, .int .i64 0, .int .i64 0, .int .i64 0, .int .i64 0, .int .i64 0], .slice none 0 0], []⟩ 8 (by kernel_rfl) (by kernel_rfl) (by kernel_rfl) (by kernel_rfl) (by kernel_rfl)
      laidOut (by kernel_rfl) rfl rfl Tryz.underlying4 (fun ds h => by
        match ds, h with
        | [d0, d1], _ => exact ⟨rfl, rfl, rfl⟩) ReplayLog_walk)
end Go.Proofs.YtlambflmabecfaaGreat
