/- For every machine and every number, RunMachine of the program answers as the model does, keeps its argument, and owns what it hands back. No condition. -/
import Derived.Test.YtpfjbecpfdgnpaaM1
import Derived.Deep.RegionHeld3
import Derived.Deep.DeepCutAuto
import Derived.Test.YtpfjbecpfdgnpaaM2
import Derived.Test.YtpfjbecpfdgnpaaM8
namespace Go.Proofs.Ytpfjbecpfdgnpaa
open Go.ChangeShapes Go.WideShapes Go.ChangeAt Go.RowKit Go.Joins Go.Deep
set_option linter.unusedSimpArgs false
set_option linter.unusedVariables false
set_option maxRecDepth 100000
set_option maxHeartbeats 4000000 in
theorem RunMachine_walk0 (R0 C0 : Int) (A0 : Option Addr) (cap0 : Nat) (l0 : List (Int × Int)) (p0 q0 bl0 rd0 nx0 : Int) (i1 : Int) (w : World) (hm0 : l0.length ≤ maxLen) (hr0 : Rd w w.heap.size A0 (flat l0)) (wf1 : (Lit.int .i64 i1).wf = true) :
    Calls Try.prog 6 #[.agg #[.int .i64 R0, .int .i64 C0, .slice A0 l0.length cap0, .int .i64 p0, .int .i64 q0, .int .i64 bl0, .int .i64 rd0, .int .i64 nx0], .int .i64 i1] w fun e w' => e = .returned (.bool true) ∧ Below w.heap.size w w' := by
  by_cases ht0 : l0.length ≤ 1048576
  · have hn0 : l0.length ≤ 1048576 := by omega
    go_enter Try.func6, Try.ntmps6
    have B : Below w.heap.size w w := Below.refl _ _
    go_wp2_with fail
    have b : Below w.heap.size w (w.alloc (.cells #[.int .i64 R0, .int .i64 C0, .slice A0 l0.length cap0, .int .i64 p0, .int .i64 q0, .int .i64 bl0, .int .i64 rd0, .int .i64 nx0] 52)) := (Below.refl _ _).alloc (Nat.le_refl _) _
    have X0 : Whole (w.alloc (.cells #[.int .i64 R0, .int .i64 C0, .slice A0 l0.length cap0, .int .i64 p0, .int .i64 q0, .int .i64 bl0, .int .i64 rd0, .int .i64 nx0] 52)) w.heap.size 52 [.int .i64 R0, .int .i64 C0, .slice A0 l0.length cap0, .int .i64 p0, .int .i64 q0, .int .i64 bl0, .int .i64 rd0, .int .i64 nx0] := heap_alloc_new w _
    have HZ := Lib.hid (show (w.alloc (.cells #[.int .i64 R0, .int .i64 C0, .slice A0 l0.length cap0, .int .i64 p0, .int .i64 q0, .int .i64 bl0, .int .i64 rd0, .int .i64 nx0] 52)).heap.size = w.heap.size + 1 by rw [World.size_alloc])
    replace B := B.trans (b.mono B.size)
    have s2 : w.heap.size ≤ (w.alloc (.cells #[.int .i64 R0, .int .i64 C0, .slice A0 l0.length cap0, .int .i64 p0, .int .i64 q0, .int .i64 bl0, .int .i64 rd0, .int .i64 nx0] 52)).heap.size := b.size
    clear b
    have hiX0 := X0.lt
    generalize w.alloc (.cells #[.int .i64 R0, .int .i64 C0, .slice A0 l0.length cap0, .int .i64 p0, .int .i64 q0, .int .i64 bl0, .int .i64 rd0, .int .i64 nx0] 52) = v1 at *
    have zX0 : w.heap.size < v1.heap.size := X0.lt
    have kX00 : v1.cell? ⟨w.heap.size, 0, none⟩ = some (.int .i64 R0) := (X0.cell 0).trans rfl
    have kX01 : v1.cell? ⟨w.heap.size, 1, none⟩ = some (.int .i64 C0) := (X0.cell 1).trans rfl
    have kX02 : v1.cell? ⟨w.heap.size, 2, none⟩ = some (.slice A0 l0.length cap0) := (X0.cell 2).trans rfl
    have kX03 : v1.cell? ⟨w.heap.size, 3, none⟩ = some (.int .i64 p0) := (X0.cell 3).trans rfl
    have kX04 : v1.cell? ⟨w.heap.size, 4, none⟩ = some (.int .i64 q0) := (X0.cell 4).trans rfl
    have kX05 : v1.cell? ⟨w.heap.size, 5, none⟩ = some (.int .i64 bl0) := (X0.cell 5).trans rfl
    have kX06 : v1.cell? ⟨w.heap.size, 6, none⟩ = some (.int .i64 rd0) := (X0.cell 6).trans rfl
    have kX07 : v1.cell? ⟨w.heap.size, 7, none⟩ = some (.int .i64 nx0) := (X0.cell 7).trans rfl
    go_wp2_with fail
    refine (szMachine_any _ _ _ _ _ _ _ _ _ _ _ _ hm0 (by omega) (by omega)).mono ?_; rintro e w4 ⟨rfl, b⟩
    clear zX0 kX00 kX01 kX02 kX03 kX04 kX05 kX06 kX07
    rw [if_neg (by omega)]
    replace X0 := X0.below b X0.lt
    replace B := B.trans (b.mono B.size)
    have s5 : v1.heap.size ≤ w4.heap.size := b.size
    clear b
    have zX0 : w.heap.size < w4.heap.size := X0.lt
    have kX00 : w4.cell? ⟨w.heap.size, 0, none⟩ = some (.int .i64 R0) := (X0.cell 0).trans rfl
    have kX01 : w4.cell? ⟨w.heap.size, 1, none⟩ = some (.int .i64 C0) := (X0.cell 1).trans rfl
    have kX02 : w4.cell? ⟨w.heap.size, 2, none⟩ = some (.slice A0 l0.length cap0) := (X0.cell 2).trans rfl
    have kX03 : w4.cell? ⟨w.heap.size, 3, none⟩ = some (.int .i64 p0) := (X0.cell 3).trans rfl
    have kX04 : w4.cell? ⟨w.heap.size, 4, none⟩ = some (.int .i64 q0) := (X0.cell 4).trans rfl
    have kX05 : w4.cell? ⟨w.heap.size, 5, none⟩ = some (.int .i64 bl0) := (X0.cell 5).trans rfl
    have kX06 : w4.cell? ⟨w.heap.size, 6, none⟩ = some (.int .i64 rd0) := (X0.cell 6).trans rfl
    have kX07 : w4.cell? ⟨w.heap.size, 7, none⟩ = some (.int .i64 nx0) := (X0.cell 7).trans rfl
    go_wp2_with fail
    refine (toMachine_any _ _ _ _ l0 _ _ _ _ _ _ hn0 ((hr0.below B).mono B.size)).mono ?_; rintro e w6 ⟨gT0, rfl, t, n, b⟩
    clear zX0 kX00 kX01 kX02 kX03 kX04 kX05 kX06 kX07
    replace X0 := X0.below b X0.lt
    replace B := B.trans (b.mono B.size)
    have s7 : w4.heap.size ≤ w6.heap.size := b.size
    clear b
    have T0 := t.own
    have loT0 : ∀ a : Addr, (some ⟨gT0, 0, none⟩) = some a → w4.heap.size ≤ a.block := fun a ha => by cases ha; exact n
    have hiT0 : ∀ a : Addr, (some ⟨gT0, 0, none⟩) = some a → 0 < l0.length → a.block < w6.heap.size := fun a ha _ => by cases ha; exact t.lt
    clear t n
    go_wp2_with fail
    refine (spec_RunMachine _ _ _ _ l0 _ _ _ _ _ _ _ hn0 (T0.rd) ).mono ?_; rintro e w9 ⟨Aw0, cw0, rfl, Ow0, loOw0, b⟩
    replace X0 := X0.below b X0.lt
    replace T0 := T0.keep b
    replace B := B.trans (b.mono B.size)
    have s10 : w6.heap.size ≤ w9.heap.size := b.size
    clear b
    have hiOw0 : ∀ a : Addr, Aw0 = some a → 0 < ((runO R0 C0 l0 p0 q0 bl0 rd0 nx0 i1).l).length → a.block < w9.heap.size := fun a ha hx => Ow0.lt (pos_flat hx) ha
    clear T0
    have zX0 : w.heap.size < w9.heap.size := X0.lt
    have kX00 : w9.cell? ⟨w.heap.size, 0, none⟩ = some (.int .i64 R0) := (X0.cell 0).trans rfl
    have kX01 : w9.cell? ⟨w.heap.size, 1, none⟩ = some (.int .i64 C0) := (X0.cell 1).trans rfl
    have kX02 : w9.cell? ⟨w.heap.size, 2, none⟩ = some (.slice A0 l0.length cap0) := (X0.cell 2).trans rfl
    have kX03 : w9.cell? ⟨w.heap.size, 3, none⟩ = some (.int .i64 p0) := (X0.cell 3).trans rfl
    have kX04 : w9.cell? ⟨w.heap.size, 4, none⟩ = some (.int .i64 q0) := (X0.cell 4).trans rfl
    have kX05 : w9.cell? ⟨w.heap.size, 5, none⟩ = some (.int .i64 bl0) := (X0.cell 5).trans rfl
    have kX06 : w9.cell? ⟨w.heap.size, 6, none⟩ = some (.int .i64 rd0) := (X0.cell 6).trans rfl
    have kX07 : w9.cell? ⟨w.heap.size, 7, none⟩ = some (.int .i64 nx0) := (X0.cell 7).trans rfl
    go_wp2_with fail
    clear zX0 kX00 kX01 kX02 kX03 kX04 kX05 kX06 kX07
    have b : Below w9.heap.size w9 (w9.alloc (.cells #[.int .i64 (selI (okR R0 C0 l0 p0 q0 bl0 rd0 nx0 i1) R0), .int .i64 (selI (okR R0 C0 l0 p0 q0 bl0 rd0 nx0 i1) C0), .slice Aw0 ((runO R0 C0 l0 p0 q0 bl0 rd0 nx0 i1).l).length cw0, .int .i64 (selI (okR R0 C0 l0 p0 q0 bl0 rd0 nx0 i1) p0), .int .i64 (selI (okR R0 C0 l0 p0 q0 bl0 rd0 nx0 i1) q0), .int .i64 ((runO R0 C0 l0 p0 q0 bl0 rd0 nx0 i1).bl), .int .i64 ((runO R0 C0 l0 p0 q0 bl0 rd0 nx0 i1).rd), .int .i64 ((runO R0 C0 l0 p0 q0 bl0 rd0 nx0 i1).nx)] 56)) := (Below.refl _ _).alloc (Nat.le_refl _) _
    have Zw0 : Whole (w9.alloc (.cells #[.int .i64 (selI (okR R0 C0 l0 p0 q0 bl0 rd0 nx0 i1) R0), .int .i64 (selI (okR R0 C0 l0 p0 q0 bl0 rd0 nx0 i1) C0), .slice Aw0 ((runO R0 C0 l0 p0 q0 bl0 rd0 nx0 i1).l).length cw0, .int .i64 (selI (okR R0 C0 l0 p0 q0 bl0 rd0 nx0 i1) p0), .int .i64 (selI (okR R0 C0 l0 p0 q0 bl0 rd0 nx0 i1) q0), .int .i64 ((runO R0 C0 l0 p0 q0 bl0 rd0 nx0 i1).bl), .int .i64 ((runO R0 C0 l0 p0 q0 bl0 rd0 nx0 i1).rd), .int .i64 ((runO R0 C0 l0 p0 q0 bl0 rd0 nx0 i1).nx)] 56)) w9.heap.size 56 [.int .i64 (selI (okR R0 C0 l0 p0 q0 bl0 rd0 nx0 i1) R0), .int .i64 (selI (okR R0 C0 l0 p0 q0 bl0 rd0 nx0 i1) C0), .slice Aw0 ((runO R0 C0 l0 p0 q0 bl0 rd0 nx0 i1).l).length cw0, .int .i64 (selI (okR R0 C0 l0 p0 q0 bl0 rd0 nx0 i1) p0), .int .i64 (selI (okR R0 C0 l0 p0 q0 bl0 rd0 nx0 i1) q0), .int .i64 ((runO R0 C0 l0 p0 q0 bl0 rd0 nx0 i1).bl), .int .i64 ((runO R0 C0 l0 p0 q0 bl0 rd0 nx0 i1).rd), .int .i64 ((runO R0 C0 l0 p0 q0 bl0 rd0 nx0 i1).nx)] := heap_alloc_new w9 _
    replace X0 := X0.below b X0.lt
    replace Ow0 := Ow0.keep b
    replace B := B.trans (b.mono B.size)
    have s13 : w9.heap.size ≤ (w9.alloc (.cells #[.int .i64 (selI (okR R0 C0 l0 p0 q0 bl0 rd0 nx0 i1) R0), .int .i64 (selI (okR R0 C0 l0 p0 q0 bl0 rd0 nx0 i1) C0), .slice Aw0 ((runO R0 C0 l0 p0 q0 bl0 rd0 nx0 i1).l).length cw0, .int .i64 (selI (okR R0 C0 l0 p0 q0 bl0 rd0 nx0 i1) p0), .int .i64 (selI (okR R0 C0 l0 p0 q0 bl0 rd0 nx0 i1) q0), .int .i64 ((runO R0 C0 l0 p0 q0 bl0 rd0 nx0 i1).bl), .int .i64 ((runO R0 C0 l0 p0 q0 bl0 rd0 nx0 i1).rd), .int .i64 ((runO R0 C0 l0 p0 q0 bl0 rd0 nx0 i1).nx)] 56)).heap.size := b.size
    clear b
    have hiZw0 := Zw0.lt
    generalize w9.alloc (.cells #[.int .i64 (selI (okR R0 C0 l0 p0 q0 bl0 rd0 nx0 i1) R0), .int .i64 (selI (okR R0 C0 l0 p0 q0 bl0 rd0 nx0 i1) C0), .slice Aw0 ((runO R0 C0 l0 p0 q0 bl0 rd0 nx0 i1).l).length cw0, .int .i64 (selI (okR R0 C0 l0 p0 q0 bl0 rd0 nx0 i1) p0), .int .i64 (selI (okR R0 C0 l0 p0 q0 bl0 rd0 nx0 i1) q0), .int .i64 ((runO R0 C0 l0 p0 q0 bl0 rd0 nx0 i1).bl), .int .i64 ((runO R0 C0 l0 p0 q0 bl0 rd0 nx0 i1).rd), .int .i64 ((runO R0 C0 l0 p0 q0 bl0 rd0 nx0 i1).nx)] 56) = v12 at *
    refine (toMachine_any _ _ _ _ l0 _ _ _ _ _ _ hn0 ((hr0.below B).mono B.size)).mono ?_; rintro e w15 ⟨gO_x0, rfl, t, n, b⟩
    replace X0 := X0.below b X0.lt
    replace Ow0 := Ow0.keep b
    replace Zw0 := Zw0.below b Zw0.lt
    replace B := B.trans (b.mono B.size)
    have s16 : v12.heap.size ≤ w15.heap.size := b.size
    clear b
    have O_x0 := t.own
    have loO_x0 : ∀ a : Addr, (some ⟨gO_x0, 0, none⟩) = some a → v12.heap.size ≤ a.block := fun a ha => by cases ha; exact n
    have hiO_x0 : ∀ a : Addr, (some ⟨gO_x0, 0, none⟩) = some a → 0 < l0.length → a.block < w15.heap.size := fun a ha _ => by cases ha; exact t.lt
    clear t n
    go_wp2_with fail
    have b : Below w15.heap.size w15 (w15.alloc (.cells #[.int .i64 R0, .int .i64 C0, .slice (some ⟨gO_x0, 0, none⟩) l0.length l0.length, .int .i64 p0, .int .i64 q0, .int .i64 bl0, .int .i64 rd0, .int .i64 nx0] 56)) := (Below.refl _ _).alloc (Nat.le_refl _) _
    have XX0 : Whole (w15.alloc (.cells #[.int .i64 R0, .int .i64 C0, .slice (some ⟨gO_x0, 0, none⟩) l0.length l0.length, .int .i64 p0, .int .i64 q0, .int .i64 bl0, .int .i64 rd0, .int .i64 nx0] 56)) w15.heap.size 56 [.int .i64 R0, .int .i64 C0, .slice (some ⟨gO_x0, 0, none⟩) l0.length l0.length, .int .i64 p0, .int .i64 q0, .int .i64 bl0, .int .i64 rd0, .int .i64 nx0] := heap_alloc_new w15 _
    replace X0 := X0.below b X0.lt
    replace Ow0 := Ow0.keep b
    replace Zw0 := Zw0.below b Zw0.lt
    replace O_x0 := O_x0.keep b
    replace B := B.trans (b.mono B.size)
    have s19 : w15.heap.size ≤ (w15.alloc (.cells #[.int .i64 R0, .int .i64 C0, .slice (some ⟨gO_x0, 0, none⟩) l0.length l0.length, .int .i64 p0, .int .i64 q0, .int .i64 bl0, .int .i64 rd0, .int .i64 nx0] 56)).heap.size := b.size
    clear b
    have hiXX0 := XX0.lt
    generalize w15.alloc (.cells #[.int .i64 R0, .int .i64 C0, .slice (some ⟨gO_x0, 0, none⟩) l0.length l0.length, .int .i64 p0, .int .i64 q0, .int .i64 bl0, .int .i64 rd0, .int .i64 nx0] 56) = v18 at *
    refine (impl_RunMachine _ _ _ _ l0 _ _ _ _ _ _ _ hn0 (O_x0.rd) ).mono ?_; rintro e w21 ⟨Ag0, cg0, rfl, Og0, loOg0, b⟩
    replace X0 := X0.below b X0.lt
    replace Ow0 := Ow0.keep b
    replace Zw0 := Zw0.below b Zw0.lt
    replace O_x0 := O_x0.keep b
    replace XX0 := XX0.below b XX0.lt
    replace B := B.trans (b.mono B.size)
    have s22 : v18.heap.size ≤ w21.heap.size := b.size
    clear b
    have hiOg0 : ∀ a : Addr, Ag0 = some a → 0 < ((runO R0 C0 l0 p0 q0 bl0 rd0 nx0 i1).l).length → a.block < w21.heap.size := fun a ha hx => Og0.lt (pos_flat hx) ha
    have zZw0 : w9.heap.size < w21.heap.size := Zw0.lt
    have kZw00 : w21.cell? ⟨w9.heap.size, 0, none⟩ = some (.int .i64 (selI (okR R0 C0 l0 p0 q0 bl0 rd0 nx0 i1) R0)) := (Zw0.cell 0).trans rfl
    have kZw01 : w21.cell? ⟨w9.heap.size, 1, none⟩ = some (.int .i64 (selI (okR R0 C0 l0 p0 q0 bl0 rd0 nx0 i1) C0)) := (Zw0.cell 1).trans rfl
    have kZw02 : w21.cell? ⟨w9.heap.size, 2, none⟩ = some (.slice Aw0 ((runO R0 C0 l0 p0 q0 bl0 rd0 nx0 i1).l).length cw0) := (Zw0.cell 2).trans rfl
    have kZw03 : w21.cell? ⟨w9.heap.size, 3, none⟩ = some (.int .i64 (selI (okR R0 C0 l0 p0 q0 bl0 rd0 nx0 i1) p0)) := (Zw0.cell 3).trans rfl
    have kZw04 : w21.cell? ⟨w9.heap.size, 4, none⟩ = some (.int .i64 (selI (okR R0 C0 l0 p0 q0 bl0 rd0 nx0 i1) q0)) := (Zw0.cell 4).trans rfl
    have kZw05 : w21.cell? ⟨w9.heap.size, 5, none⟩ = some (.int .i64 ((runO R0 C0 l0 p0 q0 bl0 rd0 nx0 i1).bl)) := (Zw0.cell 5).trans rfl
    have kZw06 : w21.cell? ⟨w9.heap.size, 6, none⟩ = some (.int .i64 ((runO R0 C0 l0 p0 q0 bl0 rd0 nx0 i1).rd)) := (Zw0.cell 6).trans rfl
    have kZw07 : w21.cell? ⟨w9.heap.size, 7, none⟩ = some (.int .i64 ((runO R0 C0 l0 p0 q0 bl0 rd0 nx0 i1).nx)) := (Zw0.cell 7).trans rfl
    go_wp2_with fail
    clear zZw0 kZw00 kZw01 kZw02 kZw03 kZw04 kZw05 kZw06 kZw07
    have b : Below w21.heap.size w21 (w21.alloc (.cells #[.int .i64 (selI (okR R0 C0 l0 p0 q0 bl0 rd0 nx0 i1) R0), .int .i64 (selI (okR R0 C0 l0 p0 q0 bl0 rd0 nx0 i1) C0), .slice Ag0 ((runO R0 C0 l0 p0 q0 bl0 rd0 nx0 i1).l).length cg0, .int .i64 (selI (okR R0 C0 l0 p0 q0 bl0 rd0 nx0 i1) p0), .int .i64 (selI (okR R0 C0 l0 p0 q0 bl0 rd0 nx0 i1) q0), .int .i64 ((runO R0 C0 l0 p0 q0 bl0 rd0 nx0 i1).bl), .int .i64 ((runO R0 C0 l0 p0 q0 bl0 rd0 nx0 i1).rd), .int .i64 ((runO R0 C0 l0 p0 q0 bl0 rd0 nx0 i1).nx)] 56)) := (Below.refl _ _).alloc (Nat.le_refl _) _
    have Zg0 : Whole (w21.alloc (.cells #[.int .i64 (selI (okR R0 C0 l0 p0 q0 bl0 rd0 nx0 i1) R0), .int .i64 (selI (okR R0 C0 l0 p0 q0 bl0 rd0 nx0 i1) C0), .slice Ag0 ((runO R0 C0 l0 p0 q0 bl0 rd0 nx0 i1).l).length cg0, .int .i64 (selI (okR R0 C0 l0 p0 q0 bl0 rd0 nx0 i1) p0), .int .i64 (selI (okR R0 C0 l0 p0 q0 bl0 rd0 nx0 i1) q0), .int .i64 ((runO R0 C0 l0 p0 q0 bl0 rd0 nx0 i1).bl), .int .i64 ((runO R0 C0 l0 p0 q0 bl0 rd0 nx0 i1).rd), .int .i64 ((runO R0 C0 l0 p0 q0 bl0 rd0 nx0 i1).nx)] 56)) w21.heap.size 56 [.int .i64 (selI (okR R0 C0 l0 p0 q0 bl0 rd0 nx0 i1) R0), .int .i64 (selI (okR R0 C0 l0 p0 q0 bl0 rd0 nx0 i1) C0), .slice Ag0 ((runO R0 C0 l0 p0 q0 bl0 rd0 nx0 i1).l).length cg0, .int .i64 (selI (okR R0 C0 l0 p0 q0 bl0 rd0 nx0 i1) p0), .int .i64 (selI (okR R0 C0 l0 p0 q0 bl0 rd0 nx0 i1) q0), .int .i64 ((runO R0 C0 l0 p0 q0 bl0 rd0 nx0 i1).bl), .int .i64 ((runO R0 C0 l0 p0 q0 bl0 rd0 nx0 i1).rd), .int .i64 ((runO R0 C0 l0 p0 q0 bl0 rd0 nx0 i1).nx)] := heap_alloc_new w21 _
    replace X0 := X0.below b X0.lt
    replace Ow0 := Ow0.keep b
    replace Zw0 := Zw0.below b Zw0.lt
    replace O_x0 := O_x0.keep b
    replace XX0 := XX0.below b XX0.lt
    replace Og0 := Og0.keep b
    replace B := B.trans (b.mono B.size)
    have s25 : w21.heap.size ≤ (w21.alloc (.cells #[.int .i64 (selI (okR R0 C0 l0 p0 q0 bl0 rd0 nx0 i1) R0), .int .i64 (selI (okR R0 C0 l0 p0 q0 bl0 rd0 nx0 i1) C0), .slice Ag0 ((runO R0 C0 l0 p0 q0 bl0 rd0 nx0 i1).l).length cg0, .int .i64 (selI (okR R0 C0 l0 p0 q0 bl0 rd0 nx0 i1) p0), .int .i64 (selI (okR R0 C0 l0 p0 q0 bl0 rd0 nx0 i1) q0), .int .i64 ((runO R0 C0 l0 p0 q0 bl0 rd0 nx0 i1).bl), .int .i64 ((runO R0 C0 l0 p0 q0 bl0 rd0 nx0 i1).rd), .int .i64 ((runO R0 C0 l0 p0 q0 bl0 rd0 nx0 i1).nx)] 56)).heap.size := b.size
    clear b
    have hiZg0 := Zg0.lt
    generalize w21.alloc (.cells #[.int .i64 (selI (okR R0 C0 l0 p0 q0 bl0 rd0 nx0 i1) R0), .int .i64 (selI (okR R0 C0 l0 p0 q0 bl0 rd0 nx0 i1) C0), .slice Ag0 ((runO R0 C0 l0 p0 q0 bl0 rd0 nx0 i1).l).length cg0, .int .i64 (selI (okR R0 C0 l0 p0 q0 bl0 rd0 nx0 i1) p0), .int .i64 (selI (okR R0 C0 l0 p0 q0 bl0 rd0 nx0 i1) q0), .int .i64 ((runO R0 C0 l0 p0 q0 bl0 rd0 nx0 i1).bl), .int .i64 ((runO R0 C0 l0 p0 q0 bl0 rd0 nx0 i1).rd), .int .i64 ((runO R0 C0 l0 p0 q0 bl0 rd0 nx0 i1).nx)] 56) = v24 at *
    refine (eqMachine_same _ _ _ _ _ _ _ _ _ _ _ ((runO R0 C0 l0 p0 q0 bl0 rd0 nx0 i1).l) _ (runO_len _ _ _ _ _ _ _ _ _ hn0) Og0.rd Ow0.rd).mono ?_; rintro e w27 ⟨rfl, b⟩
    replace X0 := X0.below b X0.lt
    replace Ow0 := Ow0.keep b
    replace Zw0 := Zw0.below b Zw0.lt
    replace O_x0 := O_x0.keep b
    replace XX0 := XX0.below b XX0.lt
    replace Og0 := Og0.keep b
    replace Zg0 := Zg0.below b Zg0.lt
    replace B := B.trans (b.mono B.size)
    have s28 : v24.heap.size ≤ w27.heap.size := b.size
    clear b
    have zXX0 : w15.heap.size < w27.heap.size := XX0.lt
    have kXX00 : w27.cell? ⟨w15.heap.size, 0, none⟩ = some (.int .i64 R0) := (XX0.cell 0).trans rfl
    have kXX01 : w27.cell? ⟨w15.heap.size, 1, none⟩ = some (.int .i64 C0) := (XX0.cell 1).trans rfl
    have kXX02 : w27.cell? ⟨w15.heap.size, 2, none⟩ = some (.slice (some ⟨gO_x0, 0, none⟩) l0.length l0.length) := (XX0.cell 2).trans rfl
    have kXX03 : w27.cell? ⟨w15.heap.size, 3, none⟩ = some (.int .i64 p0) := (XX0.cell 3).trans rfl
    have kXX04 : w27.cell? ⟨w15.heap.size, 4, none⟩ = some (.int .i64 q0) := (XX0.cell 4).trans rfl
    have kXX05 : w27.cell? ⟨w15.heap.size, 5, none⟩ = some (.int .i64 bl0) := (XX0.cell 5).trans rfl
    have kXX06 : w27.cell? ⟨w15.heap.size, 6, none⟩ = some (.int .i64 rd0) := (XX0.cell 6).trans rfl
    have kXX07 : w27.cell? ⟨w15.heap.size, 7, none⟩ = some (.int .i64 nx0) := (XX0.cell 7).trans rfl
    have zX0 : w.heap.size < w27.heap.size := X0.lt
    have kX00 : w27.cell? ⟨w.heap.size, 0, none⟩ = some (.int .i64 R0) := (X0.cell 0).trans rfl
    have kX01 : w27.cell? ⟨w.heap.size, 1, none⟩ = some (.int .i64 C0) := (X0.cell 1).trans rfl
    have kX02 : w27.cell? ⟨w.heap.size, 2, none⟩ = some (.slice A0 l0.length cap0) := (X0.cell 2).trans rfl
    have kX03 : w27.cell? ⟨w.heap.size, 3, none⟩ = some (.int .i64 p0) := (X0.cell 3).trans rfl
    have kX04 : w27.cell? ⟨w.heap.size, 4, none⟩ = some (.int .i64 q0) := (X0.cell 4).trans rfl
    have kX05 : w27.cell? ⟨w.heap.size, 5, none⟩ = some (.int .i64 bl0) := (X0.cell 5).trans rfl
    have kX06 : w27.cell? ⟨w.heap.size, 6, none⟩ = some (.int .i64 rd0) := (X0.cell 6).trans rfl
    have kX07 : w27.cell? ⟨w.heap.size, 7, none⟩ = some (.int .i64 nx0) := (X0.cell 7).trans rfl
    go_wp2_with fail
    have hqXX0 : w15.heap.size < w27.heap.size := XX0.lt
    have hqX0 : w.heap.size < w27.heap.size := X0.lt
    go_region_held3 (fun w' => w'.cell? ⟨w15.heap.size, 0, none⟩ = some (.int .i64 R0) ∧ w'.cell? ⟨w15.heap.size, 1, none⟩ = some (.int .i64 C0) ∧ w'.cell? ⟨w15.heap.size, 2, none⟩ = some (.slice (some ⟨gO_x0, 0, none⟩) l0.length l0.length) ∧ w'.cell? ⟨w15.heap.size, 3, none⟩ = some (.int .i64 p0) ∧ w'.cell? ⟨w15.heap.size, 4, none⟩ = some (.int .i64 q0) ∧ w'.cell? ⟨w15.heap.size, 5, none⟩ = some (.int .i64 bl0) ∧ w'.cell? ⟨w15.heap.size, 6, none⟩ = some (.int .i64 rd0) ∧ w'.cell? ⟨w15.heap.size, 7, none⟩ = some (.int .i64 nx0) ∧ w'.cell? ⟨w.heap.size, 0, none⟩ = some (.int .i64 R0) ∧ w'.cell? ⟨w.heap.size, 1, none⟩ = some (.int .i64 C0) ∧ w'.cell? ⟨w.heap.size, 2, none⟩ = some (.slice A0 l0.length cap0) ∧ w'.cell? ⟨w.heap.size, 3, none⟩ = some (.int .i64 p0) ∧ w'.cell? ⟨w.heap.size, 4, none⟩ = some (.int .i64 q0) ∧ w'.cell? ⟨w.heap.size, 5, none⟩ = some (.int .i64 bl0) ∧ w'.cell? ⟨w.heap.size, 6, none⟩ = some (.int .i64 rd0) ∧ w'.cell? ⟨w.heap.size, 7, none⟩ = some (.int .i64 nx0))
      (first | exact ⟨kXX00, kXX01, kXX02, kXX03, kXX04, kXX05, kXX06, kXX07, kX00, kX01, kX02, kX03, kX04, kX05, kX06, kX07⟩ | exact ⟨(b.cell (p := ⟨w15.heap.size, 0, none⟩) hqXX0).trans kXX00, (b.cell (p := ⟨w15.heap.size, 1, none⟩) hqXX0).trans kXX01, (b.cell (p := ⟨w15.heap.size, 2, none⟩) hqXX0).trans kXX02, (b.cell (p := ⟨w15.heap.size, 3, none⟩) hqXX0).trans kXX03, (b.cell (p := ⟨w15.heap.size, 4, none⟩) hqXX0).trans kXX04, (b.cell (p := ⟨w15.heap.size, 5, none⟩) hqXX0).trans kXX05, (b.cell (p := ⟨w15.heap.size, 6, none⟩) hqXX0).trans kXX06, (b.cell (p := ⟨w15.heap.size, 7, none⟩) hqXX0).trans kXX07, (b.cell (p := ⟨w.heap.size, 0, none⟩) hqX0).trans kX00, (b.cell (p := ⟨w.heap.size, 1, none⟩) hqX0).trans kX01, (b.cell (p := ⟨w.heap.size, 2, none⟩) hqX0).trans kX02, (b.cell (p := ⟨w.heap.size, 3, none⟩) hqX0).trans kX03, (b.cell (p := ⟨w.heap.size, 4, none⟩) hqX0).trans kX04, (b.cell (p := ⟨w.heap.size, 5, none⟩) hqX0).trans kX05, (b.cell (p := ⟨w.heap.size, 6, none⟩) hqX0).trans kX06, (b.cell (p := ⟨w.heap.size, 7, none⟩) hqX0).trans kX07⟩ | exact ⟨(b2.cell (p := ⟨w15.heap.size, 0, none⟩) (Nat.lt_of_lt_of_le hqXX0 b.size)).trans ((b.cell (p := ⟨w15.heap.size, 0, none⟩) hqXX0).trans kXX00), (b2.cell (p := ⟨w15.heap.size, 1, none⟩) (Nat.lt_of_lt_of_le hqXX0 b.size)).trans ((b.cell (p := ⟨w15.heap.size, 1, none⟩) hqXX0).trans kXX01), (b2.cell (p := ⟨w15.heap.size, 2, none⟩) (Nat.lt_of_lt_of_le hqXX0 b.size)).trans ((b.cell (p := ⟨w15.heap.size, 2, none⟩) hqXX0).trans kXX02), (b2.cell (p := ⟨w15.heap.size, 3, none⟩) (Nat.lt_of_lt_of_le hqXX0 b.size)).trans ((b.cell (p := ⟨w15.heap.size, 3, none⟩) hqXX0).trans kXX03), (b2.cell (p := ⟨w15.heap.size, 4, none⟩) (Nat.lt_of_lt_of_le hqXX0 b.size)).trans ((b.cell (p := ⟨w15.heap.size, 4, none⟩) hqXX0).trans kXX04), (b2.cell (p := ⟨w15.heap.size, 5, none⟩) (Nat.lt_of_lt_of_le hqXX0 b.size)).trans ((b.cell (p := ⟨w15.heap.size, 5, none⟩) hqXX0).trans kXX05), (b2.cell (p := ⟨w15.heap.size, 6, none⟩) (Nat.lt_of_lt_of_le hqXX0 b.size)).trans ((b.cell (p := ⟨w15.heap.size, 6, none⟩) hqXX0).trans kXX06), (b2.cell (p := ⟨w15.heap.size, 7, none⟩) (Nat.lt_of_lt_of_le hqXX0 b.size)).trans ((b.cell (p := ⟨w15.heap.size, 7, none⟩) hqXX0).trans kXX07), (b2.cell (p := ⟨w.heap.size, 0, none⟩) (Nat.lt_of_lt_of_le hqX0 b.size)).trans ((b.cell (p := ⟨w.heap.size, 0, none⟩) hqX0).trans kX00), (b2.cell (p := ⟨w.heap.size, 1, none⟩) (Nat.lt_of_lt_of_le hqX0 b.size)).trans ((b.cell (p := ⟨w.heap.size, 1, none⟩) hqX0).trans kX01), (b2.cell (p := ⟨w.heap.size, 2, none⟩) (Nat.lt_of_lt_of_le hqX0 b.size)).trans ((b.cell (p := ⟨w.heap.size, 2, none⟩) hqX0).trans kX02), (b2.cell (p := ⟨w.heap.size, 3, none⟩) (Nat.lt_of_lt_of_le hqX0 b.size)).trans ((b.cell (p := ⟨w.heap.size, 3, none⟩) hqX0).trans kX03), (b2.cell (p := ⟨w.heap.size, 4, none⟩) (Nat.lt_of_lt_of_le hqX0 b.size)).trans ((b.cell (p := ⟨w.heap.size, 4, none⟩) hqX0).trans kX04), (b2.cell (p := ⟨w.heap.size, 5, none⟩) (Nat.lt_of_lt_of_le hqX0 b.size)).trans ((b.cell (p := ⟨w.heap.size, 5, none⟩) hqX0).trans kX05), (b2.cell (p := ⟨w.heap.size, 6, none⟩) (Nat.lt_of_lt_of_le hqX0 b.size)).trans ((b.cell (p := ⟨w.heap.size, 6, none⟩) hqX0).trans kX06), (b2.cell (p := ⟨w.heap.size, 7, none⟩) (Nat.lt_of_lt_of_le hqX0 b.size)).trans ((b.cell (p := ⟨w.heap.size, 7, none⟩) hqX0).trans kX07)⟩)
      ((first | (go_at_call 38; refine (toMachine_any _ _ _ _ l0 _ _ _ _ _ _ hn0 ((hr0.below B.drew).mono B.size)).mono ?_; rintro e w29a ⟨gq, rfl, t, n, b⟩) | (go_at_call 40; refine (eqMachine_same _ _ _ _ _ _ _ _ _ _ _ l0 _ hn0 ((O_x0.keep (Below.drew (Below.refl _ _))).keep b).rd t.own.rd).mono ?_; rintro e w29b ⟨rfl, b2⟩)))
    have bb : Below w27.heap.size w27 w29b := ((Below.refl _ _).drew).trans (b.trans (b2.mono b.size))
    clear b b2 t n zXX0 kXX00 kXX01 kXX02 kXX03 kXX04 kXX05 kXX06 kXX07 zX0 kX00 kX01 kX02 kX03 kX04 kX05 kX06 kX07 hqXX0 hqX0
    replace X0 := X0.below bb X0.lt
    replace Ow0 := Ow0.keep bb
    replace Zw0 := Zw0.below bb Zw0.lt
    replace O_x0 := O_x0.keep bb
    replace XX0 := XX0.below bb XX0.lt
    replace Og0 := Og0.keep bb
    replace Zg0 := Zg0.below bb Zg0.lt
    replace B := B.trans (bb.mono B.size)
    have s30 : w27.heap.size ≤ w29b.heap.size := bb.size
    clear bb
    have zXX0 : w15.heap.size < w29b.heap.size := XX0.lt
    have kXX00 : w29b.cell? ⟨w15.heap.size, 0, none⟩ = some (.int .i64 R0) := (XX0.cell 0).trans rfl
    have kXX01 : w29b.cell? ⟨w15.heap.size, 1, none⟩ = some (.int .i64 C0) := (XX0.cell 1).trans rfl
    have kXX02 : w29b.cell? ⟨w15.heap.size, 2, none⟩ = some (.slice (some ⟨gO_x0, 0, none⟩) l0.length l0.length) := (XX0.cell 2).trans rfl
    have kXX03 : w29b.cell? ⟨w15.heap.size, 3, none⟩ = some (.int .i64 p0) := (XX0.cell 3).trans rfl
    have kXX04 : w29b.cell? ⟨w15.heap.size, 4, none⟩ = some (.int .i64 q0) := (XX0.cell 4).trans rfl
    have kXX05 : w29b.cell? ⟨w15.heap.size, 5, none⟩ = some (.int .i64 bl0) := (XX0.cell 5).trans rfl
    have kXX06 : w29b.cell? ⟨w15.heap.size, 6, none⟩ = some (.int .i64 rd0) := (XX0.cell 6).trans rfl
    have kXX07 : w29b.cell? ⟨w15.heap.size, 7, none⟩ = some (.int .i64 nx0) := (XX0.cell 7).trans rfl
    go_wp2_with fail
    refine (markMachine_n _ _ _ _ l0.length _ _ _ _ _ (flat l0) _ _ (flat_length _) hn0 (by omega) (by omega) O_x0).mono ?_; rintro e w31 ⟨rfl, o, b⟩
    clear zXX0 kXX00 kXX01 kXX02 kXX03 kXX04 kXX05 kXX06 kXX07
    replace X0 := X0.fx b (fun hp a ha => own_apart O_x0 X0 (by decide) (pos_flat hp) ha)
    replace Ow0 := Ow0.fx b (fun hp hx a a' ha ha' => by have h1 := loO_x0 a' ha'; have h2 := hiOw0 a ha (flat_pos hx); omega)
    replace Zw0 := Zw0.fx b (fun hp a ha => own_apart O_x0 Zw0 (by decide) (pos_flat hp) ha)
    replace XX0 := XX0.fx b (fun hp a ha => own_apart O_x0 XX0 (by decide) (pos_flat hp) ha)
    replace Og0 := Og0.fx b (fun hp hx a a' ha ha' => by have h1 := hiO_x0 a' ha' hp; have h2 := loOg0 a ha; omega)
    replace Zg0 := Zg0.fx b (fun hp a ha => own_apart O_x0 Zg0 (by decide) (pos_flat hp) ha)
    replace B := B.trans (b.below B.size (fun a ha => by have h1 := loO_x0 a ha; omega))
    have s32 : w29b.heap.size ≤ w31.heap.size := b.size
    clear b
    replace O_x0 := o
    clear O_x0
    have zZg0 : w21.heap.size < w31.heap.size := Zg0.lt
    have kZg00 : w31.cell? ⟨w21.heap.size, 0, none⟩ = some (.int .i64 (selI (okR R0 C0 l0 p0 q0 bl0 rd0 nx0 i1) R0)) := (Zg0.cell 0).trans rfl
    have kZg01 : w31.cell? ⟨w21.heap.size, 1, none⟩ = some (.int .i64 (selI (okR R0 C0 l0 p0 q0 bl0 rd0 nx0 i1) C0)) := (Zg0.cell 1).trans rfl
    have kZg02 : w31.cell? ⟨w21.heap.size, 2, none⟩ = some (.slice Ag0 ((runO R0 C0 l0 p0 q0 bl0 rd0 nx0 i1).l).length cg0) := (Zg0.cell 2).trans rfl
    have kZg03 : w31.cell? ⟨w21.heap.size, 3, none⟩ = some (.int .i64 (selI (okR R0 C0 l0 p0 q0 bl0 rd0 nx0 i1) p0)) := (Zg0.cell 3).trans rfl
    have kZg04 : w31.cell? ⟨w21.heap.size, 4, none⟩ = some (.int .i64 (selI (okR R0 C0 l0 p0 q0 bl0 rd0 nx0 i1) q0)) := (Zg0.cell 4).trans rfl
    have kZg05 : w31.cell? ⟨w21.heap.size, 5, none⟩ = some (.int .i64 ((runO R0 C0 l0 p0 q0 bl0 rd0 nx0 i1).bl)) := (Zg0.cell 5).trans rfl
    have kZg06 : w31.cell? ⟨w21.heap.size, 6, none⟩ = some (.int .i64 ((runO R0 C0 l0 p0 q0 bl0 rd0 nx0 i1).rd)) := (Zg0.cell 6).trans rfl
    have kZg07 : w31.cell? ⟨w21.heap.size, 7, none⟩ = some (.int .i64 ((runO R0 C0 l0 p0 q0 bl0 rd0 nx0 i1).nx)) := (Zg0.cell 7).trans rfl
    have zZw0 : w9.heap.size < w31.heap.size := Zw0.lt
    have kZw00 : w31.cell? ⟨w9.heap.size, 0, none⟩ = some (.int .i64 (selI (okR R0 C0 l0 p0 q0 bl0 rd0 nx0 i1) R0)) := (Zw0.cell 0).trans rfl
    have kZw01 : w31.cell? ⟨w9.heap.size, 1, none⟩ = some (.int .i64 (selI (okR R0 C0 l0 p0 q0 bl0 rd0 nx0 i1) C0)) := (Zw0.cell 1).trans rfl
    have kZw02 : w31.cell? ⟨w9.heap.size, 2, none⟩ = some (.slice Aw0 ((runO R0 C0 l0 p0 q0 bl0 rd0 nx0 i1).l).length cw0) := (Zw0.cell 2).trans rfl
    have kZw03 : w31.cell? ⟨w9.heap.size, 3, none⟩ = some (.int .i64 (selI (okR R0 C0 l0 p0 q0 bl0 rd0 nx0 i1) p0)) := (Zw0.cell 3).trans rfl
    have kZw04 : w31.cell? ⟨w9.heap.size, 4, none⟩ = some (.int .i64 (selI (okR R0 C0 l0 p0 q0 bl0 rd0 nx0 i1) q0)) := (Zw0.cell 4).trans rfl
    have kZw05 : w31.cell? ⟨w9.heap.size, 5, none⟩ = some (.int .i64 ((runO R0 C0 l0 p0 q0 bl0 rd0 nx0 i1).bl)) := (Zw0.cell 5).trans rfl
    have kZw06 : w31.cell? ⟨w9.heap.size, 6, none⟩ = some (.int .i64 ((runO R0 C0 l0 p0 q0 bl0 rd0 nx0 i1).rd)) := (Zw0.cell 6).trans rfl
    have kZw07 : w31.cell? ⟨w9.heap.size, 7, none⟩ = some (.int .i64 ((runO R0 C0 l0 p0 q0 bl0 rd0 nx0 i1).nx)) := (Zw0.cell 7).trans rfl
    go_wp2_with fail
    refine (eqMachine_same _ _ _ _ _ _ _ _ _ _ _ ((runO R0 C0 l0 p0 q0 bl0 rd0 nx0 i1).l) _ (runO_len _ _ _ _ _ _ _ _ _ hn0) Og0.rd Ow0.rd).mono ?_; rintro e w33 ⟨rfl, b⟩
    clear zZg0 kZg00 kZg01 kZg02 kZg03 kZg04 kZg05 kZg06 kZg07 zZw0 kZw00 kZw01 kZw02 kZw03 kZw04 kZw05 kZw06 kZw07
    replace X0 := X0.below b X0.lt
    replace Ow0 := Ow0.keep b
    replace Zw0 := Zw0.below b Zw0.lt
    replace XX0 := XX0.below b XX0.lt
    replace Og0 := Og0.keep b
    replace Zg0 := Zg0.below b Zg0.lt
    replace B := B.trans (b.mono B.size)
    have s34 : w31.heap.size ≤ w33.heap.size := b.size
    clear b
    have zZg0 : w21.heap.size < w33.heap.size := Zg0.lt
    have kZg00 : w33.cell? ⟨w21.heap.size, 0, none⟩ = some (.int .i64 (selI (okR R0 C0 l0 p0 q0 bl0 rd0 nx0 i1) R0)) := (Zg0.cell 0).trans rfl
    have kZg01 : w33.cell? ⟨w21.heap.size, 1, none⟩ = some (.int .i64 (selI (okR R0 C0 l0 p0 q0 bl0 rd0 nx0 i1) C0)) := (Zg0.cell 1).trans rfl
    have kZg02 : w33.cell? ⟨w21.heap.size, 2, none⟩ = some (.slice Ag0 ((runO R0 C0 l0 p0 q0 bl0 rd0 nx0 i1).l).length cg0) := (Zg0.cell 2).trans rfl
    have kZg03 : w33.cell? ⟨w21.heap.size, 3, none⟩ = some (.int .i64 (selI (okR R0 C0 l0 p0 q0 bl0 rd0 nx0 i1) p0)) := (Zg0.cell 3).trans rfl
    have kZg04 : w33.cell? ⟨w21.heap.size, 4, none⟩ = some (.int .i64 (selI (okR R0 C0 l0 p0 q0 bl0 rd0 nx0 i1) q0)) := (Zg0.cell 4).trans rfl
    have kZg05 : w33.cell? ⟨w21.heap.size, 5, none⟩ = some (.int .i64 ((runO R0 C0 l0 p0 q0 bl0 rd0 nx0 i1).bl)) := (Zg0.cell 5).trans rfl
    have kZg06 : w33.cell? ⟨w21.heap.size, 6, none⟩ = some (.int .i64 ((runO R0 C0 l0 p0 q0 bl0 rd0 nx0 i1).rd)) := (Zg0.cell 6).trans rfl
    have kZg07 : w33.cell? ⟨w21.heap.size, 7, none⟩ = some (.int .i64 ((runO R0 C0 l0 p0 q0 bl0 rd0 nx0 i1).nx)) := (Zg0.cell 7).trans rfl
    go_wp2_with fail
    refine (markMachine_n _ _ _ _ ((runO R0 C0 l0 p0 q0 bl0 rd0 nx0 i1).l).length _ _ _ _ _ (flat ((runO R0 C0 l0 p0 q0 bl0 rd0 nx0 i1).l)) _ _ (flat_length _) (runO_len _ _ _ _ _ _ _ _ _ hn0) (by omega) (by omega) Og0).mono ?_; rintro e w35 ⟨rfl, o, b⟩
    clear zZg0 kZg00 kZg01 kZg02 kZg03 kZg04 kZg05 kZg06 kZg07
    replace X0 := X0.fx b (fun hp a ha => own_apart Og0 X0 (by decide) (pos_flat hp) ha)
    replace Ow0 := Ow0.fx b (fun hp hx a a' ha ha' => by have h1 := loOg0 a' ha'; have h2 := hiOw0 a ha (flat_pos hx); omega)
    replace Zw0 := Zw0.fx b (fun hp a ha => own_apart Og0 Zw0 (by decide) (pos_flat hp) ha)
    replace XX0 := XX0.fx b (fun hp a ha => own_apart Og0 XX0 (by decide) (pos_flat hp) ha)
    replace Zg0 := Zg0.fx b (fun hp a ha => own_apart Og0 Zg0 (by decide) (pos_flat hp) ha)
    replace B := B.trans (b.below B.size (fun a ha => by have h1 := loOg0 a ha; omega))
    have s36 : w33.heap.size ≤ w35.heap.size := b.size
    clear b
    replace Og0 := o
    have zZg0 : w21.heap.size < w35.heap.size := Zg0.lt
    have kZg00 : w35.cell? ⟨w21.heap.size, 0, none⟩ = some (.int .i64 (selI (okR R0 C0 l0 p0 q0 bl0 rd0 nx0 i1) R0)) := (Zg0.cell 0).trans rfl
    have kZg01 : w35.cell? ⟨w21.heap.size, 1, none⟩ = some (.int .i64 (selI (okR R0 C0 l0 p0 q0 bl0 rd0 nx0 i1) C0)) := (Zg0.cell 1).trans rfl
    have kZg02 : w35.cell? ⟨w21.heap.size, 2, none⟩ = some (.slice Ag0 ((runO R0 C0 l0 p0 q0 bl0 rd0 nx0 i1).l).length cg0) := (Zg0.cell 2).trans rfl
    have kZg03 : w35.cell? ⟨w21.heap.size, 3, none⟩ = some (.int .i64 (selI (okR R0 C0 l0 p0 q0 bl0 rd0 nx0 i1) p0)) := (Zg0.cell 3).trans rfl
    have kZg04 : w35.cell? ⟨w21.heap.size, 4, none⟩ = some (.int .i64 (selI (okR R0 C0 l0 p0 q0 bl0 rd0 nx0 i1) q0)) := (Zg0.cell 4).trans rfl
    have kZg05 : w35.cell? ⟨w21.heap.size, 5, none⟩ = some (.int .i64 ((runO R0 C0 l0 p0 q0 bl0 rd0 nx0 i1).bl)) := (Zg0.cell 5).trans rfl
    have kZg06 : w35.cell? ⟨w21.heap.size, 6, none⟩ = some (.int .i64 ((runO R0 C0 l0 p0 q0 bl0 rd0 nx0 i1).rd)) := (Zg0.cell 6).trans rfl
    have kZg07 : w35.cell? ⟨w21.heap.size, 7, none⟩ = some (.int .i64 ((runO R0 C0 l0 p0 q0 bl0 rd0 nx0 i1).nx)) := (Zg0.cell 7).trans rfl
    go_wp2_with fail
    refine (heldMachine_any _ _ _ _ ((runO R0 C0 l0 p0 q0 bl0 rd0 nx0 i1).l).length _ _ _ _ _ _ _ (runO_len _ _ _ _ _ _ _ _ _ hn0) (by omega) (by omega) Og0).mono ?_; rintro e w37 ⟨rfl, b⟩
    clear zZg0 kZg00 kZg01 kZg02 kZg03 kZg04 kZg05 kZg06 kZg07
    replace X0 := X0.below b X0.lt
    replace Ow0 := Ow0.keep b
    replace Zw0 := Zw0.below b Zw0.lt
    replace XX0 := XX0.below b XX0.lt
    replace Og0 := Og0.keep b
    replace Zg0 := Zg0.below b Zg0.lt
    replace B := B.trans (b.mono B.size)
    have s38 : w35.heap.size ≤ w37.heap.size := b.size
    clear b
    have zX0 : w.heap.size < w37.heap.size := X0.lt
    have kX00 : w37.cell? ⟨w.heap.size, 0, none⟩ = some (.int .i64 R0) := (X0.cell 0).trans rfl
    have kX01 : w37.cell? ⟨w.heap.size, 1, none⟩ = some (.int .i64 C0) := (X0.cell 1).trans rfl
    have kX02 : w37.cell? ⟨w.heap.size, 2, none⟩ = some (.slice A0 l0.length cap0) := (X0.cell 2).trans rfl
    have kX03 : w37.cell? ⟨w.heap.size, 3, none⟩ = some (.int .i64 p0) := (X0.cell 3).trans rfl
    have kX04 : w37.cell? ⟨w.heap.size, 4, none⟩ = some (.int .i64 q0) := (X0.cell 4).trans rfl
    have kX05 : w37.cell? ⟨w.heap.size, 5, none⟩ = some (.int .i64 bl0) := (X0.cell 5).trans rfl
    have kX06 : w37.cell? ⟨w.heap.size, 6, none⟩ = some (.int .i64 rd0) := (X0.cell 6).trans rfl
    have kX07 : w37.cell? ⟨w.heap.size, 7, none⟩ = some (.int .i64 nx0) := (X0.cell 7).trans rfl
    go_wp2_with fail
    refine (toMachine_any _ _ _ _ l0 _ _ _ _ _ _ hn0 ((hr0.below B).mono B.size)).mono ?_; rintro e w39 ⟨gT0, rfl, t, n, b⟩
    clear zX0 kX00 kX01 kX02 kX03 kX04 kX05 kX06 kX07
    replace X0 := X0.below b X0.lt
    replace Ow0 := Ow0.keep b
    replace Zw0 := Zw0.below b Zw0.lt
    replace XX0 := XX0.below b XX0.lt
    replace Og0 := Og0.keep b
    replace Zg0 := Zg0.below b Zg0.lt
    replace B := B.trans (b.mono B.size)
    have s40 : w37.heap.size ≤ w39.heap.size := b.size
    clear b
    have T0 := t.own
    have loT0 : ∀ a : Addr, (some ⟨gT0, 0, none⟩) = some a → w37.heap.size ≤ a.block := fun a ha => by cases ha; exact n
    have hiT0 : ∀ a : Addr, (some ⟨gT0, 0, none⟩) = some a → 0 < l0.length → a.block < w39.heap.size := fun a ha _ => by cases ha; exact t.lt
    clear t n
    go_wp2_with fail
    refine (impl_RunMachine _ _ _ _ l0 _ _ _ _ _ _ _ hn0 (T0.rd) ).mono ?_; rintro e w42 ⟨Ah0, ch0, rfl, Oh0, loOh0, b⟩
    replace X0 := X0.below b X0.lt
    replace Ow0 := Ow0.keep b
    replace Zw0 := Zw0.below b Zw0.lt
    replace XX0 := XX0.below b XX0.lt
    replace Og0 := Og0.keep b
    replace Zg0 := Zg0.below b Zg0.lt
    replace T0 := T0.keep b
    replace B := B.trans (b.mono B.size)
    have s43 : w39.heap.size ≤ w42.heap.size := b.size
    clear b
    have hiOh0 : ∀ a : Addr, Ah0 = some a → 0 < ((runO R0 C0 l0 p0 q0 bl0 rd0 nx0 i1).l).length → a.block < w42.heap.size := fun a ha hx => Oh0.lt (pos_flat hx) ha
    clear T0
    have zZw0 : w9.heap.size < w42.heap.size := Zw0.lt
    have kZw00 : w42.cell? ⟨w9.heap.size, 0, none⟩ = some (.int .i64 (selI (okR R0 C0 l0 p0 q0 bl0 rd0 nx0 i1) R0)) := (Zw0.cell 0).trans rfl
    have kZw01 : w42.cell? ⟨w9.heap.size, 1, none⟩ = some (.int .i64 (selI (okR R0 C0 l0 p0 q0 bl0 rd0 nx0 i1) C0)) := (Zw0.cell 1).trans rfl
    have kZw02 : w42.cell? ⟨w9.heap.size, 2, none⟩ = some (.slice Aw0 ((runO R0 C0 l0 p0 q0 bl0 rd0 nx0 i1).l).length cw0) := (Zw0.cell 2).trans rfl
    have kZw03 : w42.cell? ⟨w9.heap.size, 3, none⟩ = some (.int .i64 (selI (okR R0 C0 l0 p0 q0 bl0 rd0 nx0 i1) p0)) := (Zw0.cell 3).trans rfl
    have kZw04 : w42.cell? ⟨w9.heap.size, 4, none⟩ = some (.int .i64 (selI (okR R0 C0 l0 p0 q0 bl0 rd0 nx0 i1) q0)) := (Zw0.cell 4).trans rfl
    have kZw05 : w42.cell? ⟨w9.heap.size, 5, none⟩ = some (.int .i64 ((runO R0 C0 l0 p0 q0 bl0 rd0 nx0 i1).bl)) := (Zw0.cell 5).trans rfl
    have kZw06 : w42.cell? ⟨w9.heap.size, 6, none⟩ = some (.int .i64 ((runO R0 C0 l0 p0 q0 bl0 rd0 nx0 i1).rd)) := (Zw0.cell 6).trans rfl
    have kZw07 : w42.cell? ⟨w9.heap.size, 7, none⟩ = some (.int .i64 ((runO R0 C0 l0 p0 q0 bl0 rd0 nx0 i1).nx)) := (Zw0.cell 7).trans rfl
    go_wp2_with fail
    clear zZw0 kZw00 kZw01 kZw02 kZw03 kZw04 kZw05 kZw06 kZw07
    have b : Below w42.heap.size w42 (w42.alloc (.cells #[.int .i64 (selI (okR R0 C0 l0 p0 q0 bl0 rd0 nx0 i1) R0), .int .i64 (selI (okR R0 C0 l0 p0 q0 bl0 rd0 nx0 i1) C0), .slice Ah0 ((runO R0 C0 l0 p0 q0 bl0 rd0 nx0 i1).l).length ch0, .int .i64 (selI (okR R0 C0 l0 p0 q0 bl0 rd0 nx0 i1) p0), .int .i64 (selI (okR R0 C0 l0 p0 q0 bl0 rd0 nx0 i1) q0), .int .i64 ((runO R0 C0 l0 p0 q0 bl0 rd0 nx0 i1).bl), .int .i64 ((runO R0 C0 l0 p0 q0 bl0 rd0 nx0 i1).rd), .int .i64 ((runO R0 C0 l0 p0 q0 bl0 rd0 nx0 i1).nx)] 56)) := (Below.refl _ _).alloc (Nat.le_refl _) _
    have Zh0 : Whole (w42.alloc (.cells #[.int .i64 (selI (okR R0 C0 l0 p0 q0 bl0 rd0 nx0 i1) R0), .int .i64 (selI (okR R0 C0 l0 p0 q0 bl0 rd0 nx0 i1) C0), .slice Ah0 ((runO R0 C0 l0 p0 q0 bl0 rd0 nx0 i1).l).length ch0, .int .i64 (selI (okR R0 C0 l0 p0 q0 bl0 rd0 nx0 i1) p0), .int .i64 (selI (okR R0 C0 l0 p0 q0 bl0 rd0 nx0 i1) q0), .int .i64 ((runO R0 C0 l0 p0 q0 bl0 rd0 nx0 i1).bl), .int .i64 ((runO R0 C0 l0 p0 q0 bl0 rd0 nx0 i1).rd), .int .i64 ((runO R0 C0 l0 p0 q0 bl0 rd0 nx0 i1).nx)] 56)) w42.heap.size 56 [.int .i64 (selI (okR R0 C0 l0 p0 q0 bl0 rd0 nx0 i1) R0), .int .i64 (selI (okR R0 C0 l0 p0 q0 bl0 rd0 nx0 i1) C0), .slice Ah0 ((runO R0 C0 l0 p0 q0 bl0 rd0 nx0 i1).l).length ch0, .int .i64 (selI (okR R0 C0 l0 p0 q0 bl0 rd0 nx0 i1) p0), .int .i64 (selI (okR R0 C0 l0 p0 q0 bl0 rd0 nx0 i1) q0), .int .i64 ((runO R0 C0 l0 p0 q0 bl0 rd0 nx0 i1).bl), .int .i64 ((runO R0 C0 l0 p0 q0 bl0 rd0 nx0 i1).rd), .int .i64 ((runO R0 C0 l0 p0 q0 bl0 rd0 nx0 i1).nx)] := heap_alloc_new w42 _
    replace X0 := X0.below b X0.lt
    replace Ow0 := Ow0.keep b
    replace Zw0 := Zw0.below b Zw0.lt
    replace XX0 := XX0.below b XX0.lt
    replace Og0 := Og0.keep b
    replace Zg0 := Zg0.below b Zg0.lt
    replace Oh0 := Oh0.keep b
    replace B := B.trans (b.mono B.size)
    have s46 : w42.heap.size ≤ (w42.alloc (.cells #[.int .i64 (selI (okR R0 C0 l0 p0 q0 bl0 rd0 nx0 i1) R0), .int .i64 (selI (okR R0 C0 l0 p0 q0 bl0 rd0 nx0 i1) C0), .slice Ah0 ((runO R0 C0 l0 p0 q0 bl0 rd0 nx0 i1).l).length ch0, .int .i64 (selI (okR R0 C0 l0 p0 q0 bl0 rd0 nx0 i1) p0), .int .i64 (selI (okR R0 C0 l0 p0 q0 bl0 rd0 nx0 i1) q0), .int .i64 ((runO R0 C0 l0 p0 q0 bl0 rd0 nx0 i1).bl), .int .i64 ((runO R0 C0 l0 p0 q0 bl0 rd0 nx0 i1).rd), .int .i64 ((runO R0 C0 l0 p0 q0 bl0 rd0 nx0 i1).nx)] 56)).heap.size := b.size
    clear b
    have hiZh0 := Zh0.lt
    generalize w42.alloc (.cells #[.int .i64 (selI (okR R0 C0 l0 p0 q0 bl0 rd0 nx0 i1) R0), .int .i64 (selI (okR R0 C0 l0 p0 q0 bl0 rd0 nx0 i1) C0), .slice Ah0 ((runO R0 C0 l0 p0 q0 bl0 rd0 nx0 i1).l).length ch0, .int .i64 (selI (okR R0 C0 l0 p0 q0 bl0 rd0 nx0 i1) p0), .int .i64 (selI (okR R0 C0 l0 p0 q0 bl0 rd0 nx0 i1) q0), .int .i64 ((runO R0 C0 l0 p0 q0 bl0 rd0 nx0 i1).bl), .int .i64 ((runO R0 C0 l0 p0 q0 bl0 rd0 nx0 i1).rd), .int .i64 ((runO R0 C0 l0 p0 q0 bl0 rd0 nx0 i1).nx)] 56) = v45 at *
    refine (eqMachine_same _ _ _ _ _ _ _ _ _ _ _ ((runO R0 C0 l0 p0 q0 bl0 rd0 nx0 i1).l) _ (runO_len _ _ _ _ _ _ _ _ _ hn0) Oh0.rd Ow0.rd).mono ?_; rintro e w48 ⟨rfl, b⟩
    replace X0 := X0.below b X0.lt
    replace Ow0 := Ow0.keep b
    replace Zw0 := Zw0.below b Zw0.lt
    replace XX0 := XX0.below b XX0.lt
    replace Og0 := Og0.keep b
    replace Zg0 := Zg0.below b Zg0.lt
    replace Oh0 := Oh0.keep b
    replace Zh0 := Zh0.below b Zh0.lt
    replace B := B.trans (b.mono B.size)
    have s49 : v45.heap.size ≤ w48.heap.size := b.size
    clear b
    have zZg0 : w21.heap.size < w48.heap.size := Zg0.lt
    have kZg00 : w48.cell? ⟨w21.heap.size, 0, none⟩ = some (.int .i64 (selI (okR R0 C0 l0 p0 q0 bl0 rd0 nx0 i1) R0)) := (Zg0.cell 0).trans rfl
    have kZg01 : w48.cell? ⟨w21.heap.size, 1, none⟩ = some (.int .i64 (selI (okR R0 C0 l0 p0 q0 bl0 rd0 nx0 i1) C0)) := (Zg0.cell 1).trans rfl
    have kZg02 : w48.cell? ⟨w21.heap.size, 2, none⟩ = some (.slice Ag0 ((runO R0 C0 l0 p0 q0 bl0 rd0 nx0 i1).l).length cg0) := (Zg0.cell 2).trans rfl
    have kZg03 : w48.cell? ⟨w21.heap.size, 3, none⟩ = some (.int .i64 (selI (okR R0 C0 l0 p0 q0 bl0 rd0 nx0 i1) p0)) := (Zg0.cell 3).trans rfl
    have kZg04 : w48.cell? ⟨w21.heap.size, 4, none⟩ = some (.int .i64 (selI (okR R0 C0 l0 p0 q0 bl0 rd0 nx0 i1) q0)) := (Zg0.cell 4).trans rfl
    have kZg05 : w48.cell? ⟨w21.heap.size, 5, none⟩ = some (.int .i64 ((runO R0 C0 l0 p0 q0 bl0 rd0 nx0 i1).bl)) := (Zg0.cell 5).trans rfl
    have kZg06 : w48.cell? ⟨w21.heap.size, 6, none⟩ = some (.int .i64 ((runO R0 C0 l0 p0 q0 bl0 rd0 nx0 i1).rd)) := (Zg0.cell 6).trans rfl
    have kZg07 : w48.cell? ⟨w21.heap.size, 7, none⟩ = some (.int .i64 ((runO R0 C0 l0 p0 q0 bl0 rd0 nx0 i1).nx)) := (Zg0.cell 7).trans rfl
    go_wp2_with fail
    refine (heldMachine_any _ _ _ _ ((runO R0 C0 l0 p0 q0 bl0 rd0 nx0 i1).l).length _ _ _ _ _ _ _ (runO_len _ _ _ _ _ _ _ _ _ hn0) (by omega) (by omega) Og0).mono ?_; rintro e w50 ⟨rfl, b⟩
    clear zZg0 kZg00 kZg01 kZg02 kZg03 kZg04 kZg05 kZg06 kZg07
    replace X0 := X0.below b X0.lt
    replace Ow0 := Ow0.keep b
    replace Zw0 := Zw0.below b Zw0.lt
    replace XX0 := XX0.below b XX0.lt
    replace Og0 := Og0.keep b
    replace Zg0 := Zg0.below b Zg0.lt
    replace Oh0 := Oh0.keep b
    replace Zh0 := Zh0.below b Zh0.lt
    replace B := B.trans (b.mono B.size)
    have s51 : w48.heap.size ≤ w50.heap.size := b.size
    clear b
    go_wp2
    go_returns
    exact ⟨rfl, B⟩
  · go_enter Try.func6, Try.ntmps6
    have B : Below w.heap.size w w := Below.refl _ _
    go_wp2_with fail
    have b : Below w.heap.size w (w.alloc (.cells #[.int .i64 R0, .int .i64 C0, .slice A0 l0.length cap0, .int .i64 p0, .int .i64 q0, .int .i64 bl0, .int .i64 rd0, .int .i64 nx0] 52)) := (Below.refl _ _).alloc (Nat.le_refl _) _
    have X0 : Whole (w.alloc (.cells #[.int .i64 R0, .int .i64 C0, .slice A0 l0.length cap0, .int .i64 p0, .int .i64 q0, .int .i64 bl0, .int .i64 rd0, .int .i64 nx0] 52)) w.heap.size 52 [.int .i64 R0, .int .i64 C0, .slice A0 l0.length cap0, .int .i64 p0, .int .i64 q0, .int .i64 bl0, .int .i64 rd0, .int .i64 nx0] := heap_alloc_new w _
    have HZ := Lib.hid (show (w.alloc (.cells #[.int .i64 R0, .int .i64 C0, .slice A0 l0.length cap0, .int .i64 p0, .int .i64 q0, .int .i64 bl0, .int .i64 rd0, .int .i64 nx0] 52)).heap.size = w.heap.size + 1 by rw [World.size_alloc])
    replace B := B.trans (b.mono B.size)
    have s2 : w.heap.size ≤ (w.alloc (.cells #[.int .i64 R0, .int .i64 C0, .slice A0 l0.length cap0, .int .i64 p0, .int .i64 q0, .int .i64 bl0, .int .i64 rd0, .int .i64 nx0] 52)).heap.size := b.size
    clear b
    have hiX0 := X0.lt
    generalize w.alloc (.cells #[.int .i64 R0, .int .i64 C0, .slice A0 l0.length cap0, .int .i64 p0, .int .i64 q0, .int .i64 bl0, .int .i64 rd0, .int .i64 nx0] 52) = v1 at *
    have zX0 : w.heap.size < v1.heap.size := X0.lt
    have kX00 : v1.cell? ⟨w.heap.size, 0, none⟩ = some (.int .i64 R0) := (X0.cell 0).trans rfl
    have kX01 : v1.cell? ⟨w.heap.size, 1, none⟩ = some (.int .i64 C0) := (X0.cell 1).trans rfl
    have kX02 : v1.cell? ⟨w.heap.size, 2, none⟩ = some (.slice A0 l0.length cap0) := (X0.cell 2).trans rfl
    have kX03 : v1.cell? ⟨w.heap.size, 3, none⟩ = some (.int .i64 p0) := (X0.cell 3).trans rfl
    have kX04 : v1.cell? ⟨w.heap.size, 4, none⟩ = some (.int .i64 q0) := (X0.cell 4).trans rfl
    have kX05 : v1.cell? ⟨w.heap.size, 5, none⟩ = some (.int .i64 bl0) := (X0.cell 5).trans rfl
    have kX06 : v1.cell? ⟨w.heap.size, 6, none⟩ = some (.int .i64 rd0) := (X0.cell 6).trans rfl
    have kX07 : v1.cell? ⟨w.heap.size, 7, none⟩ = some (.int .i64 nx0) := (X0.cell 7).trans rfl
    go_wp2_with fail
    refine (szMachine_any _ _ _ _ _ _ _ _ _ _ _ _ hm0 (by omega) (by omega)).mono ?_; rintro e w4 ⟨rfl, b⟩
    clear zX0 kX00 kX01 kX02 kX03 kX04 kX05 kX06 kX07
    rw [if_pos (by omega)]
    replace X0 := X0.below b X0.lt
    replace B := B.trans (b.mono B.size)
    have s5 : v1.heap.size ≤ w4.heap.size := b.size
    clear b
    go_wp2
    go_returns
    exact ⟨rfl, B⟩
theorem RunMachine_walk : Walk Try.prog 6 Try.f6 := by
  intro H enc W base args ds ps hA hval
  rw [Try.params6] at hA hval
  obtain ⟨v0, vs0, d0, ds0, p0, q0, hv0, hd0, hp0, h0, r0⟩ := trodAll_cons hA
  obtain ⟨v1, vs1, d1, ds1, p1, q1, hv1, hd1, hp1, h1, r1⟩ := trodAll_cons r0
  obtain ⟨e1, e2, e3⟩ := trodAll_nil r1
  have ha : args = #[v0, v1] := by
    apply Array.toList_inj.1
    rw [hv0, hv1, e1]
  subst ha
  obtain ⟨R0, C0, A0, cap0, l0, m0a, m0b, m0c, m0d, m0e, rfl, hm0, hr0⟩ := open_machine (hval 0 52 v0 rfl rfl) h0
  obtain ⟨i1, rfl, rfl, rfl, wf1⟩ := open_int Try.underlying3 (hval 1 3 v1 rfl rfl) h1
  exact RunMachine_walk0 R0 C0 A0 cap0 l0 m0a m0b m0c m0d m0e i1 W hm0 hr0 wf1
set_option maxRecDepth 100000 in
theorem RunMachine_holds : Rows.FnExactRunMachineSaid :=
  OpenClaim.holds_of_wide 6 Try.f6 rfl rfl rfl rfl rfl rfl rfl ⟨rfl, rfl, rfl, rfl, rfl⟩ rfl rfl rfl rfl rfl (by kernel_rfl) Try.func6 (by kernel_rfl)
    (of_decide_eq_true (by kernel_rfl)) (by unfold Func.isWrapper; first | (rw [if_pos (by decide +kernel)]; kernel_rfl) | (rw [if_neg (by decide +kernel)]; exact ⟨rfl, rfl⟩))
    (fun os started H enc _ => lifted (C := Try.checked) (s := Rows.fnExactRunMachineSpec) started own (by kernel_rfl) Try.func6 ⟨#[], #[.agg #[.int .i64 0, .int .i64 0, .slice none 0 0, .int .i64 0, .int .i64 0, .int .i64 0, .int .i64 0, .int .i64 0], .int .i64 0], []⟩ 8 (by kernel_rfl) (by kernel_rfl) (by kernel_rfl) (by kernel_rfl) (by kernel_rfl)
      laidOut (by kernel_rfl) rfl rfl Try.underlying4 (fun ds h => by
        match ds, h with
        | [d0, d1], _ => exact ⟨rfl, rfl, rfl⟩) RunMachine_walk)
end Go.Proofs.Ytpfjbecpfdgnpaa
