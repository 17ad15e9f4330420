/- For every board and every number, WayOf of the program answers as the model does, keeps its argument, and owns what it hands back. No condition. -/
import Derived.Test.YtoflhjekldlaiaaM1
import Derived.Deep.RegionHeld3
import Derived.Deep.DeepCutAuto
import Derived.Test.YtoflhjekldlaiaaM8
namespace Go.Proofs.Ytoflhjekldlaiaa
open Go.ChangeShapes Go.WideShapes Go.ChangeAt Go.RowKit Go.Joins Go.Deep
set_option linter.unusedSimpArgs false
set_option linter.unusedVariables false
set_option maxRecDepth 100000
set_option maxHeartbeats 4000000 in
theorem WayOf_walk0 (R0 C0 : Int) (A0 : Option Addr) (cap0 : Nat) (l0 : List (Int × Int)) (i1 : Int) (w : World) (hm0 : l0.length ≤ maxLen) (hr0 : Rd w w.heap.size A0 (flat l0)) (wf1 : (Lit.int .i64 i1).wf = true) :
    Calls Try.prog 5 #[.agg #[.int .i64 R0, .int .i64 C0, .slice A0 l0.length cap0], .int .i64 i1] w fun e w' => e = .returned (.bool true) ∧ Below w.heap.size w w' := by
  by_cases ht0 : l0.length ≤ 1048576
  · have hn0 : l0.length ≤ 1048576 := by omega
    go_enter Try.func5, Try.ntmps5
    have B : Below w.heap.size w w := Below.refl _ _
    go_wp2_with fail
    have b : Below w.heap.size w (w.alloc (.cells #[.int .i64 R0, .int .i64 C0, .slice A0 l0.length cap0] 24)) := (Below.refl _ _).alloc (Nat.le_refl _) _
    have X0 : Whole (w.alloc (.cells #[.int .i64 R0, .int .i64 C0, .slice A0 l0.length cap0] 24)) w.heap.size 24 [.int .i64 R0, .int .i64 C0, .slice A0 l0.length cap0] := heap_alloc_new w _
    have HZ := Lib.hid (show (w.alloc (.cells #[.int .i64 R0, .int .i64 C0, .slice A0 l0.length cap0] 24)).heap.size = w.heap.size + 1 by rw [World.size_alloc])
    replace B := B.trans (b.mono B.size)
    have s2 : w.heap.size ≤ (w.alloc (.cells #[.int .i64 R0, .int .i64 C0, .slice A0 l0.length cap0] 24)).heap.size := b.size
    clear b
    have hiX0 := X0.lt
    generalize w.alloc (.cells #[.int .i64 R0, .int .i64 C0, .slice A0 l0.length cap0] 24) = v1 at *
    have zX0 : w.heap.size < v1.heap.size := X0.lt
    have kX00 : v1.cell? ⟨w.heap.size, 0, none⟩ = some (.int .i64 R0) := (X0.cell 0).trans rfl
    have kX01 : v1.cell? ⟨w.heap.size, 1, none⟩ = some (.int .i64 C0) := (X0.cell 1).trans rfl
    have kX02 : v1.cell? ⟨w.heap.size, 2, none⟩ = some (.slice A0 l0.length cap0) := (X0.cell 2).trans rfl
    go_wp2_with fail
    refine (szBoard_any _ _ _ _ _ _ _ hm0 (by omega) (by omega)).mono ?_; rintro e w4 ⟨rfl, b⟩
    clear zX0 kX00 kX01 kX02
    rw [if_neg (by omega)]
    replace X0 := X0.below b X0.lt
    replace B := B.trans (b.mono B.size)
    have s5 : v1.heap.size ≤ w4.heap.size := b.size
    clear b
    have zX0 : w.heap.size < w4.heap.size := X0.lt
    have kX00 : w4.cell? ⟨w.heap.size, 0, none⟩ = some (.int .i64 R0) := (X0.cell 0).trans rfl
    have kX01 : w4.cell? ⟨w.heap.size, 1, none⟩ = some (.int .i64 C0) := (X0.cell 1).trans rfl
    have kX02 : w4.cell? ⟨w.heap.size, 2, none⟩ = some (.slice A0 l0.length cap0) := (X0.cell 2).trans rfl
    go_wp2_with fail
    refine (toBoard_any _ _ _ _ l0 _ hn0 ((hr0.below B).mono B.size)).mono ?_; rintro e w6 ⟨gT0, rfl, t, n, b⟩
    clear zX0 kX00 kX01 kX02
    replace X0 := X0.below b X0.lt
    replace B := B.trans (b.mono B.size)
    have s7 : w4.heap.size ≤ w6.heap.size := b.size
    clear b
    have T0 := t.own
    have loT0 : ∀ a : Addr, (some ⟨gT0, 0, none⟩) = some a → w4.heap.size ≤ a.block := fun a ha => by cases ha; exact n
    have hiT0 : ∀ a : Addr, (some ⟨gT0, 0, none⟩) = some a → 0 < l0.length → a.block < w6.heap.size := fun a ha _ => by cases ha; exact t.lt
    clear t n
    go_wp2_with fail
    refine (spec_WayOfP _ _ _ _ l0 _ _ hn0 (T0.rd) ).mono ?_; rintro e w9 ⟨Aw0, cw0, rfl, Ow0, b⟩
    replace X0 := X0.below b X0.lt
    replace T0 := T0.keep b
    replace B := B.trans (b.mono B.size)
    have s10 : w6.heap.size ≤ w9.heap.size := b.size
    clear b
    have BOw0 : Below w9.heap.size w9 w9 := Below.refl _ _
    clear T0
    have zX0 : w.heap.size < w9.heap.size := X0.lt
    have kX00 : w9.cell? ⟨w.heap.size, 0, none⟩ = some (.int .i64 R0) := (X0.cell 0).trans rfl
    have kX01 : w9.cell? ⟨w.heap.size, 1, none⟩ = some (.int .i64 C0) := (X0.cell 1).trans rfl
    have kX02 : w9.cell? ⟨w.heap.size, 2, none⟩ = some (.slice A0 l0.length cap0) := (X0.cell 2).trans rfl
    go_wp2_with fail
    clear zX0 kX00 kX01 kX02
    refine (toBoard_any _ _ _ _ l0 _ hn0 ((hr0.below B).mono B.size)).mono ?_; rintro e w12 ⟨gO_x0, rfl, t, n, b⟩
    replace X0 := X0.below b X0.lt
    replace BOw0 := BOw0.trans (b.mono BOw0.size)
    replace B := B.trans (b.mono B.size)
    have s13 : w9.heap.size ≤ w12.heap.size := b.size
    clear b
    have O_x0 := t.own
    have loO_x0 : ∀ a : Addr, (some ⟨gO_x0, 0, none⟩) = some a → w9.heap.size ≤ a.block := fun a ha => by cases ha; exact n
    have hiO_x0 : ∀ a : Addr, (some ⟨gO_x0, 0, none⟩) = some a → 0 < l0.length → a.block < w12.heap.size := fun a ha _ => by cases ha; exact t.lt
    clear t n
    go_wp2_with fail
    have b : Below w12.heap.size w12 (w12.alloc (.cells #[.int .i64 R0, .int .i64 C0, .slice (some ⟨gO_x0, 0, none⟩) l0.length l0.length] 32)) := (Below.refl _ _).alloc (Nat.le_refl _) _
    have XX0 : Whole (w12.alloc (.cells #[.int .i64 R0, .int .i64 C0, .slice (some ⟨gO_x0, 0, none⟩) l0.length l0.length] 32)) w12.heap.size 32 [.int .i64 R0, .int .i64 C0, .slice (some ⟨gO_x0, 0, none⟩) l0.length l0.length] := heap_alloc_new w12 _
    replace X0 := X0.below b X0.lt
    replace BOw0 := BOw0.trans (b.mono BOw0.size)
    replace O_x0 := O_x0.keep b
    replace B := B.trans (b.mono B.size)
    have s16 : w12.heap.size ≤ (w12.alloc (.cells #[.int .i64 R0, .int .i64 C0, .slice (some ⟨gO_x0, 0, none⟩) l0.length l0.length] 32)).heap.size := b.size
    clear b
    have hiXX0 := XX0.lt
    generalize w12.alloc (.cells #[.int .i64 R0, .int .i64 C0, .slice (some ⟨gO_x0, 0, none⟩) l0.length l0.length] 32) = v15 at *
    refine (impl_WayOf _ _ _ _ l0 _ _ hn0 (O_x0.rd) ).mono ?_; rintro e w18 ⟨Ag0, cg0, Asg0, csg0, rfl, Og0, b⟩
    replace X0 := X0.below b X0.lt
    replace BOw0 := BOw0.trans (b.mono BOw0.size)
    replace O_x0 := O_x0.keep b
    replace XX0 := XX0.below b XX0.lt
    replace B := B.trans (b.mono B.size)
    have s19 : v15.heap.size ≤ w18.heap.size := b.size
    clear b
    go_wp2_with fail
    refine (eqIntSS_any _ _ _ _ (wayM R0 C0 l0 i1) (wayM R0 C0 l0 i1) _ (wayM_tot R0 C0 l0 i1).1 (wayM_tot R0 C0 l0 i1).1 (wayM_tot R0 C0 l0 i1).2 (wayM_tot R0 C0 l0 i1).2 Og0.rd (Ow0.keep BOw0)).mono ?_; rintro e w21 ⟨rfl, b⟩
    rw [decide_eq_true (rfl : (wayM R0 C0 l0 i1) = (wayM R0 C0 l0 i1))]
    replace X0 := X0.below b X0.lt
    replace BOw0 := BOw0.trans (b.mono BOw0.size)
    replace O_x0 := O_x0.keep b
    replace XX0 := XX0.below b XX0.lt
    replace Og0 := Og0.keep b
    replace B := B.trans (b.mono B.size)
    have s22 : w18.heap.size ≤ w21.heap.size := b.size
    clear b
    have zXX0 : w12.heap.size < w21.heap.size := XX0.lt
    have kXX00 : w21.cell? ⟨w12.heap.size, 0, none⟩ = some (.int .i64 R0) := (XX0.cell 0).trans rfl
    have kXX01 : w21.cell? ⟨w12.heap.size, 1, none⟩ = some (.int .i64 C0) := (XX0.cell 1).trans rfl
    have kXX02 : w21.cell? ⟨w12.heap.size, 2, none⟩ = some (.slice (some ⟨gO_x0, 0, none⟩) l0.length l0.length) := (XX0.cell 2).trans rfl
    have zX0 : w.heap.size < w21.heap.size := X0.lt
    have kX00 : w21.cell? ⟨w.heap.size, 0, none⟩ = some (.int .i64 R0) := (X0.cell 0).trans rfl
    have kX01 : w21.cell? ⟨w.heap.size, 1, none⟩ = some (.int .i64 C0) := (X0.cell 1).trans rfl
    have kX02 : w21.cell? ⟨w.heap.size, 2, none⟩ = some (.slice A0 l0.length cap0) := (X0.cell 2).trans rfl
    go_wp2_with fail
    have hqXX0 : w12.heap.size < w21.heap.size := XX0.lt
    have hqX0 : w.heap.size < w21.heap.size := X0.lt
    go_region_held3 (fun w' => w'.cell? ⟨w12.heap.size, 0, none⟩ = some (.int .i64 R0) ∧ w'.cell? ⟨w12.heap.size, 1, none⟩ = some (.int .i64 C0) ∧ w'.cell? ⟨w12.heap.size, 2, none⟩ = some (.slice (some ⟨gO_x0, 0, none⟩) l0.length l0.length) ∧ w'.cell? ⟨w.heap.size, 0, none⟩ = some (.int .i64 R0) ∧ w'.cell? ⟨w.heap.size, 1, none⟩ = some (.int .i64 C0) ∧ w'.cell? ⟨w.heap.size, 2, none⟩ = some (.slice A0 l0.length cap0))
      (first | exact ⟨kXX00, kXX01, kXX02, kX00, kX01, kX02⟩ | exact ⟨(b.cell (p := ⟨w12.heap.size, 0, none⟩) hqXX0).trans kXX00, (b.cell (p := ⟨w12.heap.size, 1, none⟩) hqXX0).trans kXX01, (b.cell (p := ⟨w12.heap.size, 2, none⟩) hqXX0).trans kXX02, (b.cell (p := ⟨w.heap.size, 0, none⟩) hqX0).trans kX00, (b.cell (p := ⟨w.heap.size, 1, none⟩) hqX0).trans kX01, (b.cell (p := ⟨w.heap.size, 2, none⟩) hqX0).trans kX02⟩ | exact ⟨(b2.cell (p := ⟨w12.heap.size, 0, none⟩) (Nat.lt_of_lt_of_le hqXX0 b.size)).trans ((b.cell (p := ⟨w12.heap.size, 0, none⟩) hqXX0).trans kXX00), (b2.cell (p := ⟨w12.heap.size, 1, none⟩) (Nat.lt_of_lt_of_le hqXX0 b.size)).trans ((b.cell (p := ⟨w12.heap.size, 1, none⟩) hqXX0).trans kXX01), (b2.cell (p := ⟨w12.heap.size, 2, none⟩) (Nat.lt_of_lt_of_le hqXX0 b.size)).trans ((b.cell (p := ⟨w12.heap.size, 2, none⟩) hqXX0).trans kXX02), (b2.cell (p := ⟨w.heap.size, 0, none⟩) (Nat.lt_of_lt_of_le hqX0 b.size)).trans ((b.cell (p := ⟨w.heap.size, 0, none⟩) hqX0).trans kX00), (b2.cell (p := ⟨w.heap.size, 1, none⟩) (Nat.lt_of_lt_of_le hqX0 b.size)).trans ((b.cell (p := ⟨w.heap.size, 1, none⟩) hqX0).trans kX01), (b2.cell (p := ⟨w.heap.size, 2, none⟩) (Nat.lt_of_lt_of_le hqX0 b.size)).trans ((b.cell (p := ⟨w.heap.size, 2, none⟩) hqX0).trans kX02)⟩)
      ((first | (go_at_call 15; refine (toBoard_any _ _ _ _ l0 _ hn0 ((hr0.below B.drew).mono B.size)).mono ?_; rintro e w23a ⟨gq, rfl, t, n, b⟩) | (go_at_call 18; refine (eqBoard_any _ _ _ _ _ _ _ _ l0 l0 _ hn0 hn0 ((O_x0.keep (Below.drew (Below.refl _ _))).keep b).rd t.own.rd).mono ?_; rintro e w23b ⟨rfl, b2⟩; rw [eqB_same])))
    have bb : Below w21.heap.size w21 w23b := ((Below.refl _ _).drew).trans (b.trans (b2.mono b.size))
    clear b b2 t n zXX0 kXX00 kXX01 kXX02 zX0 kX00 kX01 kX02 hqXX0 hqX0
    replace X0 := X0.below bb X0.lt
    replace BOw0 := BOw0.trans (bb.mono BOw0.size)
    replace O_x0 := O_x0.keep bb
    replace XX0 := XX0.below bb XX0.lt
    replace Og0 := Og0.keep bb
    replace B := B.trans (bb.mono B.size)
    have s24 : w21.heap.size ≤ w23b.heap.size := bb.size
    clear bb
    have zXX0 : w12.heap.size < w23b.heap.size := XX0.lt
    have kXX00 : w23b.cell? ⟨w12.heap.size, 0, none⟩ = some (.int .i64 R0) := (XX0.cell 0).trans rfl
    have kXX01 : w23b.cell? ⟨w12.heap.size, 1, none⟩ = some (.int .i64 C0) := (XX0.cell 1).trans rfl
    have kXX02 : w23b.cell? ⟨w12.heap.size, 2, none⟩ = some (.slice (some ⟨gO_x0, 0, none⟩) l0.length l0.length) := (XX0.cell 2).trans rfl
    go_wp2_with fail
    refine (markBoard_n _ _ _ _ l0.length (flat l0) _ _ (flat_length _) hn0 (by omega) (by omega) O_x0).mono ?_; rintro e w25 ⟨rfl, o, b⟩
    clear zXX0 kXX00 kXX01 kXX02
    replace X0 := X0.fx b (fun hp a ha => own_apart O_x0 X0 (by decide) (pos_flat hp) ha)
    replace BOw0 := BOw0.trans (b.below BOw0.size (fun a ha => by have h1 := loO_x0 a ha; omega))
    replace XX0 := XX0.fx b (fun hp a ha => own_apart O_x0 XX0 (by decide) (pos_flat hp) ha)
    replace Og0 := Og0.fx b (fun hp a ha => by have h1 := hiO_x0 a ha hp; omega)
    replace B := B.trans (b.below B.size (fun a ha => by have h1 := loO_x0 a ha; omega))
    have s26 : w23b.heap.size ≤ w25.heap.size := b.size
    clear b
    replace O_x0 := o
    clear O_x0
    go_wp2_with fail
    refine (eqIntSS_any _ _ _ _ (wayM R0 C0 l0 i1) (wayM R0 C0 l0 i1) _ (wayM_tot R0 C0 l0 i1).1 (wayM_tot R0 C0 l0 i1).1 (wayM_tot R0 C0 l0 i1).2 (wayM_tot R0 C0 l0 i1).2 Og0.rd (Ow0.keep BOw0)).mono ?_; rintro e w27 ⟨rfl, b⟩
    rw [decide_eq_true (rfl : (wayM R0 C0 l0 i1) = (wayM R0 C0 l0 i1))]
    replace X0 := X0.below b X0.lt
    replace BOw0 := BOw0.trans (b.mono BOw0.size)
    replace XX0 := XX0.below b XX0.lt
    replace Og0 := Og0.keep b
    replace B := B.trans (b.mono B.size)
    have s28 : w25.heap.size ≤ w27.heap.size := b.size
    clear b
    go_wp2_with fail
    have hbase : v15.heap.size ≤ w27.heap.size := by omega
    refine (markIntSS_any _ _ _ _ (wayM R0 C0 l0 i1) _ (v15.heap.size) _ (wayM_tot R0 C0 l0 i1).1 (wayM_tot R0 C0 l0 i1).2 (by omega) (by omega) hbase Og0).mono ?_; rintro e w29 ⟨rfl, o, b⟩
    replace X0 := X0.below b (by omega)
    replace BOw0 := BOw0.trans (b.mono (by omega))
    replace XX0 := XX0.below b (by omega)
    replace B := B.trans (b.mono (by omega))
    have s30 : w27.heap.size ≤ w29.heap.size := b.size
    clear b
    clear hbase
    replace Og0 := o
    go_wp2_with fail
    refine (heldIntSS_any _ _ _ _ (wayM R0 C0 l0 i1) _ _ _ (wayM_tot R0 C0 l0 i1).1 (wayM_tot R0 C0 l0 i1).2 (by omega) (by omega) Og0).mono ?_; rintro e w31 ⟨rfl, rfl⟩
    have zX0 : w.heap.size < w29.heap.size := X0.lt
    have kX00 : w29.cell? ⟨w.heap.size, 0, none⟩ = some (.int .i64 R0) := (X0.cell 0).trans rfl
    have kX01 : w29.cell? ⟨w.heap.size, 1, none⟩ = some (.int .i64 C0) := (X0.cell 1).trans rfl
    have kX02 : w29.cell? ⟨w.heap.size, 2, none⟩ = some (.slice A0 l0.length cap0) := (X0.cell 2).trans rfl
    go_wp2_with fail
    refine (toBoard_any _ _ _ _ l0 _ hn0 ((hr0.below B).mono B.size)).mono ?_; rintro e w32 ⟨gT0, rfl, t, n, b⟩
    clear zX0 kX00 kX01 kX02
    replace X0 := X0.below b X0.lt
    replace BOw0 := BOw0.trans (b.mono BOw0.size)
    replace XX0 := XX0.below b XX0.lt
    replace Og0 := Og0.keep b
    replace B := B.trans (b.mono B.size)
    have s33 : w29.heap.size ≤ w32.heap.size := b.size
    clear b
    have T0 := t.own
    have loT0 : ∀ a : Addr, (some ⟨gT0, 0, none⟩) = some a → w29.heap.size ≤ a.block := fun a ha => by cases ha; exact n
    have hiT0 : ∀ a : Addr, (some ⟨gT0, 0, none⟩) = some a → 0 < l0.length → a.block < w32.heap.size := fun a ha _ => by cases ha; exact t.lt
    clear t n
    go_wp2_with fail
    refine (impl_WayOf _ _ _ _ l0 _ _ hn0 (T0.rd) ).mono ?_; rintro e w35 ⟨Ah0, ch0, Ash0, csh0, rfl, Oh0, b⟩
    replace X0 := X0.below b X0.lt
    replace BOw0 := BOw0.trans (b.mono BOw0.size)
    replace XX0 := XX0.below b XX0.lt
    replace Og0 := Og0.keep b
    replace T0 := T0.keep b
    replace B := B.trans (b.mono B.size)
    have s36 : w32.heap.size ≤ w35.heap.size := b.size
    clear b
    clear T0
    go_wp2_with fail
    refine (eqIntSS_any _ _ _ _ (wayM R0 C0 l0 i1) (wayM R0 C0 l0 i1) _ (wayM_tot R0 C0 l0 i1).1 (wayM_tot R0 C0 l0 i1).1 (wayM_tot R0 C0 l0 i1).2 (wayM_tot R0 C0 l0 i1).2 Oh0.rd (Ow0.keep BOw0)).mono ?_; rintro e w38 ⟨rfl, b⟩
    rw [decide_eq_true (rfl : (wayM R0 C0 l0 i1) = (wayM R0 C0 l0 i1))]
    replace X0 := X0.below b X0.lt
    replace BOw0 := BOw0.trans (b.mono BOw0.size)
    replace XX0 := XX0.below b XX0.lt
    replace Og0 := Og0.keep b
    replace Oh0 := Oh0.keep b
    replace B := B.trans (b.mono B.size)
    have s39 : w35.heap.size ≤ w38.heap.size := b.size
    clear b
    go_wp2_with fail
    refine (heldIntSS_any _ _ _ _ (wayM R0 C0 l0 i1) _ _ _ (wayM_tot R0 C0 l0 i1).1 (wayM_tot R0 C0 l0 i1).2 (by omega) (by omega) Og0).mono ?_; rintro e w40 ⟨rfl, rfl⟩
    go_wp2
    go_returns
    exact ⟨rfl, B⟩
  · go_enter Try.func5, Try.ntmps5
    have B : Below w.heap.size w w := Below.refl _ _
    go_wp2_with fail
    have b : Below w.heap.size w (w.alloc (.cells #[.int .i64 R0, .int .i64 C0, .slice A0 l0.length cap0] 24)) := (Below.refl _ _).alloc (Nat.le_refl _) _
    have X0 : Whole (w.alloc (.cells #[.int .i64 R0, .int .i64 C0, .slice A0 l0.length cap0] 24)) w.heap.size 24 [.int .i64 R0, .int .i64 C0, .slice A0 l0.length cap0] := heap_alloc_new w _
    have HZ := Lib.hid (show (w.alloc (.cells #[.int .i64 R0, .int .i64 C0, .slice A0 l0.length cap0] 24)).heap.size = w.heap.size + 1 by rw [World.size_alloc])
    replace B := B.trans (b.mono B.size)
    have s2 : w.heap.size ≤ (w.alloc (.cells #[.int .i64 R0, .int .i64 C0, .slice A0 l0.length cap0] 24)).heap.size := b.size
    clear b
    have hiX0 := X0.lt
    generalize w.alloc (.cells #[.int .i64 R0, .int .i64 C0, .slice A0 l0.length cap0] 24) = v1 at *
    have zX0 : w.heap.size < v1.heap.size := X0.lt
    have kX00 : v1.cell? ⟨w.heap.size, 0, none⟩ = some (.int .i64 R0) := (X0.cell 0).trans rfl
    have kX01 : v1.cell? ⟨w.heap.size, 1, none⟩ = some (.int .i64 C0) := (X0.cell 1).trans rfl
    have kX02 : v1.cell? ⟨w.heap.size, 2, none⟩ = some (.slice A0 l0.length cap0) := (X0.cell 2).trans rfl
    go_wp2_with fail
    refine (szBoard_any _ _ _ _ _ _ _ hm0 (by omega) (by omega)).mono ?_; rintro e w4 ⟨rfl, b⟩
    clear zX0 kX00 kX01 kX02
    rw [if_pos (by omega)]
    replace X0 := X0.below b X0.lt
    replace B := B.trans (b.mono B.size)
    have s5 : v1.heap.size ≤ w4.heap.size := b.size
    clear b
    go_wp2
    go_returns
    exact ⟨rfl, B⟩
theorem WayOf_walk : Walk Try.prog 5 Try.f5 := by
  intro H enc W base args ds ps hA hval
  rw [Try.params5] at hA hval
  obtain ⟨v0, vs0, d0, ds0, p0, q0, hv0, hd0, hp0, h0, r0⟩ := trodAll_cons hA
  obtain ⟨v1, vs1, d1, ds1, p1, q1, hv1, hd1, hp1, h1, r1⟩ := trodAll_cons r0
  obtain ⟨e1, e2, e3⟩ := trodAll_nil r1
  have ha : args = #[v0, v1] := by
    apply Array.toList_inj.1
    rw [hv0, hv1, e1]
  subst ha
  obtain ⟨R0, C0, A0, cap0, l0, rfl, hm0, hr0, -, -⟩ := open_board (hval 0 24 v0 rfl rfl) h0
  obtain ⟨i1, rfl, rfl, rfl, wf1⟩ := open_int Try.underlying3 (hval 1 3 v1 rfl rfl) h1
  exact WayOf_walk0 R0 C0 A0 cap0 l0 i1 W hm0 hr0 wf1
set_option maxRecDepth 100000 in
theorem WayOf_holds : Rows.FnExactWayOfSaid :=
  OpenClaim.holds_of_wide 5 Try.f5 rfl rfl rfl rfl rfl rfl rfl ⟨rfl, rfl, rfl, rfl, rfl⟩ rfl rfl rfl rfl rfl (by kernel_rfl) Try.func5 (by kernel_rfl)
    (of_decide_eq_true (by kernel_rfl)) (by unfold Func.isWrapper; first | (rw [if_pos (by decide +kernel)]; kernel_rfl) | (rw [if_neg (by decide +kernel)]; exact ⟨rfl, rfl⟩))
    (fun os started H enc _ => lifted (C := Try.checked) (s := Rows.fnExactWayOfSpec) started own (by kernel_rfl) Try.func5 ⟨#[], #[.agg #[.int .i64 0, .int .i64 0, .slice none 0 0], .int .i64 0], []⟩ 8 (by kernel_rfl) (by kernel_rfl) (by kernel_rfl) (by kernel_rfl) (by kernel_rfl)
      laidOut (by kernel_rfl) rfl rfl Try.underlying4 (fun ds h => by
        match ds, h with
        | [d0, d1], _ => exact ⟨rfl, rfl, rfl⟩) WayOf_walk)
end Go.Proofs.Ytoflhjekldlaiaa
