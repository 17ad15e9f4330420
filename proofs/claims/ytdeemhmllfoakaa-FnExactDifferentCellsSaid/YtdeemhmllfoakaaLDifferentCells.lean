/- For every two boards, DifferentCells of the program answers as the model does, keeps its arguments, and owns what it hands back. No condition. -/
import Derived.Test.YtdeemhmllfoakaaOpen
import Derived.Test.YtdeemhmllfoakaaMark
import Derived.Deep.RegionHeld3
import Derived.Deep.DeepCutAuto
import Derived.Test.YtdeemhmllfoakaaDiffer
namespace Go.Proofs.Ytdeemhmllfoakaa
open Go.ChangeShapes Go.WideShapes Go.ChangeAt Go.RowKit Go.Joins Go.Deep
set_option linter.unusedSimpArgs false
set_option linter.unusedVariables false
set_option maxRecDepth 100000
set_option maxHeartbeats 4000000 in
theorem DifferentCells_walk0 (R0 C0 : Int) (A0 : Option Addr) (cap0 : Nat) (l0 : List (Int × Int)) (R1 C1 : Int) (A1 : Option Addr) (cap1 : Nat) (l1 : List (Int × Int)) (w : World) (hm0 : l0.length ≤ maxLen) (hr0 : Rd w w.heap.size A0 (flat l0)) (hm1 : l1.length ≤ maxLen) (hr1 : Rd w w.heap.size A1 (flat l1)) :
    Calls Try.prog 9 #[.agg #[.int .i64 R0, .int .i64 C0, .slice A0 l0.length cap0], .agg #[.int .i64 R1, .int .i64 C1, .slice A1 l1.length cap1]] w fun e w' => e = .returned (.bool true) ∧ Below w.heap.size w w' := by
  by_cases ht0 : l0.length ≤ 1048576
  · have hn0 : l0.length ≤ 1048576 := by omega
    by_cases ht1 : l0.length + l1.length ≤ 1048576
    · have hn1 : l1.length ≤ 1048576 := by omega
      go_enter Try.func9, Try.ntmps9
      have B : Below w.heap.size w w := Below.refl _ _
      go_wp2_with fail
      have b : Below w.heap.size w (w.alloc (.cells #[.int .i64 R0, .int .i64 C0, .slice A0 l0.length cap0] 24)) := (Below.refl _ _).alloc (Nat.le_refl _) _
      have X0 : Whole (w.alloc (.cells #[.int .i64 R0, .int .i64 C0, .slice A0 l0.length cap0] 24)) w.heap.size 24 [.int .i64 R0, .int .i64 C0, .slice A0 l0.length cap0] := heap_alloc_new w _
      have HZ := Lib.hid (show (w.alloc (.cells #[.int .i64 R0, .int .i64 C0, .slice A0 l0.length cap0] 24)).heap.size = w.heap.size + 1 by rw [World.size_alloc])
      replace B := B.trans (b.mono B.size)
      have s2 : w.heap.size ≤ (w.alloc (.cells #[.int .i64 R0, .int .i64 C0, .slice A0 l0.length cap0] 24)).heap.size := b.size
      clear b
      have hiX0 := X0.lt
      generalize w.alloc (.cells #[.int .i64 R0, .int .i64 C0, .slice A0 l0.length cap0] 24) = v1 at *
      have b : Below v1.heap.size v1 (v1.alloc (.cells #[.int .i64 R1, .int .i64 C1, .slice A1 l1.length cap1] 24)) := (Below.refl _ _).alloc (Nat.le_refl _) _
      have X1 : Whole (v1.alloc (.cells #[.int .i64 R1, .int .i64 C1, .slice A1 l1.length cap1] 24)) (w.heap.size + 1) 24 [.int .i64 R1, .int .i64 C1, .slice A1 l1.length cap1] := by have h := heap_alloc_new v1 (.cells #[.int .i64 R1, .int .i64 C1, .slice A1 l1.length cap1] 24); rw [HZ.out] at h; exact h
      have HZ := Lib.hid (show (v1.alloc (.cells #[.int .i64 R1, .int .i64 C1, .slice A1 l1.length cap1] 24)).heap.size = w.heap.size + 2 by rw [World.size_alloc, HZ.out])
      replace X0 := X0.below b X0.lt
      replace B := B.trans (b.mono B.size)
      have s5 : v1.heap.size ≤ (v1.alloc (.cells #[.int .i64 R1, .int .i64 C1, .slice A1 l1.length cap1] 24)).heap.size := b.size
      clear b
      have hiX1 := X1.lt
      generalize v1.alloc (.cells #[.int .i64 R1, .int .i64 C1, .slice A1 l1.length cap1] 24) = v4 at *
      have zX0 : w.heap.size < v4.heap.size := X0.lt
      have kX00 : v4.cell? ⟨w.heap.size, 0, none⟩ = some (.int .i64 R0) := (X0.cell 0).trans rfl
      have kX01 : v4.cell? ⟨w.heap.size, 1, none⟩ = some (.int .i64 C0) := (X0.cell 1).trans rfl
      have kX02 : v4.cell? ⟨w.heap.size, 2, none⟩ = some (.slice A0 l0.length cap0) := (X0.cell 2).trans rfl
      go_wp2_with fail
      refine (szBoard_any _ _ _ _ _ _ _ hm0 (by omega) (by omega)).mono ?_; rintro e w7 ⟨rfl, b⟩
      clear zX0 kX00 kX01 kX02
      rw [if_neg (by omega)]
      replace X0 := X0.below b X0.lt
      replace X1 := X1.below b X1.lt
      replace B := B.trans (b.mono B.size)
      have s8 : v4.heap.size ≤ w7.heap.size := b.size
      clear b
      have zX1 : (w.heap.size + 1) < w7.heap.size := X1.lt
      have kX10 : w7.cell? ⟨(w.heap.size + 1), 0, none⟩ = some (.int .i64 R1) := (X1.cell 0).trans rfl
      have kX11 : w7.cell? ⟨(w.heap.size + 1), 1, none⟩ = some (.int .i64 C1) := (X1.cell 1).trans rfl
      have kX12 : w7.cell? ⟨(w.heap.size + 1), 2, none⟩ = some (.slice A1 l1.length cap1) := (X1.cell 2).trans rfl
      go_wp2_with fail
      refine (szBoard_any _ _ _ _ _ _ _ hm1 (by omega) (by omega)).mono ?_; rintro e w9 ⟨rfl, b⟩
      clear zX1 kX10 kX11 kX12
      rw [if_neg (by omega)]
      replace X0 := X0.below b X0.lt
      replace X1 := X1.below b X1.lt
      replace B := B.trans (b.mono B.size)
      have s10 : w7.heap.size ≤ w9.heap.size := b.size
      clear b
      have zX0 : w.heap.size < w9.heap.size := X0.lt
      have kX00 : w9.cell? ⟨w.heap.size, 0, none⟩ = some (.int .i64 R0) := (X0.cell 0).trans rfl
      have kX01 : w9.cell? ⟨w.heap.size, 1, none⟩ = some (.int .i64 C0) := (X0.cell 1).trans rfl
      have kX02 : w9.cell? ⟨w.heap.size, 2, none⟩ = some (.slice A0 l0.length cap0) := (X0.cell 2).trans rfl
      have zX1 : (w.heap.size + 1) < w9.heap.size := X1.lt
      have kX10 : w9.cell? ⟨(w.heap.size + 1), 0, none⟩ = some (.int .i64 R1) := (X1.cell 0).trans rfl
      have kX11 : w9.cell? ⟨(w.heap.size + 1), 1, none⟩ = some (.int .i64 C1) := (X1.cell 1).trans rfl
      have kX12 : w9.cell? ⟨(w.heap.size + 1), 2, none⟩ = some (.slice A1 l1.length cap1) := (X1.cell 2).trans rfl
      go_wp2_with fail
      have hqX0 : w.heap.size < w9.heap.size := X0.lt
      have hqX1 : (w.heap.size + 1) < w9.heap.size := X1.lt
      have KS := Lib.hid (fun (w' : World) (h : Below w9.heap.size w9 w') => (⟨(h.cell (p := ⟨w.heap.size, 0, none⟩) hqX0).trans kX00, (h.cell (p := ⟨w.heap.size, 1, none⟩) hqX0).trans kX01, (h.cell (p := ⟨w.heap.size, 2, none⟩) hqX0).trans kX02, (h.cell (p := ⟨(w.heap.size + 1), 0, none⟩) hqX1).trans kX10, (h.cell (p := ⟨(w.heap.size + 1), 1, none⟩) hqX1).trans kX11, (h.cell (p := ⟨(w.heap.size + 1), 2, none⟩) hqX1).trans kX12⟩ : w'.cell? ⟨w.heap.size, 0, none⟩ = some (.int .i64 R0) ∧ w'.cell? ⟨w.heap.size, 1, none⟩ = some (.int .i64 C0) ∧ w'.cell? ⟨w.heap.size, 2, none⟩ = some (.slice A0 l0.length cap0) ∧ w'.cell? ⟨(w.heap.size + 1), 0, none⟩ = some (.int .i64 R1) ∧ w'.cell? ⟨(w.heap.size + 1), 1, none⟩ = some (.int .i64 C1) ∧ w'.cell? ⟨(w.heap.size + 1), 2, none⟩ = some (.slice A1 l1.length cap1)))
      go_region_held3 (fun w' => w'.cell? ⟨w.heap.size, 0, none⟩ = some (.int .i64 R0) ∧ w'.cell? ⟨w.heap.size, 1, none⟩ = some (.int .i64 C0) ∧ w'.cell? ⟨w.heap.size, 2, none⟩ = some (.slice A0 l0.length cap0) ∧ w'.cell? ⟨(w.heap.size + 1), 0, none⟩ = some (.int .i64 R1) ∧ w'.cell? ⟨(w.heap.size + 1), 1, none⟩ = some (.int .i64 C1) ∧ w'.cell? ⟨(w.heap.size + 1), 2, none⟩ = some (.slice A1 l1.length cap1)) (exact KS.out _ (by (repeat' (first | (with_reducible exact Below.refl _ _) | (with_reducible assumption) | (with_reducible refine Below.alloc ?_ ?_ _) | (with_reducible refine Below.setCell ?_ ?_ _) | (with_reducible refine Below.drew ?_) | (with_reducible refine below_drewN ?_ _) | (with_reducible refine Below.trans ?_ (Below.mono (by assumption) ?_)) | (with_reducible exact Nat.le_refl _) | (simp; done) | omega | (simp at *; omega))))) ((first | (go_at_call 17; (with_reducible refine (toBoard_any _ _ A0 cap0 l0 _ hn0 ?_).mono ?_); (focus exact (hr0.below (B.trans ((by (repeat' (first | (with_reducible exact Below.refl _ _) | (with_reducible assumption) | (with_reducible refine Below.alloc ?_ ?_ _) | (with_reducible refine Below.setCell ?_ ?_ _) | (with_reducible refine Below.drew ?_) | (with_reducible refine below_drewN ?_ _) | (with_reducible refine Below.trans ?_ (Below.mono (by assumption) ?_)) | (with_reducible exact Nat.le_refl _) | (simp; done) | omega | (simp at *; omega))) : Below w9.heap.size w9 _).mono B.size))).mono (Nat.le_trans B.size (by (repeat' (first | (with_reducible exact Below.refl _ _) | (with_reducible assumption) | (with_reducible refine Below.alloc ?_ ?_ _) | (with_reducible refine Below.setCell ?_ ?_ _) | (with_reducible refine Below.drew ?_) | (with_reducible refine below_drewN ?_ _) | (with_reducible refine Below.trans ?_ (Below.mono (by assumption) ?_)) | (with_reducible exact Nat.le_refl _) | (simp; done) | omega | (simp at *; omega))) : Below w9.heap.size w9 _).size)); rintro e w11_0 ⟨gT0, rfl, tT0, nT0, bT0⟩; have sT0 : w9.heap.size ≤ w11_0.heap.size := (by (repeat' (first | (with_reducible exact Below.refl _ _) | (with_reducible assumption) | (with_reducible refine Below.alloc ?_ ?_ _) | (with_reducible refine Below.setCell ?_ ?_ _) | (with_reducible refine Below.drew ?_) | (with_reducible refine below_drewN ?_ _) | (with_reducible refine Below.trans ?_ (Below.mono (by assumption) ?_)) | (with_reducible exact Nat.le_refl _) | (simp; done) | omega | (simp at *; omega))) : Below w9.heap.size w9 w11_0).size) | (go_at_call 17; (with_reducible refine (toBoard_any _ _ A1 cap1 l1 _ hn1 ?_).mono ?_); (focus exact (hr1.below (B.trans ((by (repeat' (first | (with_reducible exact Below.refl _ _) | (with_reducible assumption) | (with_reducible refine Below.alloc ?_ ?_ _) | (with_reducible refine Below.setCell ?_ ?_ _) | (with_reducible refine Below.drew ?_) | (with_reducible refine below_drewN ?_ _) | (with_reducible refine Below.trans ?_ (Below.mono (by assumption) ?_)) | (with_reducible exact Nat.le_refl _) | (simp; done) | omega | (simp at *; omega))) : Below w9.heap.size w9 _).mono B.size))).mono (Nat.le_trans B.size (by (repeat' (first | (with_reducible exact Below.refl _ _) | (with_reducible assumption) | (with_reducible refine Below.alloc ?_ ?_ _) | (with_reducible refine Below.setCell ?_ ?_ _) | (with_reducible refine Below.drew ?_) | (with_reducible refine below_drewN ?_ _) | (with_reducible refine Below.trans ?_ (Below.mono (by assumption) ?_)) | (with_reducible exact Nat.le_refl _) | (simp; done) | omega | (simp at *; omega))) : Below w9.heap.size w9 _).size)); rintro e w11_1 ⟨gT1, rfl, tT1, nT1, bT1⟩; have sT1 : w9.heap.size ≤ w11_1.heap.size := (by (repeat' (first | (with_reducible exact Below.refl _ _) | (with_reducible assumption) | (with_reducible refine Below.alloc ?_ ?_ _) | (with_reducible refine Below.setCell ?_ ?_ _) | (with_reducible refine Below.drew ?_) | (with_reducible refine below_drewN ?_ _) | (with_reducible refine Below.trans ?_ (Below.mono (by assumption) ?_)) | (with_reducible exact Nat.le_refl _) | (simp; done) | omega | (simp at *; omega))) : Below w9.heap.size w9 w11_1).size) | (go_at_call 37; (with_reducible refine (spec_DifferentCells _ _ _ _ l0 _ _ _ _ l1 _ hn0 ?_ hn1 ?_).mono ?_); (focus exact (tT0.below (by (repeat' (first | (with_reducible exact Below.refl _ _) | (with_reducible assumption) | (with_reducible refine Below.alloc ?_ ?_ _) | (with_reducible refine Below.setCell ?_ ?_ _) | (with_reducible refine Below.drew ?_) | (with_reducible refine below_drewN ?_ _) | (with_reducible refine Below.trans ?_ (Below.mono (by assumption) ?_)) | (with_reducible exact Nat.le_refl _) | (simp; done) | omega | (simp at *; omega))) : Below w11_0.heap.size _ _) (by first | exact (tT0).lt | (have h1 := (tT0).lt; omega))).own.rd); (focus exact (tT1.below (by (repeat' (first | (with_reducible exact Below.refl _ _) | (with_reducible assumption) | (with_reducible refine Below.alloc ?_ ?_ _) | (with_reducible refine Below.setCell ?_ ?_ _) | (with_reducible refine Below.drew ?_) | (with_reducible refine below_drewN ?_ _) | (with_reducible refine Below.trans ?_ (Below.mono (by assumption) ?_)) | (with_reducible exact Nat.le_refl _) | (simp; done) | omega | (simp at *; omega))) : Below w11_1.heap.size _ _) (by first | exact (tT1).lt | (have h1 := (tT1).lt; omega))).own.rd); rintro e w11_f ⟨Aw0, cw0, rfl, Ow0, loOw0, b⟩)))
      have bb : Below w9.heap.size w9 w11_f := by (repeat' (first | (with_reducible exact Below.refl _ _) | (with_reducible assumption) | (with_reducible refine Below.alloc ?_ ?_ _) | (with_reducible refine Below.setCell ?_ ?_ _) | (with_reducible refine Below.drew ?_) | (with_reducible refine below_drewN ?_ _) | (with_reducible refine Below.trans ?_ (Below.mono (by assumption) ?_)) | (with_reducible exact Nat.le_refl _) | (simp; done) | omega | (simp at *; omega)))
      replace loOw0 : New w9 Aw0 := loOw0.mono (by (repeat' (first | (with_reducible exact Below.refl _ _) | (with_reducible assumption) | (with_reducible refine Below.alloc ?_ ?_ _) | (with_reducible refine Below.setCell ?_ ?_ _) | (with_reducible refine Below.drew ?_) | (with_reducible refine below_drewN ?_ _) | (with_reducible refine Below.trans ?_ (Below.mono (by assumption) ?_)) | (with_reducible exact Nat.le_refl _) | (simp; done) | omega | (simp at *; omega))) : Below w9.heap.size w9 _).size
      clear KS b bT0 sT0 bT1 sT1 tT0 nT0 tT1 nT1 zX0 kX00 kX01 kX02 zX1 kX10 kX11 kX12 hqX0 hqX1
      replace X0 := X0.below bb X0.lt
      replace X1 := X1.below bb X1.lt
      replace B := B.trans (bb.mono B.size)
      have s12 : w9.heap.size ≤ w11_f.heap.size := bb.size
      clear bb
      have hiOw0 : ∀ a : Addr, Aw0 = some a → 0 < (diffB R0 C0 l0 R1 C1 l1).length → a.block < w11_f.heap.size := fun a ha hx => Ow0.lt (pos_ints hx) ha
      have zX0 : w.heap.size < w11_f.heap.size := X0.lt
      have kX00 : w11_f.cell? ⟨w.heap.size, 0, none⟩ = some (.int .i64 R0) := (X0.cell 0).trans rfl
      have kX01 : w11_f.cell? ⟨w.heap.size, 1, none⟩ = some (.int .i64 C0) := (X0.cell 1).trans rfl
      have kX02 : w11_f.cell? ⟨w.heap.size, 2, none⟩ = some (.slice A0 l0.length cap0) := (X0.cell 2).trans rfl
      have zX1 : (w.heap.size + 1) < w11_f.heap.size := X1.lt
      have kX10 : w11_f.cell? ⟨(w.heap.size + 1), 0, none⟩ = some (.int .i64 R1) := (X1.cell 0).trans rfl
      have kX11 : w11_f.cell? ⟨(w.heap.size + 1), 1, none⟩ = some (.int .i64 C1) := (X1.cell 1).trans rfl
      have kX12 : w11_f.cell? ⟨(w.heap.size + 1), 2, none⟩ = some (.slice A1 l1.length cap1) := (X1.cell 2).trans rfl
      go_wp2_with fail
      clear zX0 kX00 kX01 kX02 zX1 kX10 kX11 kX12
      refine (toBoard_any _ _ _ _ l0 _ hn0 ((hr0.below B).mono B.size)).mono ?_; rintro e w14 ⟨gO_x0, rfl, t, n, b⟩
      replace X0 := X0.below b X0.lt
      replace X1 := X1.below b X1.lt
      replace Ow0 := Ow0.keep b
      replace B := B.trans (b.mono B.size)
      have s15 : w11_f.heap.size ≤ w14.heap.size := b.size
      clear b
      have O_x0 := t.own
      have loO_x0 : ∀ a : Addr, (some ⟨gO_x0, 0, none⟩) = some a → w11_f.heap.size ≤ a.block := fun a ha => by cases ha; exact n
      have hiO_x0 : ∀ a : Addr, (some ⟨gO_x0, 0, none⟩) = some a → 0 < l0.length → a.block < w14.heap.size := fun a ha _ => by cases ha; exact t.lt
      clear t n
      have zX0 : w.heap.size < w14.heap.size := X0.lt
      have kX00 : w14.cell? ⟨w.heap.size, 0, none⟩ = some (.int .i64 R0) := (X0.cell 0).trans rfl
      have kX01 : w14.cell? ⟨w.heap.size, 1, none⟩ = some (.int .i64 C0) := (X0.cell 1).trans rfl
      have kX02 : w14.cell? ⟨w.heap.size, 2, none⟩ = some (.slice A0 l0.length cap0) := (X0.cell 2).trans rfl
      have zX1 : (w.heap.size + 1) < w14.heap.size := X1.lt
      have kX10 : w14.cell? ⟨(w.heap.size + 1), 0, none⟩ = some (.int .i64 R1) := (X1.cell 0).trans rfl
      have kX11 : w14.cell? ⟨(w.heap.size + 1), 1, none⟩ = some (.int .i64 C1) := (X1.cell 1).trans rfl
      have kX12 : w14.cell? ⟨(w.heap.size + 1), 2, none⟩ = some (.slice A1 l1.length cap1) := (X1.cell 2).trans rfl
      go_wp2_with fail
      clear zX0 kX00 kX01 kX02 zX1 kX10 kX11 kX12
      have b : Below w14.heap.size w14 (w14.alloc (.cells #[.int .i64 R0, .int .i64 C0, .slice (some ⟨gO_x0, 0, none⟩) l0.length l0.length] 29)) := (Below.refl _ _).alloc (Nat.le_refl _) _
      have XX0 : Whole (w14.alloc (.cells #[.int .i64 R0, .int .i64 C0, .slice (some ⟨gO_x0, 0, none⟩) l0.length l0.length] 29)) w14.heap.size 29 [.int .i64 R0, .int .i64 C0, .slice (some ⟨gO_x0, 0, none⟩) l0.length l0.length] := heap_alloc_new w14 _
      replace X0 := X0.below b X0.lt
      replace X1 := X1.below b X1.lt
      replace Ow0 := Ow0.keep b
      replace O_x0 := O_x0.keep b
      replace B := B.trans (b.mono B.size)
      have s18 : w14.heap.size ≤ (w14.alloc (.cells #[.int .i64 R0, .int .i64 C0, .slice (some ⟨gO_x0, 0, none⟩) l0.length l0.length] 29)).heap.size := b.size
      clear b
      have hiXX0 := XX0.lt
      generalize w14.alloc (.cells #[.int .i64 R0, .int .i64 C0, .slice (some ⟨gO_x0, 0, none⟩) l0.length l0.length] 29) = v17 at *
      refine (toBoard_any _ _ _ _ l1 _ hn1 ((hr1.below B).mono B.size)).mono ?_; rintro e w20 ⟨gO_x1, rfl, t, n, b⟩
      replace X0 := X0.below b X0.lt
      replace X1 := X1.below b X1.lt
      replace Ow0 := Ow0.keep b
      replace O_x0 := O_x0.keep b
      replace XX0 := XX0.below b XX0.lt
      replace B := B.trans (b.mono B.size)
      have s21 : v17.heap.size ≤ w20.heap.size := b.size
      clear b
      have O_x1 := t.own
      have loO_x1 : ∀ a : Addr, (some ⟨gO_x1, 0, none⟩) = some a → v17.heap.size ≤ a.block := fun a ha => by cases ha; exact n
      have hiO_x1 : ∀ a : Addr, (some ⟨gO_x1, 0, none⟩) = some a → 0 < l1.length → a.block < w20.heap.size := fun a ha _ => by cases ha; exact t.lt
      clear t n
      have zXX0 : w14.heap.size < w20.heap.size := XX0.lt
      have kXX00 : w20.cell? ⟨w14.heap.size, 0, none⟩ = some (.int .i64 R0) := (XX0.cell 0).trans rfl
      have kXX01 : w20.cell? ⟨w14.heap.size, 1, none⟩ = some (.int .i64 C0) := (XX0.cell 1).trans rfl
      have kXX02 : w20.cell? ⟨w14.heap.size, 2, none⟩ = some (.slice (some ⟨gO_x0, 0, none⟩) l0.length l0.length) := (XX0.cell 2).trans rfl
      go_wp2_with fail
      clear zXX0 kXX00 kXX01 kXX02
      have b : Below w20.heap.size w20 (w20.alloc (.cells #[.int .i64 R1, .int .i64 C1, .slice (some ⟨gO_x1, 0, none⟩) l1.length l1.length] 29)) := (Below.refl _ _).alloc (Nat.le_refl _) _
      have XX1 : Whole (w20.alloc (.cells #[.int .i64 R1, .int .i64 C1, .slice (some ⟨gO_x1, 0, none⟩) l1.length l1.length] 29)) w20.heap.size 29 [.int .i64 R1, .int .i64 C1, .slice (some ⟨gO_x1, 0, none⟩) l1.length l1.length] := heap_alloc_new w20 _
      replace X0 := X0.below b X0.lt
      replace X1 := X1.below b X1.lt
      replace Ow0 := Ow0.keep b
      replace O_x0 := O_x0.keep b
      replace XX0 := XX0.below b XX0.lt
      replace O_x1 := O_x1.keep b
      replace B := B.trans (b.mono B.size)
      have s24 : w20.heap.size ≤ (w20.alloc (.cells #[.int .i64 R1, .int .i64 C1, .slice (some ⟨gO_x1, 0, none⟩) l1.length l1.length] 29)).heap.size := b.size
      clear b
      have hiXX1 := XX1.lt
      generalize w20.alloc (.cells #[.int .i64 R1, .int .i64 C1, .slice (some ⟨gO_x1, 0, none⟩) l1.length l1.length] 29) = v23 at *
      refine (impl_DifferentCells _ _ _ _ l0 _ _ _ _ l1 _ hn0 (O_x0.rd) hn1 (O_x1.rd)).mono ?_; rintro e w26 ⟨Ag0, cg0, rfl, Og0, loOg0, b⟩
      replace X0 := X0.below b X0.lt
      replace X1 := X1.below b X1.lt
      replace Ow0 := Ow0.keep b
      replace O_x0 := O_x0.keep b
      replace XX0 := XX0.below b XX0.lt
      replace O_x1 := O_x1.keep b
      replace XX1 := XX1.below b XX1.lt
      replace B := B.trans (b.mono B.size)
      have s27 : v23.heap.size ≤ w26.heap.size := b.size
      clear b
      have hiOg0 : ∀ a : Addr, Ag0 = some a → 0 < (diffB R0 C0 l0 R1 C1 l1).length → a.block < w26.heap.size := fun a ha hx => Og0.lt (pos_ints hx) ha
      go_wp2_with fail
      refine (eqIntS_any _ _ _ _ (diffB R0 C0 l0 R1 C1 l1) (diffB R0 C0 l0 R1 C1 l1) _ (diffB_len _ _ _ _ _ _ hn0) (diffB_len _ _ _ _ _ _ hn0) Og0.rd Ow0.rd).mono ?_; rintro e w29 ⟨rfl, b⟩
      rw [decide_eq_true (rfl : (diffB R0 C0 l0 R1 C1 l1) = (diffB R0 C0 l0 R1 C1 l1))]
      replace X0 := X0.below b X0.lt
      replace X1 := X1.below b X1.lt
      replace Ow0 := Ow0.keep b
      replace O_x0 := O_x0.keep b
      replace XX0 := XX0.below b XX0.lt
      replace O_x1 := O_x1.keep b
      replace XX1 := XX1.below b XX1.lt
      replace Og0 := Og0.keep b
      replace B := B.trans (b.mono B.size)
      have s30 : w26.heap.size ≤ w29.heap.size := b.size
      clear b
      have zXX0 : w14.heap.size < w29.heap.size := XX0.lt
      have kXX00 : w29.cell? ⟨w14.heap.size, 0, none⟩ = some (.int .i64 R0) := (XX0.cell 0).trans rfl
      have kXX01 : w29.cell? ⟨w14.heap.size, 1, none⟩ = some (.int .i64 C0) := (XX0.cell 1).trans rfl
      have kXX02 : w29.cell? ⟨w14.heap.size, 2, none⟩ = some (.slice (some ⟨gO_x0, 0, none⟩) l0.length l0.length) := (XX0.cell 2).trans rfl
      have zX0 : w.heap.size < w29.heap.size := X0.lt
      have kX00 : w29.cell? ⟨w.heap.size, 0, none⟩ = some (.int .i64 R0) := (X0.cell 0).trans rfl
      have kX01 : w29.cell? ⟨w.heap.size, 1, none⟩ = some (.int .i64 C0) := (X0.cell 1).trans rfl
      have kX02 : w29.cell? ⟨w.heap.size, 2, none⟩ = some (.slice A0 l0.length cap0) := (X0.cell 2).trans rfl
      go_wp2_with fail
      have hqXX0 : w14.heap.size < w29.heap.size := XX0.lt
      have hqX0 : w.heap.size < w29.heap.size := X0.lt
      go_region_held3 (fun w' => w'.cell? ⟨w14.heap.size, 0, none⟩ = some (.int .i64 R0) ∧ w'.cell? ⟨w14.heap.size, 1, none⟩ = some (.int .i64 C0) ∧ w'.cell? ⟨w14.heap.size, 2, none⟩ = some (.slice (some ⟨gO_x0, 0, none⟩) l0.length l0.length) ∧ w'.cell? ⟨w.heap.size, 0, none⟩ = some (.int .i64 R0) ∧ w'.cell? ⟨w.heap.size, 1, none⟩ = some (.int .i64 C0) ∧ w'.cell? ⟨w.heap.size, 2, none⟩ = some (.slice A0 l0.length cap0))
        (first | exact ⟨kXX00, kXX01, kXX02, kX00, kX01, kX02⟩ | exact ⟨(b.cell (p := ⟨w14.heap.size, 0, none⟩) hqXX0).trans kXX00, (b.cell (p := ⟨w14.heap.size, 1, none⟩) hqXX0).trans kXX01, (b.cell (p := ⟨w14.heap.size, 2, none⟩) hqXX0).trans kXX02, (b.cell (p := ⟨w.heap.size, 0, none⟩) hqX0).trans kX00, (b.cell (p := ⟨w.heap.size, 1, none⟩) hqX0).trans kX01, (b.cell (p := ⟨w.heap.size, 2, none⟩) hqX0).trans kX02⟩ | exact ⟨(b2.cell (p := ⟨w14.heap.size, 0, none⟩) (Nat.lt_of_lt_of_le hqXX0 b.size)).trans ((b.cell (p := ⟨w14.heap.size, 0, none⟩) hqXX0).trans kXX00), (b2.cell (p := ⟨w14.heap.size, 1, none⟩) (Nat.lt_of_lt_of_le hqXX0 b.size)).trans ((b.cell (p := ⟨w14.heap.size, 1, none⟩) hqXX0).trans kXX01), (b2.cell (p := ⟨w14.heap.size, 2, none⟩) (Nat.lt_of_lt_of_le hqXX0 b.size)).trans ((b.cell (p := ⟨w14.heap.size, 2, none⟩) hqXX0).trans kXX02), (b2.cell (p := ⟨w.heap.size, 0, none⟩) (Nat.lt_of_lt_of_le hqX0 b.size)).trans ((b.cell (p := ⟨w.heap.size, 0, none⟩) hqX0).trans kX00), (b2.cell (p := ⟨w.heap.size, 1, none⟩) (Nat.lt_of_lt_of_le hqX0 b.size)).trans ((b.cell (p := ⟨w.heap.size, 1, none⟩) hqX0).trans kX01), (b2.cell (p := ⟨w.heap.size, 2, none⟩) (Nat.lt_of_lt_of_le hqX0 b.size)).trans ((b.cell (p := ⟨w.heap.size, 2, none⟩) hqX0).trans kX02)⟩)
        ((first | (go_at_call 17; refine (toBoard_any _ _ _ _ l0 _ hn0 ((hr0.below B.drew).mono B.size)).mono ?_; rintro e w31a ⟨gq, rfl, t, n, b⟩) | (go_at_call 19; refine (eqBoard_any _ _ _ _ _ _ _ _ l0 l0 _ hn0 hn0 ((O_x0.keep (Below.drew (Below.refl _ _))).keep b).rd t.own.rd).mono ?_; rintro e w31b ⟨rfl, b2⟩; rw [eqB_same])))
      have bb : Below w29.heap.size w29 w31b := ((Below.refl _ _).drew).trans (b.trans (b2.mono b.size))
      clear b b2 t n zXX0 kXX00 kXX01 kXX02 zX0 kX00 kX01 kX02 hqXX0 hqX0
      replace X0 := X0.below bb X0.lt
      replace X1 := X1.below bb X1.lt
      replace Ow0 := Ow0.keep bb
      replace O_x0 := O_x0.keep bb
      replace XX0 := XX0.below bb XX0.lt
      replace O_x1 := O_x1.keep bb
      replace XX1 := XX1.below bb XX1.lt
      replace Og0 := Og0.keep bb
      replace B := B.trans (bb.mono B.size)
      have s32 : w29.heap.size ≤ w31b.heap.size := bb.size
      clear bb
      have zXX1 : w20.heap.size < w31b.heap.size := XX1.lt
      have kXX10 : w31b.cell? ⟨w20.heap.size, 0, none⟩ = some (.int .i64 R1) := (XX1.cell 0).trans rfl
      have kXX11 : w31b.cell? ⟨w20.heap.size, 1, none⟩ = some (.int .i64 C1) := (XX1.cell 1).trans rfl
      have kXX12 : w31b.cell? ⟨w20.heap.size, 2, none⟩ = some (.slice (some ⟨gO_x1, 0, none⟩) l1.length l1.length) := (XX1.cell 2).trans rfl
      have zX1 : (w.heap.size + 1) < w31b.heap.size := X1.lt
      have kX10 : w31b.cell? ⟨(w.heap.size + 1), 0, none⟩ = some (.int .i64 R1) := (X1.cell 0).trans rfl
      have kX11 : w31b.cell? ⟨(w.heap.size + 1), 1, none⟩ = some (.int .i64 C1) := (X1.cell 1).trans rfl
      have kX12 : w31b.cell? ⟨(w.heap.size + 1), 2, none⟩ = some (.slice A1 l1.length cap1) := (X1.cell 2).trans rfl
      go_wp2_with fail
      have hqXX1 : w20.heap.size < w31b.heap.size := XX1.lt
      have hqX1 : (w.heap.size + 1) < w31b.heap.size := X1.lt
      go_region_held3 (fun w' => w'.cell? ⟨w20.heap.size, 0, none⟩ = some (.int .i64 R1) ∧ w'.cell? ⟨w20.heap.size, 1, none⟩ = some (.int .i64 C1) ∧ w'.cell? ⟨w20.heap.size, 2, none⟩ = some (.slice (some ⟨gO_x1, 0, none⟩) l1.length l1.length) ∧ w'.cell? ⟨(w.heap.size + 1), 0, none⟩ = some (.int .i64 R1) ∧ w'.cell? ⟨(w.heap.size + 1), 1, none⟩ = some (.int .i64 C1) ∧ w'.cell? ⟨(w.heap.size + 1), 2, none⟩ = some (.slice A1 l1.length cap1))
        (first | exact ⟨kXX10, kXX11, kXX12, kX10, kX11, kX12⟩ | exact ⟨(b.cell (p := ⟨w20.heap.size, 0, none⟩) hqXX1).trans kXX10, (b.cell (p := ⟨w20.heap.size, 1, none⟩) hqXX1).trans kXX11, (b.cell (p := ⟨w20.heap.size, 2, none⟩) hqXX1).trans kXX12, (b.cell (p := ⟨(w.heap.size + 1), 0, none⟩) hqX1).trans kX10, (b.cell (p := ⟨(w.heap.size + 1), 1, none⟩) hqX1).trans kX11, (b.cell (p := ⟨(w.heap.size + 1), 2, none⟩) hqX1).trans kX12⟩ | exact ⟨(b2.cell (p := ⟨w20.heap.size, 0, none⟩) (Nat.lt_of_lt_of_le hqXX1 b.size)).trans ((b.cell (p := ⟨w20.heap.size, 0, none⟩) hqXX1).trans kXX10), (b2.cell (p := ⟨w20.heap.size, 1, none⟩) (Nat.lt_of_lt_of_le hqXX1 b.size)).trans ((b.cell (p := ⟨w20.heap.size, 1, none⟩) hqXX1).trans kXX11), (b2.cell (p := ⟨w20.heap.size, 2, none⟩) (Nat.lt_of_lt_of_le hqXX1 b.size)).trans ((b.cell (p := ⟨w20.heap.size, 2, none⟩) hqXX1).trans kXX12), (b2.cell (p := ⟨(w.heap.size + 1), 0, none⟩) (Nat.lt_of_lt_of_le hqX1 b.size)).trans ((b.cell (p := ⟨(w.heap.size + 1), 0, none⟩) hqX1).trans kX10), (b2.cell (p := ⟨(w.heap.size + 1), 1, none⟩) (Nat.lt_of_lt_of_le hqX1 b.size)).trans ((b.cell (p := ⟨(w.heap.size + 1), 1, none⟩) hqX1).trans kX11), (b2.cell (p := ⟨(w.heap.size + 1), 2, none⟩) (Nat.lt_of_lt_of_le hqX1 b.size)).trans ((b.cell (p := ⟨(w.heap.size + 1), 2, none⟩) hqX1).trans kX12)⟩)
        ((first | (go_at_call 17; refine (toBoard_any _ _ _ _ l1 _ hn1 ((hr1.below B.drew).mono B.size)).mono ?_; rintro e w33a ⟨gq, rfl, t, n, b⟩) | (go_at_call 19; refine (eqBoard_any _ _ _ _ _ _ _ _ l1 l1 _ hn1 hn1 ((O_x1.keep (Below.drew (Below.refl _ _))).keep b).rd t.own.rd).mono ?_; rintro e w33b ⟨rfl, b2⟩; rw [eqB_same])))
      have bb : Below w31b.heap.size w31b w33b := ((Below.refl _ _).drew).trans (b.trans (b2.mono b.size))
      clear b b2 t n zXX1 kXX10 kXX11 kXX12 zX1 kX10 kX11 kX12 hqXX1 hqX1
      replace X0 := X0.below bb X0.lt
      replace X1 := X1.below bb X1.lt
      replace Ow0 := Ow0.keep bb
      replace O_x0 := O_x0.keep bb
      replace XX0 := XX0.below bb XX0.lt
      replace O_x1 := O_x1.keep bb
      replace XX1 := XX1.below bb XX1.lt
      replace Og0 := Og0.keep bb
      replace B := B.trans (bb.mono B.size)
      have s34 : w31b.heap.size ≤ w33b.heap.size := bb.size
      clear bb
      have zXX0 : w14.heap.size < w33b.heap.size := XX0.lt
      have kXX00 : w33b.cell? ⟨w14.heap.size, 0, none⟩ = some (.int .i64 R0) := (XX0.cell 0).trans rfl
      have kXX01 : w33b.cell? ⟨w14.heap.size, 1, none⟩ = some (.int .i64 C0) := (XX0.cell 1).trans rfl
      have kXX02 : w33b.cell? ⟨w14.heap.size, 2, none⟩ = some (.slice (some ⟨gO_x0, 0, none⟩) l0.length l0.length) := (XX0.cell 2).trans rfl
      go_wp2_with fail
      refine (markBoard_n _ _ _ _ l0.length (flat l0) _ _ (flat_length _) hn0 (by omega) (by omega) O_x0).mono ?_; rintro e w35 ⟨rfl, o, b⟩
      clear zXX0 kXX00 kXX01 kXX02
      replace X0 := X0.fx b (fun hp a ha => own_apart O_x0 X0 (by decide) (pos_flat hp) ha)
      replace X1 := X1.fx b (fun hp a ha => own_apart O_x0 X1 (by decide) (pos_flat hp) ha)
      replace Ow0 := Ow0.fx b (fun hp hx a a' ha ha' => by have h1 := loO_x0 a' ha'; have h2 := hiOw0 a ha (ints_pos hx); omega)
      replace XX0 := XX0.fx b (fun hp a ha => own_apart O_x0 XX0 (by decide) (pos_flat hp) ha)
      replace O_x1 := O_x1.fx b (fun hp hx a a' ha ha' => by have h1 := hiO_x0 a' ha' hp; have h2 := loO_x1 a ha; omega)
      replace XX1 := XX1.fx b (fun hp a ha => own_apart O_x0 XX1 (by decide) (pos_flat hp) ha)
      replace Og0 := Og0.fx b (fun hp hx a a' ha ha' => by have h1 := hiO_x0 a' ha' hp; have h2 := loOg0 a ha; omega)
      replace B := B.trans (b.below B.size (fun a ha => by have h1 := loO_x0 a ha; omega))
      have s36 : w33b.heap.size ≤ w35.heap.size := b.size
      clear b
      replace O_x0 := o
      clear O_x0
      have zXX1 : w20.heap.size < w35.heap.size := XX1.lt
      have kXX10 : w35.cell? ⟨w20.heap.size, 0, none⟩ = some (.int .i64 R1) := (XX1.cell 0).trans rfl
      have kXX11 : w35.cell? ⟨w20.heap.size, 1, none⟩ = some (.int .i64 C1) := (XX1.cell 1).trans rfl
      have kXX12 : w35.cell? ⟨w20.heap.size, 2, none⟩ = some (.slice (some ⟨gO_x1, 0, none⟩) l1.length l1.length) := (XX1.cell 2).trans rfl
      go_wp2_with fail
      refine (markBoard_n _ _ _ _ l1.length (flat l1) _ _ (flat_length _) hn1 (by omega) (by omega) O_x1).mono ?_; rintro e w37 ⟨rfl, o, b⟩
      clear zXX1 kXX10 kXX11 kXX12
      replace X0 := X0.fx b (fun hp a ha => own_apart O_x1 X0 (by decide) (pos_flat hp) ha)
      replace X1 := X1.fx b (fun hp a ha => own_apart O_x1 X1 (by decide) (pos_flat hp) ha)
      replace Ow0 := Ow0.fx b (fun hp hx a a' ha ha' => by have h1 := loO_x1 a' ha'; have h2 := hiOw0 a ha (ints_pos hx); omega)
      replace XX0 := XX0.fx b (fun hp a ha => own_apart O_x1 XX0 (by decide) (pos_flat hp) ha)
      replace XX1 := XX1.fx b (fun hp a ha => own_apart O_x1 XX1 (by decide) (pos_flat hp) ha)
      replace Og0 := Og0.fx b (fun hp hx a a' ha ha' => by have h1 := hiO_x1 a' ha' hp; have h2 := loOg0 a ha; omega)
      replace B := B.trans (b.below B.size (fun a ha => by have h1 := loO_x1 a ha; omega))
      have s38 : w35.heap.size ≤ w37.heap.size := b.size
      clear b
      replace O_x1 := o
      clear O_x1
      go_wp2_with fail
      refine (eqIntS_any _ _ _ _ (diffB R0 C0 l0 R1 C1 l1) (diffB R0 C0 l0 R1 C1 l1) _ (diffB_len _ _ _ _ _ _ hn0) (diffB_len _ _ _ _ _ _ hn0) Og0.rd Ow0.rd).mono ?_; rintro e w39 ⟨rfl, b⟩
      rw [decide_eq_true (rfl : (diffB R0 C0 l0 R1 C1 l1) = (diffB R0 C0 l0 R1 C1 l1))]
      replace X0 := X0.below b X0.lt
      replace X1 := X1.below b X1.lt
      replace Ow0 := Ow0.keep b
      replace XX0 := XX0.below b XX0.lt
      replace XX1 := XX1.below b XX1.lt
      replace Og0 := Og0.keep b
      replace B := B.trans (b.mono B.size)
      have s40 : w37.heap.size ≤ w39.heap.size := b.size
      clear b
      go_wp2_with fail
      refine (markIntS_n _ _ (diffB R0 C0 l0 R1 C1 l1).length (ints (diffB R0 C0 l0 R1 C1 l1)) _ _ (ints_length _) (diffB_len _ _ _ _ _ _ hn0) (by omega) (by omega) Og0).mono ?_; rintro e w41 ⟨rfl, o, b⟩
      replace X0 := X0.fx b (fun hp a ha => own_apart Og0 X0 (by decide) (pos_ints hp) ha)
      replace X1 := X1.fx b (fun hp a ha => own_apart Og0 X1 (by decide) (pos_ints hp) ha)
      replace Ow0 := Ow0.fx b (fun hp hx a a' ha ha' => by have h1 := loOg0 a' ha'; have h2 := hiOw0 a ha (ints_pos hx); omega)
      replace XX0 := XX0.fx b (fun hp a ha => own_apart Og0 XX0 (by decide) (pos_ints hp) ha)
      replace XX1 := XX1.fx b (fun hp a ha => own_apart Og0 XX1 (by decide) (pos_ints hp) ha)
      replace B := B.trans (b.below B.size (fun a ha => by have h1 := loOg0 a ha; omega))
      have s42 : w39.heap.size ≤ w41.heap.size := b.size
      clear b
      replace Og0 := o
      go_wp2_with fail
      refine (heldIntS_any _ _ (diffB R0 C0 l0 R1 C1 l1).length _ _ (diffB_len _ _ _ _ _ _ hn0) (by omega) (by omega) Og0).mono ?_; rintro e w43 ⟨rfl, rfl⟩
      have zX0 : w.heap.size < w41.heap.size := X0.lt
      have kX00 : w41.cell? ⟨w.heap.size, 0, none⟩ = some (.int .i64 R0) := (X0.cell 0).trans rfl
      have kX01 : w41.cell? ⟨w.heap.size, 1, none⟩ = some (.int .i64 C0) := (X0.cell 1).trans rfl
      have kX02 : w41.cell? ⟨w.heap.size, 2, none⟩ = some (.slice A0 l0.length cap0) := (X0.cell 2).trans rfl
      have zX1 : (w.heap.size + 1) < w41.heap.size := X1.lt
      have kX10 : w41.cell? ⟨(w.heap.size + 1), 0, none⟩ = some (.int .i64 R1) := (X1.cell 0).trans rfl
      have kX11 : w41.cell? ⟨(w.heap.size + 1), 1, none⟩ = some (.int .i64 C1) := (X1.cell 1).trans rfl
      have kX12 : w41.cell? ⟨(w.heap.size + 1), 2, none⟩ = some (.slice A1 l1.length cap1) := (X1.cell 2).trans rfl
      go_wp2_with fail
      have hqX0 : w.heap.size < w41.heap.size := X0.lt
      have hqX1 : (w.heap.size + 1) < w41.heap.size := X1.lt
      have KS := Lib.hid (fun (w' : World) (h : Below w41.heap.size w41 w') => (⟨(h.cell (p := ⟨w.heap.size, 0, none⟩) hqX0).trans kX00, (h.cell (p := ⟨w.heap.size, 1, none⟩) hqX0).trans kX01, (h.cell (p := ⟨w.heap.size, 2, none⟩) hqX0).trans kX02, (h.cell (p := ⟨(w.heap.size + 1), 0, none⟩) hqX1).trans kX10, (h.cell (p := ⟨(w.heap.size + 1), 1, none⟩) hqX1).trans kX11, (h.cell (p := ⟨(w.heap.size + 1), 2, none⟩) hqX1).trans kX12⟩ : w'.cell? ⟨w.heap.size, 0, none⟩ = some (.int .i64 R0) ∧ w'.cell? ⟨w.heap.size, 1, none⟩ = some (.int .i64 C0) ∧ w'.cell? ⟨w.heap.size, 2, none⟩ = some (.slice A0 l0.length cap0) ∧ w'.cell? ⟨(w.heap.size + 1), 0, none⟩ = some (.int .i64 R1) ∧ w'.cell? ⟨(w.heap.size + 1), 1, none⟩ = some (.int .i64 C1) ∧ w'.cell? ⟨(w.heap.size + 1), 2, none⟩ = some (.slice A1 l1.length cap1)))
      go_region_held3 (fun w' => w'.cell? ⟨w.heap.size, 0, none⟩ = some (.int .i64 R0) ∧ w'.cell? ⟨w.heap.size, 1, none⟩ = some (.int .i64 C0) ∧ w'.cell? ⟨w.heap.size, 2, none⟩ = some (.slice A0 l0.length cap0) ∧ w'.cell? ⟨(w.heap.size + 1), 0, none⟩ = some (.int .i64 R1) ∧ w'.cell? ⟨(w.heap.size + 1), 1, none⟩ = some (.int .i64 C1) ∧ w'.cell? ⟨(w.heap.size + 1), 2, none⟩ = some (.slice A1 l1.length cap1)) (exact KS.out _ (by (repeat' (first | (with_reducible exact Below.refl _ _) | (with_reducible assumption) | (with_reducible refine Below.alloc ?_ ?_ _) | (with_reducible refine Below.setCell ?_ ?_ _) | (with_reducible refine Below.drew ?_) | (with_reducible refine below_drewN ?_ _) | (with_reducible refine Below.trans ?_ (Below.mono (by assumption) ?_)) | (with_reducible exact Nat.le_refl _) | (simp; done) | omega | (simp at *; omega))))) ((first | (go_at_call 17; (with_reducible refine (toBoard_any _ _ A0 cap0 l0 _ hn0 ?_).mono ?_); (focus exact (hr0.below (B.trans ((by (repeat' (first | (with_reducible exact Below.refl _ _) | (with_reducible assumption) | (with_reducible refine Below.alloc ?_ ?_ _) | (with_reducible refine Below.setCell ?_ ?_ _) | (with_reducible refine Below.drew ?_) | (with_reducible refine below_drewN ?_ _) | (with_reducible refine Below.trans ?_ (Below.mono (by assumption) ?_)) | (with_reducible exact Nat.le_refl _) | (simp; done) | omega | (simp at *; omega))) : Below w41.heap.size w41 _).mono B.size))).mono (Nat.le_trans B.size (by (repeat' (first | (with_reducible exact Below.refl _ _) | (with_reducible assumption) | (with_reducible refine Below.alloc ?_ ?_ _) | (with_reducible refine Below.setCell ?_ ?_ _) | (with_reducible refine Below.drew ?_) | (with_reducible refine below_drewN ?_ _) | (with_reducible refine Below.trans ?_ (Below.mono (by assumption) ?_)) | (with_reducible exact Nat.le_refl _) | (simp; done) | omega | (simp at *; omega))) : Below w41.heap.size w41 _).size)); rintro e w44_0 ⟨gT0, rfl, tT0, nT0, bT0⟩; have sT0 : w41.heap.size ≤ w44_0.heap.size := (by (repeat' (first | (with_reducible exact Below.refl _ _) | (with_reducible assumption) | (with_reducible refine Below.alloc ?_ ?_ _) | (with_reducible refine Below.setCell ?_ ?_ _) | (with_reducible refine Below.drew ?_) | (with_reducible refine below_drewN ?_ _) | (with_reducible refine Below.trans ?_ (Below.mono (by assumption) ?_)) | (with_reducible exact Nat.le_refl _) | (simp; done) | omega | (simp at *; omega))) : Below w41.heap.size w41 w44_0).size) | (go_at_call 17; (with_reducible refine (toBoard_any _ _ A1 cap1 l1 _ hn1 ?_).mono ?_); (focus exact (hr1.below (B.trans ((by (repeat' (first | (with_reducible exact Below.refl _ _) | (with_reducible assumption) | (with_reducible refine Below.alloc ?_ ?_ _) | (with_reducible refine Below.setCell ?_ ?_ _) | (with_reducible refine Below.drew ?_) | (with_reducible refine below_drewN ?_ _) | (with_reducible refine Below.trans ?_ (Below.mono (by assumption) ?_)) | (with_reducible exact Nat.le_refl _) | (simp; done) | omega | (simp at *; omega))) : Below w41.heap.size w41 _).mono B.size))).mono (Nat.le_trans B.size (by (repeat' (first | (with_reducible exact Below.refl _ _) | (with_reducible assumption) | (with_reducible refine Below.alloc ?_ ?_ _) | (with_reducible refine Below.setCell ?_ ?_ _) | (with_reducible refine Below.drew ?_) | (with_reducible refine below_drewN ?_ _) | (with_reducible refine Below.trans ?_ (Below.mono (by assumption) ?_)) | (with_reducible exact Nat.le_refl _) | (simp; done) | omega | (simp at *; omega))) : Below w41.heap.size w41 _).size)); rintro e w44_1 ⟨gT1, rfl, tT1, nT1, bT1⟩; have sT1 : w41.heap.size ≤ w44_1.heap.size := (by (repeat' (first | (with_reducible exact Below.refl _ _) | (with_reducible assumption) | (with_reducible refine Below.alloc ?_ ?_ _) | (with_reducible refine Below.setCell ?_ ?_ _) | (with_reducible refine Below.drew ?_) | (with_reducible refine below_drewN ?_ _) | (with_reducible refine Below.trans ?_ (Below.mono (by assumption) ?_)) | (with_reducible exact Nat.le_refl _) | (simp; done) | omega | (simp at *; omega))) : Below w41.heap.size w41 w44_1).size) | (go_at_call 38; (with_reducible refine (impl_DifferentCells _ _ _ _ l0 _ _ _ _ l1 _ hn0 ?_ hn1 ?_).mono ?_); (focus exact (tT0.below (by (repeat' (first | (with_reducible exact Below.refl _ _) | (with_reducible assumption) | (with_reducible refine Below.alloc ?_ ?_ _) | (with_reducible refine Below.setCell ?_ ?_ _) | (with_reducible refine Below.drew ?_) | (with_reducible refine below_drewN ?_ _) | (with_reducible refine Below.trans ?_ (Below.mono (by assumption) ?_)) | (with_reducible exact Nat.le_refl _) | (simp; done) | omega | (simp at *; omega))) : Below w44_0.heap.size _ _) (by first | exact (tT0).lt | (have h1 := (tT0).lt; omega))).own.rd); (focus exact (tT1.below (by (repeat' (first | (with_reducible exact Below.refl _ _) | (with_reducible assumption) | (with_reducible refine Below.alloc ?_ ?_ _) | (with_reducible refine Below.setCell ?_ ?_ _) | (with_reducible refine Below.drew ?_) | (with_reducible refine below_drewN ?_ _) | (with_reducible refine Below.trans ?_ (Below.mono (by assumption) ?_)) | (with_reducible exact Nat.le_refl _) | (simp; done) | omega | (simp at *; omega))) : Below w44_1.heap.size _ _) (by first | exact (tT1).lt | (have h1 := (tT1).lt; omega))).own.rd); rintro e w44_f ⟨Ah0, ch0, rfl, Oh0, loOh0, b⟩)))
      have bb : Below w41.heap.size w41 w44_f := by (repeat' (first | (with_reducible exact Below.refl _ _) | (with_reducible assumption) | (with_reducible refine Below.alloc ?_ ?_ _) | (with_reducible refine Below.setCell ?_ ?_ _) | (with_reducible refine Below.drew ?_) | (with_reducible refine below_drewN ?_ _) | (with_reducible refine Below.trans ?_ (Below.mono (by assumption) ?_)) | (with_reducible exact Nat.le_refl _) | (simp; done) | omega | (simp at *; omega)))
      replace loOh0 : New w41 Ah0 := loOh0.mono (by (repeat' (first | (with_reducible exact Below.refl _ _) | (with_reducible assumption) | (with_reducible refine Below.alloc ?_ ?_ _) | (with_reducible refine Below.setCell ?_ ?_ _) | (with_reducible refine Below.drew ?_) | (with_reducible refine below_drewN ?_ _) | (with_reducible refine Below.trans ?_ (Below.mono (by assumption) ?_)) | (with_reducible exact Nat.le_refl _) | (simp; done) | omega | (simp at *; omega))) : Below w41.heap.size w41 _).size
      clear KS b bT0 sT0 bT1 sT1 tT0 nT0 tT1 nT1 zX0 kX00 kX01 kX02 zX1 kX10 kX11 kX12 hqX0 hqX1
      replace X0 := X0.below bb X0.lt
      replace X1 := X1.below bb X1.lt
      replace Ow0 := Ow0.keep bb
      replace XX0 := XX0.below bb XX0.lt
      replace XX1 := XX1.below bb XX1.lt
      replace Og0 := Og0.keep bb
      replace B := B.trans (bb.mono B.size)
      have s45 : w41.heap.size ≤ w44_f.heap.size := bb.size
      clear bb
      have hiOh0 : ∀ a : Addr, Ah0 = some a → 0 < (diffB R0 C0 l0 R1 C1 l1).length → a.block < w44_f.heap.size := fun a ha hx => Oh0.lt (pos_ints hx) ha
      go_wp2_with fail
      refine (eqIntS_any _ _ _ _ (diffB R0 C0 l0 R1 C1 l1) (diffB R0 C0 l0 R1 C1 l1) _ (diffB_len _ _ _ _ _ _ hn0) (diffB_len _ _ _ _ _ _ hn0) Oh0.rd Ow0.rd).mono ?_; rintro e w47 ⟨rfl, b⟩
      rw [decide_eq_true (rfl : (diffB R0 C0 l0 R1 C1 l1) = (diffB R0 C0 l0 R1 C1 l1))]
      replace X0 := X0.below b X0.lt
      replace X1 := X1.below b X1.lt
      replace Ow0 := Ow0.keep b
      replace XX0 := XX0.below b XX0.lt
      replace XX1 := XX1.below b XX1.lt
      replace Og0 := Og0.keep b
      replace Oh0 := Oh0.keep b
      replace B := B.trans (b.mono B.size)
      have s48 : w44_f.heap.size ≤ w47.heap.size := b.size
      clear b
      go_wp2_with fail
      refine (heldIntS_any _ _ (diffB R0 C0 l0 R1 C1 l1).length _ _ (diffB_len _ _ _ _ _ _ hn0) (by omega) (by omega) Og0).mono ?_; rintro e w49 ⟨rfl, rfl⟩
      go_wp2
      go_returns
      exact ⟨rfl, B⟩
    · go_enter Try.func9, Try.ntmps9
      have B : Below w.heap.size w w := Below.refl _ _
      go_wp2_with fail
      have b : Below w.heap.size w (w.alloc (.cells #[.int .i64 R0, .int .i64 C0, .slice A0 l0.length cap0] 24)) := (Below.refl _ _).alloc (Nat.le_refl _) _
      have X0 : Whole (w.alloc (.cells #[.int .i64 R0, .int .i64 C0, .slice A0 l0.length cap0] 24)) w.heap.size 24 [.int .i64 R0, .int .i64 C0, .slice A0 l0.length cap0] := heap_alloc_new w _
      have HZ := Lib.hid (show (w.alloc (.cells #[.int .i64 R0, .int .i64 C0, .slice A0 l0.length cap0] 24)).heap.size = w.heap.size + 1 by rw [World.size_alloc])
      replace B := B.trans (b.mono B.size)
      have s2 : w.heap.size ≤ (w.alloc (.cells #[.int .i64 R0, .int .i64 C0, .slice A0 l0.length cap0] 24)).heap.size := b.size
      clear b
      have hiX0 := X0.lt
      generalize w.alloc (.cells #[.int .i64 R0, .int .i64 C0, .slice A0 l0.length cap0] 24) = v1 at *
      have b : Below v1.heap.size v1 (v1.alloc (.cells #[.int .i64 R1, .int .i64 C1, .slice A1 l1.length cap1] 24)) := (Below.refl _ _).alloc (Nat.le_refl _) _
      have X1 : Whole (v1.alloc (.cells #[.int .i64 R1, .int .i64 C1, .slice A1 l1.length cap1] 24)) (w.heap.size + 1) 24 [.int .i64 R1, .int .i64 C1, .slice A1 l1.length cap1] := by have h := heap_alloc_new v1 (.cells #[.int .i64 R1, .int .i64 C1, .slice A1 l1.length cap1] 24); rw [HZ.out] at h; exact h
      have HZ := Lib.hid (show (v1.alloc (.cells #[.int .i64 R1, .int .i64 C1, .slice A1 l1.length cap1] 24)).heap.size = w.heap.size + 2 by rw [World.size_alloc, HZ.out])
      replace X0 := X0.below b X0.lt
      replace B := B.trans (b.mono B.size)
      have s5 : v1.heap.size ≤ (v1.alloc (.cells #[.int .i64 R1, .int .i64 C1, .slice A1 l1.length cap1] 24)).heap.size := b.size
      clear b
      have hiX1 := X1.lt
      generalize v1.alloc (.cells #[.int .i64 R1, .int .i64 C1, .slice A1 l1.length cap1] 24) = v4 at *
      have zX0 : w.heap.size < v4.heap.size := X0.lt
      have kX00 : v4.cell? ⟨w.heap.size, 0, none⟩ = some (.int .i64 R0) := (X0.cell 0).trans rfl
      have kX01 : v4.cell? ⟨w.heap.size, 1, none⟩ = some (.int .i64 C0) := (X0.cell 1).trans rfl
      have kX02 : v4.cell? ⟨w.heap.size, 2, none⟩ = some (.slice A0 l0.length cap0) := (X0.cell 2).trans rfl
      go_wp2_with fail
      refine (szBoard_any _ _ _ _ _ _ _ hm0 (by omega) (by omega)).mono ?_; rintro e w7 ⟨rfl, b⟩
      clear zX0 kX00 kX01 kX02
      rw [if_neg (by omega)]
      replace X0 := X0.below b X0.lt
      replace X1 := X1.below b X1.lt
      replace B := B.trans (b.mono B.size)
      have s8 : v4.heap.size ≤ w7.heap.size := b.size
      clear b
      have zX1 : (w.heap.size + 1) < w7.heap.size := X1.lt
      have kX10 : w7.cell? ⟨(w.heap.size + 1), 0, none⟩ = some (.int .i64 R1) := (X1.cell 0).trans rfl
      have kX11 : w7.cell? ⟨(w.heap.size + 1), 1, none⟩ = some (.int .i64 C1) := (X1.cell 1).trans rfl
      have kX12 : w7.cell? ⟨(w.heap.size + 1), 2, none⟩ = some (.slice A1 l1.length cap1) := (X1.cell 2).trans rfl
      go_wp2_with fail
      refine (szBoard_any _ _ _ _ _ _ _ hm1 (by omega) (by omega)).mono ?_; rintro e w9 ⟨rfl, b⟩
      clear zX1 kX10 kX11 kX12
      rw [if_pos (by omega)]
      replace X0 := X0.below b X0.lt
      replace X1 := X1.below b X1.lt
      replace B := B.trans (b.mono B.size)
      have s10 : w7.heap.size ≤ w9.heap.size := b.size
      clear b
      go_wp2
      go_returns
      exact ⟨rfl, B⟩
  · go_enter Try.func9, Try.ntmps9
    have B : Below w.heap.size w w := Below.refl _ _
    go_wp2_with fail
    have b : Below w.heap.size w (w.alloc (.cells #[.int .i64 R0, .int .i64 C0, .slice A0 l0.length cap0] 24)) := (Below.refl _ _).alloc (Nat.le_refl _) _
    have X0 : Whole (w.alloc (.cells #[.int .i64 R0, .int .i64 C0, .slice A0 l0.length cap0] 24)) w.heap.size 24 [.int .i64 R0, .int .i64 C0, .slice A0 l0.length cap0] := heap_alloc_new w _
    have HZ := Lib.hid (show (w.alloc (.cells #[.int .i64 R0, .int .i64 C0, .slice A0 l0.length cap0] 24)).heap.size = w.heap.size + 1 by rw [World.size_alloc])
    replace B := B.trans (b.mono B.size)
    have s2 : w.heap.size ≤ (w.alloc (.cells #[.int .i64 R0, .int .i64 C0, .slice A0 l0.length cap0] 24)).heap.size := b.size
    clear b
    have hiX0 := X0.lt
    generalize w.alloc (.cells #[.int .i64 R0, .int .i64 C0, .slice A0 l0.length cap0] 24) = v1 at *
    have b : Below v1.heap.size v1 (v1.alloc (.cells #[.int .i64 R1, .int .i64 C1, .slice A1 l1.length cap1] 24)) := (Below.refl _ _).alloc (Nat.le_refl _) _
    have X1 : Whole (v1.alloc (.cells #[.int .i64 R1, .int .i64 C1, .slice A1 l1.length cap1] 24)) (w.heap.size + 1) 24 [.int .i64 R1, .int .i64 C1, .slice A1 l1.length cap1] := by have h := heap_alloc_new v1 (.cells #[.int .i64 R1, .int .i64 C1, .slice A1 l1.length cap1] 24); rw [HZ.out] at h; exact h
    have HZ := Lib.hid (show (v1.alloc (.cells #[.int .i64 R1, .int .i64 C1, .slice A1 l1.length cap1] 24)).heap.size = w.heap.size + 2 by rw [World.size_alloc, HZ.out])
    replace X0 := X0.below b X0.lt
    replace B := B.trans (b.mono B.size)
    have s5 : v1.heap.size ≤ (v1.alloc (.cells #[.int .i64 R1, .int .i64 C1, .slice A1 l1.length cap1] 24)).heap.size := b.size
    clear b
    have hiX1 := X1.lt
    generalize v1.alloc (.cells #[.int .i64 R1, .int .i64 C1, .slice A1 l1.length cap1] 24) = v4 at *
    have zX0 : w.heap.size < v4.heap.size := X0.lt
    have kX00 : v4.cell? ⟨w.heap.size, 0, none⟩ = some (.int .i64 R0) := (X0.cell 0).trans rfl
    have kX01 : v4.cell? ⟨w.heap.size, 1, none⟩ = some (.int .i64 C0) := (X0.cell 1).trans rfl
    have kX02 : v4.cell? ⟨w.heap.size, 2, none⟩ = some (.slice A0 l0.length cap0) := (X0.cell 2).trans rfl
    go_wp2_with fail
    refine (szBoard_any _ _ _ _ _ _ _ hm0 (by omega) (by omega)).mono ?_; rintro e w7 ⟨rfl, b⟩
    clear zX0 kX00 kX01 kX02
    rw [if_pos (by omega)]
    replace X0 := X0.below b X0.lt
    replace X1 := X1.below b X1.lt
    replace B := B.trans (b.mono B.size)
    have s8 : v4.heap.size ≤ w7.heap.size := b.size
    clear b
    go_wp2
    go_returns
    exact ⟨rfl, B⟩
theorem DifferentCells_walk : Walk Try.prog 9 Try.f9 := by
  intro H enc W base args ds ps hA hval
  rw [Try.params9] at hA hval
  obtain ⟨v0, vs0, d0, ds0, p0, q0, hv0, hd0, hp0, h0, r0⟩ := trodAll_cons hA
  obtain ⟨v1, vs1, d1, ds1, p1, q1, hv1, hd1, hp1, h1, r1⟩ := trodAll_cons r0
  obtain ⟨e1, e2, e3⟩ := trodAll_nil r1
  have ha : args = #[v0, v1] := by
    apply Array.toList_inj.1
    rw [hv0, hv1, e1]
  subst ha
  obtain ⟨R0, C0, A0, cap0, l0, rfl, hm0, hr0, -, -⟩ := open_board (hval 0 24 v0 rfl rfl) h0
  obtain ⟨R1, C1, A1, cap1, l1, rfl, hm1, hr1, -, -⟩ := open_board (hval 1 24 v1 rfl rfl) h1
  exact DifferentCells_walk0 R0 C0 A0 cap0 l0 R1 C1 A1 cap1 l1 W hm0 hr0 hm1 hr1
set_option maxRecDepth 100000 in
theorem DifferentCells_holds : Rows.FnExactDifferentCellsSaid :=
  OpenClaim.holds_of_wide 9 Try.f9 rfl rfl rfl rfl rfl rfl rfl ⟨rfl, rfl, rfl, rfl, rfl⟩ rfl rfl rfl rfl rfl (by kernel_rfl) Try.func9 (by kernel_rfl)
    (of_decide_eq_true (by kernel_rfl)) (by unfold Func.isWrapper; first | (rw [if_pos (by decide +kernel)]; kernel_rfl) | (rw [if_neg (by decide +kernel)]; exact ⟨rfl, rfl⟩))
    (fun os started H enc _ => lifted (C := Try.checked) (s := Rows.fnExactDifferentCellsSpec) started own (by kernel_rfl) Try.func9 ⟨#[], #[.agg #[.int .i64 0, .int .i64 0, .slice none 0 0], .agg #[.int .i64 0, .int .i64 0, .slice none 0 0]], []⟩ 8 (by kernel_rfl) (by kernel_rfl) (by kernel_rfl) (by kernel_rfl) (by kernel_rfl)
      laidOut (by kernel_rfl) rfl rfl Try.underlying4 (fun ds h => by
        match ds, h with
        | [d0, d1], _ => exact ⟨rfl, rfl, rfl⟩) DifferentCells_walk)
end Go.Proofs.Ytdeemhmllfoakaa
