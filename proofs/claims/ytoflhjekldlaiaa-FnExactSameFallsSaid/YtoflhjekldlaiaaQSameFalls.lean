/- For every two boards, SameFalls of the program answers as the model does, and keeps its arguments. No condition. -/
import Derived.Test.YtoflhjekldlaiaaM1
import Derived.Deep.RegionHeld3
import Derived.Deep.DeepCutAuto
import Derived.Test.YtoflhjekldlaiaaM7
namespace Go.Proofs.Ytoflhjekldlaiaa
open Go.ChangeShapes Go.WideShapes Go.ChangeAt Go.RowKit Go.Joins Go.Deep
set_option linter.unusedSimpArgs false
set_option linter.unusedVariables false
set_option maxRecDepth 100000
set_option maxHeartbeats 4000000 in
theorem SameFalls_walk0 (R0 C0 : Int) (A0 : Option Addr) (cap0 : Nat) (l0 : List (Int × Int)) (R1 C1 : Int) (A1 : Option Addr) (cap1 : Nat) (l1 : List (Int × Int)) (w : World) (hm0 : l0.length ≤ maxLen) (hr0 : Rd w w.heap.size A0 (flat l0)) (hm1 : l1.length ≤ maxLen) (hr1 : Rd w w.heap.size A1 (flat l1)) :
    Calls Try.prog 11 #[.agg #[.int .i64 R0, .int .i64 C0, .slice A0 l0.length cap0], .agg #[.int .i64 R1, .int .i64 C1, .slice A1 l1.length cap1]] w fun e w' => e = .returned (.bool true) ∧ Below w.heap.size w w' := by
  by_cases ht0 : l0.length ≤ 1048576
  · have hn0 : l0.length ≤ 1048576 := by omega
    by_cases ht1 : l0.length + l1.length ≤ 1048576
    · have hn1 : l1.length ≤ 1048576 := by omega
      go_enter Try.func11, Try.ntmps11
      have B : Below w.heap.size w w := Below.refl _ _
      go_wp2_with fail
      have b : Below w.heap.size w (w.alloc (.cells #[.int .i64 R0, .int .i64 C0, .slice A0 l0.length cap0] 24)) := (Below.refl _ _).alloc (Nat.le_refl _) _
      have X0 : Whole (w.alloc (.cells #[.int .i64 R0, .int .i64 C0, .slice A0 l0.length cap0] 24)) w.heap.size 24 [.int .i64 R0, .int .i64 C0, .slice A0 l0.length cap0] := heap_alloc_new w _
      have HZ := Lib.hid (show (w.alloc (.cells #[.int .i64 R0, .int .i64 C0, .slice A0 l0.length cap0] 24)).heap.size = w.heap.size + 1 by rw [World.size_alloc])
      replace B := B.trans (b.mono B.size)
      have s2 : w.heap.size ≤ (w.alloc (.cells #[.int .i64 R0, .int .i64 C0, .slice A0 l0.length cap0] 24)).heap.size := b.size
      clear b
      have hiX0 := X0.lt
      generalize w.alloc (.cells #[.int .i64 R0, .int .i64 C0, .slice A0 l0.length cap0] 24) = v1 at *
      have b : Below v1.heap.size v1 (v1.alloc (.cells #[.int .i64 R1, .int .i64 C1, .slice A1 l1.length cap1] 24)) := (Below.refl _ _).alloc (Nat.le_refl _) _
      have X1 : Whole (v1.alloc (.cells #[.int .i64 R1, .int .i64 C1, .slice A1 l1.length cap1] 24)) (w.heap.size + 1) 24 [.int .i64 R1, .int .i64 C1, .slice A1 l1.length cap1] := by have h := heap_alloc_new v1 (.cells #[.int .i64 R1, .int .i64 C1, .slice A1 l1.length cap1] 24); rw [HZ.out] at h; exact h
      have HZ := Lib.hid (show (v1.alloc (.cells #[.int .i64 R1, .int .i64 C1, .slice A1 l1.length cap1] 24)).heap.size = w.heap.size + 2 by rw [World.size_alloc, HZ.out])
      replace X0 := X0.below b X0.lt
      replace B := B.trans (b.mono B.size)
      have s5 : v1.heap.size ≤ (v1.alloc (.cells #[.int .i64 R1, .int .i64 C1, .slice A1 l1.length cap1] 24)).heap.size := b.size
      clear b
      have hiX1 := X1.lt
      generalize v1.alloc (.cells #[.int .i64 R1, .int .i64 C1, .slice A1 l1.length cap1] 24) = v4 at *
      have zX0 : w.heap.size < v4.heap.size := X0.lt
      have kX00 : v4.cell? ⟨w.heap.size, 0, none⟩ = some (.int .i64 R0) := (X0.cell 0).trans rfl
      have kX01 : v4.cell? ⟨w.heap.size, 1, none⟩ = some (.int .i64 C0) := (X0.cell 1).trans rfl
      have kX02 : v4.cell? ⟨w.heap.size, 2, none⟩ = some (.slice A0 l0.length cap0) := (X0.cell 2).trans rfl
      go_wp2_with fail
      refine (szBoard_any _ _ _ _ _ _ _ hm0 (by omega) (by omega)).mono ?_; rintro e w7 ⟨rfl, b⟩
      clear zX0 kX00 kX01 kX02
      rw [if_neg (by omega)]
      replace X0 := X0.below b X0.lt
      replace X1 := X1.below b X1.lt
      replace B := B.trans (b.mono B.size)
      have s8 : v4.heap.size ≤ w7.heap.size := b.size
      clear b
      have zX1 : (w.heap.size + 1) < w7.heap.size := X1.lt
      have kX10 : w7.cell? ⟨(w.heap.size + 1), 0, none⟩ = some (.int .i64 R1) := (X1.cell 0).trans rfl
      have kX11 : w7.cell? ⟨(w.heap.size + 1), 1, none⟩ = some (.int .i64 C1) := (X1.cell 1).trans rfl
      have kX12 : w7.cell? ⟨(w.heap.size + 1), 2, none⟩ = some (.slice A1 l1.length cap1) := (X1.cell 2).trans rfl
      go_wp2_with fail
      refine (szBoard_any _ _ _ _ _ _ _ hm1 (by omega) (by omega)).mono ?_; rintro e w9 ⟨rfl, b⟩
      clear zX1 kX10 kX11 kX12
      rw [if_neg (by omega)]
      replace X0 := X0.below b X0.lt
      replace X1 := X1.below b X1.lt
      replace B := B.trans (b.mono B.size)
      have s10 : w7.heap.size ≤ w9.heap.size := b.size
      clear b
      have zX0 : w.heap.size < w9.heap.size := X0.lt
      have kX00 : w9.cell? ⟨w.heap.size, 0, none⟩ = some (.int .i64 R0) := (X0.cell 0).trans rfl
      have kX01 : w9.cell? ⟨w.heap.size, 1, none⟩ = some (.int .i64 C0) := (X0.cell 1).trans rfl
      have kX02 : w9.cell? ⟨w.heap.size, 2, none⟩ = some (.slice A0 l0.length cap0) := (X0.cell 2).trans rfl
      have zX1 : (w.heap.size + 1) < w9.heap.size := X1.lt
      have kX10 : w9.cell? ⟨(w.heap.size + 1), 0, none⟩ = some (.int .i64 R1) := (X1.cell 0).trans rfl
      have kX11 : w9.cell? ⟨(w.heap.size + 1), 1, none⟩ = some (.int .i64 C1) := (X1.cell 1).trans rfl
      have kX12 : w9.cell? ⟨(w.heap.size + 1), 2, none⟩ = some (.slice A1 l1.length cap1) := (X1.cell 2).trans rfl
      go_wp2_with fail
      have hqX0 : w.heap.size < w9.heap.size := X0.lt
      have hqX1 : (w.heap.size + 1) < w9.heap.size := X1.lt
      have KS := Lib.hid (fun (w' : World) (h : Below w9.heap.size w9 w') => (⟨(h.cell (p := ⟨w.heap.size, 0, none⟩) hqX0).trans kX00, (h.cell (p := ⟨w.heap.size, 1, none⟩) hqX0).trans kX01, (h.cell (p := ⟨w.heap.size, 2, none⟩) hqX0).trans kX02, (h.cell (p := ⟨(w.heap.size + 1), 0, none⟩) hqX1).trans kX10, (h.cell (p := ⟨(w.heap.size + 1), 1, none⟩) hqX1).trans kX11, (h.cell (p := ⟨(w.heap.size + 1), 2, none⟩) hqX1).trans kX12⟩ : w'.cell? ⟨w.heap.size, 0, none⟩ = some (.int .i64 R0) ∧ w'.cell? ⟨w.heap.size, 1, none⟩ = some (.int .i64 C0) ∧ w'.cell? ⟨w.heap.size, 2, none⟩ = some (.slice A0 l0.length cap0) ∧ w'.cell? ⟨(w.heap.size + 1), 0, none⟩ = some (.int .i64 R1) ∧ w'.cell? ⟨(w.heap.size + 1), 1, none⟩ = some (.int .i64 C1) ∧ w'.cell? ⟨(w.heap.size + 1), 2, none⟩ = some (.slice A1 l1.length cap1)))
      go_region_held3 (fun w' => w'.cell? ⟨w.heap.size, 0, none⟩ = some (.int .i64 R0) ∧ w'.cell? ⟨w.heap.size, 1, none⟩ = some (.int .i64 C0) ∧ w'.cell? ⟨w.heap.size, 2, none⟩ = some (.slice A0 l0.length cap0) ∧ w'.cell? ⟨(w.heap.size + 1), 0, none⟩ = some (.int .i64 R1) ∧ w'.cell? ⟨(w.heap.size + 1), 1, none⟩ = some (.int .i64 C1) ∧ w'.cell? ⟨(w.heap.size + 1), 2, none⟩ = some (.slice A1 l1.length cap1)) (exact KS.out _ (by (repeat' (first | (with_reducible exact Below.refl _ _) | (with_reducible assumption) | (with_reducible refine Below.alloc ?_ ?_ _) | (with_reducible refine Below.setCell ?_ ?_ _) | (with_reducible refine Below.drew ?_) | (with_reducible refine below_drewN ?_ _) | (with_reducible refine Below.trans ?_ (Below.mono (by assumption) ?_)) | go_size)))) ((first | (go_at_call 15; (with_reducible refine (toBoard_any _ _ A0 cap0 l0 _ hn0 ?_).mono ?_); (focus exact (hr0.below (B.trans ((by (repeat' (first | (with_reducible exact Below.refl _ _) | (with_reducible assumption) | (with_reducible refine Below.alloc ?_ ?_ _) | (with_reducible refine Below.setCell ?_ ?_ _) | (with_reducible refine Below.drew ?_) | (with_reducible refine below_drewN ?_ _) | (with_reducible refine Below.trans ?_ (Below.mono (by assumption) ?_)) | go_size)) : Below w9.heap.size w9 _).mono B.size))).mono (Nat.le_trans B.size (by (repeat' (first | (with_reducible exact Below.refl _ _) | (with_reducible assumption) | (with_reducible refine Below.alloc ?_ ?_ _) | (with_reducible refine Below.setCell ?_ ?_ _) | (with_reducible refine Below.drew ?_) | (with_reducible refine below_drewN ?_ _) | (with_reducible refine Below.trans ?_ (Below.mono (by assumption) ?_)) | go_size)) : Below w9.heap.size w9 _).size)); rintro e w11_0 ⟨gT0, rfl, tT0, nT0, bT0⟩; have uT0 := bT0.size; have sT0 : w9.heap.size ≤ w11_0.heap.size := (by (repeat' (first | (with_reducible exact Below.refl _ _) | (with_reducible assumption) | (with_reducible refine Below.alloc ?_ ?_ _) | (with_reducible refine Below.setCell ?_ ?_ _) | (with_reducible refine Below.drew ?_) | (with_reducible refine below_drewN ?_ _) | (with_reducible refine Below.trans ?_ (Below.mono (by assumption) ?_)) | go_size)) : Below w9.heap.size w9 w11_0).size) | (go_at_call 15; (with_reducible refine (toBoard_any _ _ A1 cap1 l1 _ hn1 ?_).mono ?_); (focus exact (hr1.below (B.trans ((by (repeat' (first | (with_reducible exact Below.refl _ _) | (with_reducible assumption) | (with_reducible refine Below.alloc ?_ ?_ _) | (with_reducible refine Below.setCell ?_ ?_ _) | (with_reducible refine Below.drew ?_) | (with_reducible refine below_drewN ?_ _) | (with_reducible refine Below.trans ?_ (Below.mono (by assumption) ?_)) | go_size)) : Below w9.heap.size w9 _).mono B.size))).mono (Nat.le_trans B.size (by (repeat' (first | (with_reducible exact Below.refl _ _) | (with_reducible assumption) | (with_reducible refine Below.alloc ?_ ?_ _) | (with_reducible refine Below.setCell ?_ ?_ _) | (with_reducible refine Below.drew ?_) | (with_reducible refine below_drewN ?_ _) | (with_reducible refine Below.trans ?_ (Below.mono (by assumption) ?_)) | go_size)) : Below w9.heap.size w9 _).size)); rintro e w11_1 ⟨gT1, rfl, tT1, nT1, bT1⟩; have uT1 := bT1.size; have sT1 : w9.heap.size ≤ w11_1.heap.size := (by (repeat' (first | (with_reducible exact Below.refl _ _) | (with_reducible assumption) | (with_reducible refine Below.alloc ?_ ?_ _) | (with_reducible refine Below.setCell ?_ ?_ _) | (with_reducible refine Below.drew ?_) | (with_reducible refine below_drewN ?_ _) | (with_reducible refine Below.trans ?_ (Below.mono (by assumption) ?_)) | go_size)) : Below w9.heap.size w9 w11_1).size) | (go_at_call 45; (with_reducible refine (spec_SameFalls _ _ _ _ l0 _ _ _ _ l1 _ hn0 ?_ hn1 ?_ ).mono ?_); (focus exact (tT0.below (by (repeat' (first | (with_reducible exact Below.refl _ _) | (with_reducible assumption) | (with_reducible refine Below.alloc ?_ ?_ _) | (with_reducible refine Below.setCell ?_ ?_ _) | (with_reducible refine Below.drew ?_) | (with_reducible refine below_drewN ?_ _) | (with_reducible refine Below.trans ?_ (Below.mono (by assumption) ?_)) | go_size)) : Below w11_0.heap.size w11_0 _) (by first | exact (tT0).lt | (have h1 := (tT0).lt; omega))).own.rd); (focus exact (tT1.below (by (repeat' (first | (with_reducible exact Below.refl _ _) | (with_reducible assumption) | (with_reducible refine Below.alloc ?_ ?_ _) | (with_reducible refine Below.setCell ?_ ?_ _) | (with_reducible refine Below.drew ?_) | (with_reducible refine below_drewN ?_ _) | (with_reducible refine Below.trans ?_ (Below.mono (by assumption) ?_)) | go_size)) : Below w11_1.heap.size w11_1 _) (by first | exact (tT1).lt | (have h1 := (tT1).lt; omega))).own.rd); rintro e w11_f ⟨rfl, b⟩; have sTf : w9.heap.size ≤ w11_f.heap.size := (by (repeat' (first | (with_reducible exact Below.refl _ _) | (with_reducible assumption) | (with_reducible refine Below.alloc ?_ ?_ _) | (with_reducible refine Below.setCell ?_ ?_ _) | (with_reducible refine Below.drew ?_) | (with_reducible refine below_drewN ?_ _) | (with_reducible refine Below.trans ?_ (Below.mono (by assumption) ?_)) | go_size)) : Below w9.heap.size w9 w11_f).size) | fail))
      have bb : Below w9.heap.size w9 w11_f := by (repeat' (first | (with_reducible exact Below.refl _ _) | (with_reducible assumption) | (with_reducible refine Below.alloc ?_ ?_ _) | (with_reducible refine Below.setCell ?_ ?_ _) | (with_reducible refine Below.drew ?_) | (with_reducible refine below_drewN ?_ _) | (with_reducible refine Below.trans ?_ (Below.mono (by assumption) ?_)) | go_size))
      clear KS b sTf bT0 sT0 bT1 sT1 tT0 nT0 tT1 nT1 zX0 kX00 kX01 kX02 zX1 kX10 kX11 kX12 hqX0 hqX1
      replace X0 := X0.below bb X0.lt
      replace X1 := X1.below bb X1.lt
      replace B := B.trans (bb.mono B.size)
      have s12 : w9.heap.size ≤ w11_f.heap.size := bb.size
      clear bb
      have zX0 : w.heap.size < w11_f.heap.size := X0.lt
      have kX00 : w11_f.cell? ⟨w.heap.size, 0, none⟩ = some (.int .i64 R0) := (X0.cell 0).trans rfl
      have kX01 : w11_f.cell? ⟨w.heap.size, 1, none⟩ = some (.int .i64 C0) := (X0.cell 1).trans rfl
      have kX02 : w11_f.cell? ⟨w.heap.size, 2, none⟩ = some (.slice A0 l0.length cap0) := (X0.cell 2).trans rfl
      have zX1 : (w.heap.size + 1) < w11_f.heap.size := X1.lt
      have kX10 : w11_f.cell? ⟨(w.heap.size + 1), 0, none⟩ = some (.int .i64 R1) := (X1.cell 0).trans rfl
      have kX11 : w11_f.cell? ⟨(w.heap.size + 1), 1, none⟩ = some (.int .i64 C1) := (X1.cell 1).trans rfl
      have kX12 : w11_f.cell? ⟨(w.heap.size + 1), 2, none⟩ = some (.slice A1 l1.length cap1) := (X1.cell 2).trans rfl
      go_wp2_with fail
      clear zX0 kX00 kX01 kX02 zX1 kX10 kX11 kX12
      refine (toBoard_any _ _ _ _ l0 _ hn0 ((hr0.below B).mono B.size)).mono ?_; rintro e w13 ⟨gO_x0, rfl, t, n, b⟩
      replace X0 := X0.below b X0.lt
      replace X1 := X1.below b X1.lt
      replace B := B.trans (b.mono B.size)
      have s14 : w11_f.heap.size ≤ w13.heap.size := b.size
      clear b
      have O_x0 := t.own
      have loO_x0 : ∀ a : Addr, (some ⟨gO_x0, 0, none⟩) = some a → w11_f.heap.size ≤ a.block := fun a ha => by cases ha; exact n
      have hiO_x0 : ∀ a : Addr, (some ⟨gO_x0, 0, none⟩) = some a → 0 < l0.length → a.block < w13.heap.size := fun a ha _ => by cases ha; exact t.lt
      clear t n
      have zX0 : w.heap.size < w13.heap.size := X0.lt
      have kX00 : w13.cell? ⟨w.heap.size, 0, none⟩ = some (.int .i64 R0) := (X0.cell 0).trans rfl
      have kX01 : w13.cell? ⟨w.heap.size, 1, none⟩ = some (.int .i64 C0) := (X0.cell 1).trans rfl
      have kX02 : w13.cell? ⟨w.heap.size, 2, none⟩ = some (.slice A0 l0.length cap0) := (X0.cell 2).trans rfl
      have zX1 : (w.heap.size + 1) < w13.heap.size := X1.lt
      have kX10 : w13.cell? ⟨(w.heap.size + 1), 0, none⟩ = some (.int .i64 R1) := (X1.cell 0).trans rfl
      have kX11 : w13.cell? ⟨(w.heap.size + 1), 1, none⟩ = some (.int .i64 C1) := (X1.cell 1).trans rfl
      have kX12 : w13.cell? ⟨(w.heap.size + 1), 2, none⟩ = some (.slice A1 l1.length cap1) := (X1.cell 2).trans rfl
      go_wp2_with fail
      clear zX0 kX00 kX01 kX02 zX1 kX10 kX11 kX12
      have b : Below w13.heap.size w13 (w13.alloc (.cells #[.int .i64 R0, .int .i64 C0, .slice (some ⟨gO_x0, 0, none⟩) l0.length l0.length] 32)) := (Below.refl _ _).alloc (Nat.le_refl _) _
      have XX0 : Whole (w13.alloc (.cells #[.int .i64 R0, .int .i64 C0, .slice (some ⟨gO_x0, 0, none⟩) l0.length l0.length] 32)) w13.heap.size 32 [.int .i64 R0, .int .i64 C0, .slice (some ⟨gO_x0, 0, none⟩) l0.length l0.length] := heap_alloc_new w13 _
      replace X0 := X0.below b X0.lt
      replace X1 := X1.below b X1.lt
      replace O_x0 := O_x0.keep b
      replace B := B.trans (b.mono B.size)
      have s17 : w13.heap.size ≤ (w13.alloc (.cells #[.int .i64 R0, .int .i64 C0, .slice (some ⟨gO_x0, 0, none⟩) l0.length l0.length] 32)).heap.size := b.size
      clear b
      have hiXX0 := XX0.lt
      generalize w13.alloc (.cells #[.int .i64 R0, .int .i64 C0, .slice (some ⟨gO_x0, 0, none⟩) l0.length l0.length] 32) = v16 at *
      refine (toBoard_any _ _ _ _ l1 _ hn1 ((hr1.below B).mono B.size)).mono ?_; rintro e w19 ⟨gO_x1, rfl, t, n, b⟩
      replace X0 := X0.below b X0.lt
      replace X1 := X1.below b X1.lt
      replace O_x0 := O_x0.keep b
      replace XX0 := XX0.below b XX0.lt
      replace B := B.trans (b.mono B.size)
      have s20 : v16.heap.size ≤ w19.heap.size := b.size
      clear b
      have O_x1 := t.own
      have loO_x1 : ∀ a : Addr, (some ⟨gO_x1, 0, none⟩) = some a → v16.heap.size ≤ a.block := fun a ha => by cases ha; exact n
      have hiO_x1 : ∀ a : Addr, (some ⟨gO_x1, 0, none⟩) = some a → 0 < l1.length → a.block < w19.heap.size := fun a ha _ => by cases ha; exact t.lt
      clear t n
      have zXX0 : w13.heap.size < w19.heap.size := XX0.lt
      have kXX00 : w19.cell? ⟨w13.heap.size, 0, none⟩ = some (.int .i64 R0) := (XX0.cell 0).trans rfl
      have kXX01 : w19.cell? ⟨w13.heap.size, 1, none⟩ = some (.int .i64 C0) := (XX0.cell 1).trans rfl
      have kXX02 : w19.cell? ⟨w13.heap.size, 2, none⟩ = some (.slice (some ⟨gO_x0, 0, none⟩) l0.length l0.length) := (XX0.cell 2).trans rfl
      go_wp2_with fail
      clear zXX0 kXX00 kXX01 kXX02
      have b : Below w19.heap.size w19 (w19.alloc (.cells #[.int .i64 R1, .int .i64 C1, .slice (some ⟨gO_x1, 0, none⟩) l1.length l1.length] 32)) := (Below.refl _ _).alloc (Nat.le_refl _) _
      have XX1 : Whole (w19.alloc (.cells #[.int .i64 R1, .int .i64 C1, .slice (some ⟨gO_x1, 0, none⟩) l1.length l1.length] 32)) w19.heap.size 32 [.int .i64 R1, .int .i64 C1, .slice (some ⟨gO_x1, 0, none⟩) l1.length l1.length] := heap_alloc_new w19 _
      replace X0 := X0.below b X0.lt
      replace X1 := X1.below b X1.lt
      replace O_x0 := O_x0.keep b
      replace XX0 := XX0.below b XX0.lt
      replace O_x1 := O_x1.keep b
      replace B := B.trans (b.mono B.size)
      have s23 : w19.heap.size ≤ (w19.alloc (.cells #[.int .i64 R1, .int .i64 C1, .slice (some ⟨gO_x1, 0, none⟩) l1.length l1.length] 32)).heap.size := b.size
      clear b
      have hiXX1 := XX1.lt
      generalize w19.alloc (.cells #[.int .i64 R1, .int .i64 C1, .slice (some ⟨gO_x1, 0, none⟩) l1.length l1.length] 32) = v22 at *
      refine (impl_SameFalls _ _ _ _ l0 _ _ _ _ l1 _ hn0 (O_x0.rd) hn1 (O_x1.rd) ).mono ?_; rintro e w25 ⟨rfl, b⟩
      replace X0 := X0.below b X0.lt
      replace X1 := X1.below b X1.lt
      replace O_x0 := O_x0.keep b
      replace XX0 := XX0.below b XX0.lt
      replace O_x1 := O_x1.keep b
      replace XX1 := XX1.below b XX1.lt
      replace B := B.trans (b.mono B.size)
      have s26 : v22.heap.size ≤ w25.heap.size := b.size
      clear b
      have zXX0 : w13.heap.size < w25.heap.size := XX0.lt
      have kXX00 : w25.cell? ⟨w13.heap.size, 0, none⟩ = some (.int .i64 R0) := (XX0.cell 0).trans rfl
      have kXX01 : w25.cell? ⟨w13.heap.size, 1, none⟩ = some (.int .i64 C0) := (XX0.cell 1).trans rfl
      have kXX02 : w25.cell? ⟨w13.heap.size, 2, none⟩ = some (.slice (some ⟨gO_x0, 0, none⟩) l0.length l0.length) := (XX0.cell 2).trans rfl
      have zX0 : w.heap.size < w25.heap.size := X0.lt
      have kX00 : w25.cell? ⟨w.heap.size, 0, none⟩ = some (.int .i64 R0) := (X0.cell 0).trans rfl
      have kX01 : w25.cell? ⟨w.heap.size, 1, none⟩ = some (.int .i64 C0) := (X0.cell 1).trans rfl
      have kX02 : w25.cell? ⟨w.heap.size, 2, none⟩ = some (.slice A0 l0.length cap0) := (X0.cell 2).trans rfl
      go_wp2_with fail
      have hqXX0 : w13.heap.size < w25.heap.size := XX0.lt
      have hqX0 : w.heap.size < w25.heap.size := X0.lt
      go_region_held3 (fun w' => w'.cell? ⟨w13.heap.size, 0, none⟩ = some (.int .i64 R0) ∧ w'.cell? ⟨w13.heap.size, 1, none⟩ = some (.int .i64 C0) ∧ w'.cell? ⟨w13.heap.size, 2, none⟩ = some (.slice (some ⟨gO_x0, 0, none⟩) l0.length l0.length) ∧ w'.cell? ⟨w.heap.size, 0, none⟩ = some (.int .i64 R0) ∧ w'.cell? ⟨w.heap.size, 1, none⟩ = some (.int .i64 C0) ∧ w'.cell? ⟨w.heap.size, 2, none⟩ = some (.slice A0 l0.length cap0))
        (first | exact ⟨kXX00, kXX01, kXX02, kX00, kX01, kX02⟩ | exact ⟨(b.cell (p := ⟨w13.heap.size, 0, none⟩) hqXX0).trans kXX00, (b.cell (p := ⟨w13.heap.size, 1, none⟩) hqXX0).trans kXX01, (b.cell (p := ⟨w13.heap.size, 2, none⟩) hqXX0).trans kXX02, (b.cell (p := ⟨w.heap.size, 0, none⟩) hqX0).trans kX00, (b.cell (p := ⟨w.heap.size, 1, none⟩) hqX0).trans kX01, (b.cell (p := ⟨w.heap.size, 2, none⟩) hqX0).trans kX02⟩ | exact ⟨(b2.cell (p := ⟨w13.heap.size, 0, none⟩) (Nat.lt_of_lt_of_le hqXX0 b.size)).trans ((b.cell (p := ⟨w13.heap.size, 0, none⟩) hqXX0).trans kXX00), (b2.cell (p := ⟨w13.heap.size, 1, none⟩) (Nat.lt_of_lt_of_le hqXX0 b.size)).trans ((b.cell (p := ⟨w13.heap.size, 1, none⟩) hqXX0).trans kXX01), (b2.cell (p := ⟨w13.heap.size, 2, none⟩) (Nat.lt_of_lt_of_le hqXX0 b.size)).trans ((b.cell (p := ⟨w13.heap.size, 2, none⟩) hqXX0).trans kXX02), (b2.cell (p := ⟨w.heap.size, 0, none⟩) (Nat.lt_of_lt_of_le hqX0 b.size)).trans ((b.cell (p := ⟨w.heap.size, 0, none⟩) hqX0).trans kX00), (b2.cell (p := ⟨w.heap.size, 1, none⟩) (Nat.lt_of_lt_of_le hqX0 b.size)).trans ((b.cell (p := ⟨w.heap.size, 1, none⟩) hqX0).trans kX01), (b2.cell (p := ⟨w.heap.size, 2, none⟩) (Nat.lt_of_lt_of_le hqX0 b.size)).trans ((b.cell (p := ⟨w.heap.size, 2, none⟩) hqX0).trans kX02)⟩)
        ((first | (go_at_call 15; refine (toBoard_any _ _ _ _ l0 _ hn0 ((hr0.below B.drew).mono B.size)).mono ?_; rintro e w27a ⟨gq, rfl, t, n, b⟩) | (go_at_call 18; refine (eqBoard_any _ _ _ _ _ _ _ _ l0 l0 _ hn0 hn0 ((O_x0.keep (Below.drew (Below.refl _ _))).keep b).rd t.own.rd).mono ?_; rintro e w27b ⟨rfl, b2⟩; rw [eqB_same])))
      have bb : Below w25.heap.size w25 w27b := ((Below.refl _ _).drew).trans (b.trans (b2.mono b.size))
      clear b b2 t n zXX0 kXX00 kXX01 kXX02 zX0 kX00 kX01 kX02 hqXX0 hqX0
      replace X0 := X0.below bb X0.lt
      replace X1 := X1.below bb X1.lt
      replace O_x0 := O_x0.keep bb
      replace XX0 := XX0.below bb XX0.lt
      replace O_x1 := O_x1.keep bb
      replace XX1 := XX1.below bb XX1.lt
      replace B := B.trans (bb.mono B.size)
      have s28 : w25.heap.size ≤ w27b.heap.size := bb.size
      clear bb
      have zXX1 : w19.heap.size < w27b.heap.size := XX1.lt
      have kXX10 : w27b.cell? ⟨w19.heap.size, 0, none⟩ = some (.int .i64 R1) := (XX1.cell 0).trans rfl
      have kXX11 : w27b.cell? ⟨w19.heap.size, 1, none⟩ = some (.int .i64 C1) := (XX1.cell 1).trans rfl
      have kXX12 : w27b.cell? ⟨w19.heap.size, 2, none⟩ = some (.slice (some ⟨gO_x1, 0, none⟩) l1.length l1.length) := (XX1.cell 2).trans rfl
      have zX1 : (w.heap.size + 1) < w27b.heap.size := X1.lt
      have kX10 : w27b.cell? ⟨(w.heap.size + 1), 0, none⟩ = some (.int .i64 R1) := (X1.cell 0).trans rfl
      have kX11 : w27b.cell? ⟨(w.heap.size + 1), 1, none⟩ = some (.int .i64 C1) := (X1.cell 1).trans rfl
      have kX12 : w27b.cell? ⟨(w.heap.size + 1), 2, none⟩ = some (.slice A1 l1.length cap1) := (X1.cell 2).trans rfl
      go_wp2_with fail
      have hqXX1 : w19.heap.size < w27b.heap.size := XX1.lt
      have hqX1 : (w.heap.size + 1) < w27b.heap.size := X1.lt
      go_region_held3 (fun w' => w'.cell? ⟨w19.heap.size, 0, none⟩ = some (.int .i64 R1) ∧ w'.cell? ⟨w19.heap.size, 1, none⟩ = some (.int .i64 C1) ∧ w'.cell? ⟨w19.heap.size, 2, none⟩ = some (.slice (some ⟨gO_x1, 0, none⟩) l1.length l1.length) ∧ w'.cell? ⟨(w.heap.size + 1), 0, none⟩ = some (.int .i64 R1) ∧ w'.cell? ⟨(w.heap.size + 1), 1, none⟩ = some (.int .i64 C1) ∧ w'.cell? ⟨(w.heap.size + 1), 2, none⟩ = some (.slice A1 l1.length cap1))
        (first | exact ⟨kXX10, kXX11, kXX12, kX10, kX11, kX12⟩ | exact ⟨(b.cell (p := ⟨w19.heap.size, 0, none⟩) hqXX1).trans kXX10, (b.cell (p := ⟨w19.heap.size, 1, none⟩) hqXX1).trans kXX11, (b.cell (p := ⟨w19.heap.size, 2, none⟩) hqXX1).trans kXX12, (b.cell (p := ⟨(w.heap.size + 1), 0, none⟩) hqX1).trans kX10, (b.cell (p := ⟨(w.heap.size + 1), 1, none⟩) hqX1).trans kX11, (b.cell (p := ⟨(w.heap.size + 1), 2, none⟩) hqX1).trans kX12⟩ | exact ⟨(b2.cell (p := ⟨w19.heap.size, 0, none⟩) (Nat.lt_of_lt_of_le hqXX1 b.size)).trans ((b.cell (p := ⟨w19.heap.size, 0, none⟩) hqXX1).trans kXX10), (b2.cell (p := ⟨w19.heap.size, 1, none⟩) (Nat.lt_of_lt_of_le hqXX1 b.size)).trans ((b.cell (p := ⟨w19.heap.size, 1, none⟩) hqXX1).trans kXX11), (b2.cell (p := ⟨w19.heap.size, 2, none⟩) (Nat.lt_of_lt_of_le hqXX1 b.size)).trans ((b.cell (p := ⟨w19.heap.size, 2, none⟩) hqXX1).trans kXX12), (b2.cell (p := ⟨(w.heap.size + 1), 0, none⟩) (Nat.lt_of_lt_of_le hqX1 b.size)).trans ((b.cell (p := ⟨(w.heap.size + 1), 0, none⟩) hqX1).trans kX10), (b2.cell (p := ⟨(w.heap.size + 1), 1, none⟩) (Nat.lt_of_lt_of_le hqX1 b.size)).trans ((b.cell (p := ⟨(w.heap.size + 1), 1, none⟩) hqX1).trans kX11), (b2.cell (p := ⟨(w.heap.size + 1), 2, none⟩) (Nat.lt_of_lt_of_le hqX1 b.size)).trans ((b.cell (p := ⟨(w.heap.size + 1), 2, none⟩) hqX1).trans kX12)⟩)
        ((first | (go_at_call 15; refine (toBoard_any _ _ _ _ l1 _ hn1 ((hr1.below B.drew).mono B.size)).mono ?_; rintro e w29a ⟨gq, rfl, t, n, b⟩) | (go_at_call 18; refine (eqBoard_any _ _ _ _ _ _ _ _ l1 l1 _ hn1 hn1 ((O_x1.keep (Below.drew (Below.refl _ _))).keep b).rd t.own.rd).mono ?_; rintro e w29b ⟨rfl, b2⟩; rw [eqB_same])))
      have bb : Below w27b.heap.size w27b w29b := ((Below.refl _ _).drew).trans (b.trans (b2.mono b.size))
      clear b b2 t n zXX1 kXX10 kXX11 kXX12 zX1 kX10 kX11 kX12 hqXX1 hqX1
      replace X0 := X0.below bb X0.lt
      replace X1 := X1.below bb X1.lt
      replace O_x0 := O_x0.keep bb
      replace XX0 := XX0.below bb XX0.lt
      replace O_x1 := O_x1.keep bb
      replace XX1 := XX1.below bb XX1.lt
      replace B := B.trans (bb.mono B.size)
      have s30 : w27b.heap.size ≤ w29b.heap.size := bb.size
      clear bb
      go_wp2
      go_returns
      exact ⟨rfl, B⟩
    · go_enter Try.func11, Try.ntmps11
      have B : Below w.heap.size w w := Below.refl _ _
      go_wp2_with fail
      have b : Below w.heap.size w (w.alloc (.cells #[.int .i64 R0, .int .i64 C0, .slice A0 l0.length cap0] 24)) := (Below.refl _ _).alloc (Nat.le_refl _) _
      have X0 : Whole (w.alloc (.cells #[.int .i64 R0, .int .i64 C0, .slice A0 l0.length cap0] 24)) w.heap.size 24 [.int .i64 R0, .int .i64 C0, .slice A0 l0.length cap0] := heap_alloc_new w _
      have HZ := Lib.hid (show (w.alloc (.cells #[.int .i64 R0, .int .i64 C0, .slice A0 l0.length cap0] 24)).heap.size = w.heap.size + 1 by rw [World.size_alloc])
      replace B := B.trans (b.mono B.size)
      have s2 : w.heap.size ≤ (w.alloc (.cells #[.int .i64 R0, .int .i64 C0, .slice A0 l0.length cap0] 24)).heap.size := b.size
      clear b
      have hiX0 := X0.lt
      generalize w.alloc (.cells #[.int .i64 R0, .int .i64 C0, .slice A0 l0.length cap0] 24) = v1 at *
      have b : Below v1.heap.size v1 (v1.alloc (.cells #[.int .i64 R1, .int .i64 C1, .slice A1 l1.length cap1] 24)) := (Below.refl _ _).alloc (Nat.le_refl _) _
      have X1 : Whole (v1.alloc (.cells #[.int .i64 R1, .int .i64 C1, .slice A1 l1.length cap1] 24)) (w.heap.size + 1) 24 [.int .i64 R1, .int .i64 C1, .slice A1 l1.length cap1] := by have h := heap_alloc_new v1 (.cells #[.int .i64 R1, .int .i64 C1, .slice A1 l1.length cap1] 24); rw [HZ.out] at h; exact h
      have HZ := Lib.hid (show (v1.alloc (.cells #[.int .i64 R1, .int .i64 C1, .slice A1 l1.length cap1] 24)).heap.size = w.heap.size + 2 by rw [World.size_alloc, HZ.out])
      replace X0 := X0.below b X0.lt
      replace B := B.trans (b.mono B.size)
      have s5 : v1.heap.size ≤ (v1.alloc (.cells #[.int .i64 R1, .int .i64 C1, .slice A1 l1.length cap1] 24)).heap.size := b.size
      clear b
      have hiX1 := X1.lt
      generalize v1.alloc (.cells #[.int .i64 R1, .int .i64 C1, .slice A1 l1.length cap1] 24) = v4 at *
      have zX0 : w.heap.size < v4.heap.size := X0.lt
      have kX00 : v4.cell? ⟨w.heap.size, 0, none⟩ = some (.int .i64 R0) := (X0.cell 0).trans rfl
      have kX01 : v4.cell? ⟨w.heap.size, 1, none⟩ = some (.int .i64 C0) := (X0.cell 1).trans rfl
      have kX02 : v4.cell? ⟨w.heap.size, 2, none⟩ = some (.slice A0 l0.length cap0) := (X0.cell 2).trans rfl
      go_wp2_with fail
      refine (szBoard_any _ _ _ _ _ _ _ hm0 (by omega) (by omega)).mono ?_; rintro e w7 ⟨rfl, b⟩
      clear zX0 kX00 kX01 kX02
      rw [if_neg (by omega)]
      replace X0 := X0.below b X0.lt
      replace X1 := X1.below b X1.lt
      replace B := B.trans (b.mono B.size)
      have s8 : v4.heap.size ≤ w7.heap.size := b.size
      clear b
      have zX1 : (w.heap.size + 1) < w7.heap.size := X1.lt
      have kX10 : w7.cell? ⟨(w.heap.size + 1), 0, none⟩ = some (.int .i64 R1) := (X1.cell 0).trans rfl
      have kX11 : w7.cell? ⟨(w.heap.size + 1), 1, none⟩ = some (.int .i64 C1) := (X1.cell 1).trans rfl
      have kX12 : w7.cell? ⟨(w.heap.size + 1), 2, none⟩ = some (.slice A1 l1.length cap1) := (X1.cell 2).trans rfl
      go_wp2_with fail
      refine (szBoard_any _ _ _ _ _ _ _ hm1 (by omega) (by omega)).mono ?_; rintro e w9 ⟨rfl, b⟩
      clear zX1 kX10 kX11 kX12
      rw [if_pos (by omega)]
      replace X0 := X0.below b X0.lt
      replace X1 := X1.below b X1.lt
      replace B := B.trans (b.mono B.size)
      have s10 : w7.heap.size ≤ w9.heap.size := b.size
      clear b
      go_wp2
      go_returns
      exact ⟨rfl, B⟩
  · go_enter Try.func11, Try.ntmps11
    have B : Below w.heap.size w w := Below.refl _ _
    go_wp2_with fail
    have b : Below w.heap.size w (w.alloc (.cells #[.int .i64 R0, .int .i64 C0, .slice A0 l0.length cap0] 24)) := (Below.refl _ _).alloc (Nat.le_refl _) _
    have X0 : Whole (w.alloc (.cells #[.int .i64 R0, .int .i64 C0, .slice A0 l0.length cap0] 24)) w.heap.size 24 [.int .i64 R0, .int .i64 C0, .slice A0 l0.length cap0] := heap_alloc_new w _
    have HZ := Lib.hid (show (w.alloc (.cells #[.int .i64 R0, .int .i64 C0, .slice A0 l0.length cap0] 24)).heap.size = w.heap.size + 1 by rw [World.size_alloc])
    replace B := B.trans (b.mono B.size)
    have s2 : w.heap.size ≤ (w.alloc (.cells #[.int .i64 R0, .int .i64 C0, .slice A0 l0.length cap0] 24)).heap.size := b.size
    clear b
    have hiX0 := X0.lt
    generalize w.alloc (.cells #[.int .i64 R0, .int .i64 C0, .slice A0 l0.length cap0] 24) = v1 at *
    have b : Below v1.heap.size v1 (v1.alloc (.cells #[.int .i64 R1, .int .i64 C1, .slice A1 l1.length cap1] 24)) := (Below.refl _ _).alloc (Nat.le_refl _) _
    have X1 : Whole (v1.alloc (.cells #[.int .i64 R1, .int .i64 C1, .slice A1 l1.length cap1] 24)) (w.heap.size + 1) 24 [.int .i64 R1, .int .i64 C1, .slice A1 l1.length cap1] := by have h := heap_alloc_new v1 (.cells #[.int .i64 R1, .int .i64 C1, .slice A1 l1.length cap1] 24); rw [HZ.out] at h; exact h
    have HZ := Lib.hid (show (v1.alloc (.cells #[.int .i64 R1, .int .i64 C1, .slice A1 l1.length cap1] 24)).heap.size = w.heap.size + 2 by rw [World.size_alloc, HZ.out])
    replace X0 := X0.below b X0.lt
    replace B := B.trans (b.mono B.size)
    have s5 : v1.heap.size ≤ (v1.alloc (.cells #[.int .i64 R1, .int .i64 C1, .slice A1 l1.length cap1] 24)).heap.size := b.size
    clear b
    have hiX1 := X1.lt
    generalize v1.alloc (.cells #[.int .i64 R1, .int .i64 C1, .slice A1 l1.length cap1] 24) = v4 at *
    have zX0 : w.heap.size < v4.heap.size := X0.lt
    have kX00 : v4.cell? ⟨w.heap.size, 0, none⟩ = some (.int .i64 R0) := (X0.cell 0).trans rfl
    have kX01 : v4.cell? ⟨w.heap.size, 1, none⟩ = some (.int .i64 C0) := (X0.cell 1).trans rfl
    have kX02 : v4.cell? ⟨w.heap.size, 2, none⟩ = some (.slice A0 l0.length cap0) := (X0.cell 2).trans rfl
    go_wp2_with fail
    refine (szBoard_any _ _ _ _ _ _ _ hm0 (by omega) (by omega)).mono ?_; rintro e w7 ⟨rfl, b⟩
    clear zX0 kX00 kX01 kX02
    rw [if_pos (by omega)]
    replace X0 := X0.below b X0.lt
    replace X1 := X1.below b X1.lt
    replace B := B.trans (b.mono B.size)
    have s8 : v4.heap.size ≤ w7.heap.size := b.size
    clear b
    go_wp2
    go_returns
    exact ⟨rfl, B⟩
theorem SameFalls_walk : Walk Try.prog 11 Try.f11 := by
  intro H enc W base args ds ps hA hval
  rw [Try.params11] at hA hval
  obtain ⟨v0, vs0, d0, ds0, p0, q0, hv0, hd0, hp0, h0, r0⟩ := trodAll_cons hA
  obtain ⟨v1, vs1, d1, ds1, p1, q1, hv1, hd1, hp1, h1, r1⟩ := trodAll_cons r0
  obtain ⟨e1, e2, e3⟩ := trodAll_nil r1
  have ha : args = #[v0, v1] := by
    apply Array.toList_inj.1
    rw [hv0, hv1, e1]
  subst ha
  obtain ⟨R0, C0, A0, cap0, l0, rfl, hm0, hr0, -, -⟩ := open_board (hval 0 24 v0 rfl rfl) h0
  obtain ⟨R1, C1, A1, cap1, l1, rfl, hm1, hr1, -, -⟩ := open_board (hval 1 24 v1 rfl rfl) h1
  exact SameFalls_walk0 R0 C0 A0 cap0 l0 R1 C1 A1 cap1 l1 W hm0 hr0 hm1 hr1
set_option maxRecDepth 100000 in
theorem SameFalls_holds : Rows.FnExactSameFallsSaid :=
  OpenClaim.holds_of_wide 11 Try.f11 rfl rfl rfl rfl rfl rfl rfl ⟨rfl, rfl, rfl, rfl, rfl⟩ rfl rfl rfl rfl rfl (by kernel_rfl) Try.func11 (by kernel_rfl)
    (of_decide_eq_true (by kernel_rfl)) (by unfold Func.isWrapper; first | (rw [if_pos (by decide +kernel)]; kernel_rfl) | (rw [if_neg (by decide +kernel)]; exact ⟨rfl, rfl⟩))
    (fun os started H enc _ => lifted (C := Try.checked) (s := Rows.fnExactSameFallsSpec) started own (by kernel_rfl) Try.func11 ⟨#[], #[.agg #[.int .i64 0, .int .i64 0, .slice none 0 0], .agg #[.int .i64 0, .int .i64 0, .slice none 0 0]], []⟩ 8 (by kernel_rfl) (by kernel_rfl) (by kernel_rfl) (by kernel_rfl) (by kernel_rfl)
      laidOut (by kernel_rfl) rfl rfl Try.underlying4 (fun ds h => by
        match ds, h with
        | [d0, d1], _ => exact ⟨rfl, rfl, rfl⟩) SameFalls_walk)
end Go.Proofs.Ytoflhjekldlaiaa
