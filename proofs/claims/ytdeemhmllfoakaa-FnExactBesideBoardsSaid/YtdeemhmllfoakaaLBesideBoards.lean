/- For every two boards, BesideBoards of the program answers as the model does, keeps its arguments, and owns what it hands back. No condition. -/
import Derived.Test.YtdeemhmllfoakaaOpen
import Derived.Test.YtdeemhmllfoakaaMark
import Derived.Test.YtdeemhmllfoakaaBoxes
import Derived.Deep.RegionHeld3
import Derived.Deep.DeepCutAuto
import Derived.Test.YtdeemhmllfoakaaBeside3
namespace Go.Proofs.Ytdeemhmllfoakaa
open Go.ChangeShapes Go.WideShapes Go.ChangeAt Go.RowKit Go.Joins Go.Deep
set_option linter.unusedSimpArgs false
set_option linter.unusedVariables false
set_option maxRecDepth 100000
set_option maxHeartbeats 4000000 in
theorem BesideBoards_walk0 (R0 C0 : Int) (A0 : Option Addr) (cap0 : Nat) (l0 : List (Int × Int)) (R1 C1 : Int) (A1 : Option Addr) (cap1 : Nat) (l1 : List (Int × Int)) (w : World) (hm0 : l0.length ≤ maxLen) (hr0 : Rd w w.heap.size A0 (flat l0)) (hm1 : l1.length ≤ maxLen) (hr1 : Rd w w.heap.size A1 (flat l1)) :
    Calls Try.prog 11 #[.agg #[.int .i64 R0, .int .i64 C0, .slice A0 l0.length cap0], .agg #[.int .i64 R1, .int .i64 C1, .slice A1 l1.length cap1]] w fun e w' => e = .returned (.bool true) ∧ Below w.heap.size w w' := by
  by_cases ht0 : l0.length ≤ 1048576
  · have hn0 : l0.length ≤ 1048576 := by omega
    by_cases ht1 : l0.length + l1.length ≤ 1048576
    · have hn1 : l1.length ≤ 1048576 := by omega
      go_enter Try.func11, Try.ntmps11
      have B : Below w.heap.size w w := Below.refl _ _
      go_wp2_with fail
      have b : Below w.heap.size w (w.alloc (.cells #[.int .i64 R0, .int .i64 C0, .slice A0 l0.length cap0] 24)) := (Below.refl _ _).alloc (Nat.le_refl _) _
      have X0 : Whole (w.alloc (.cells #[.int .i64 R0, .int .i64 C0, .slice A0 l0.length cap0] 24)) w.heap.size 24 [.int .i64 R0, .int .i64 C0, .slice A0 l0.length cap0] := heap_alloc_new w _
      have HZ := Lib.hid (show (w.alloc (.cells #[.int .i64 R0, .int .i64 C0, .slice A0 l0.length cap0] 24)).heap.size = w.heap.size + 1 by rw [World.size_alloc])
      replace B := B.trans (b.mono B.size)
      have s2 : w.heap.size ≤ (w.alloc (.cells #[.int .i64 R0, .int .i64 C0, .slice A0 l0.length cap0] 24)).heap.size := b.size
      clear b
      have hiX0 := X0.lt
      generalize w.alloc (.cells #[.int .i64 R0, .int .i64 C0, .slice A0 l0.length cap0] 24) = v1 at *
      have b : Below v1.heap.size v1 (v1.alloc (.cells #[.int .i64 R1, .int .i64 C1, .slice A1 l1.length cap1] 24)) := (Below.refl _ _).alloc (Nat.le_refl _) _
      have X1 : Whole (v1.alloc (.cells #[.int .i64 R1, .int .i64 C1, .slice A1 l1.length cap1] 24)) (w.heap.size + 1) 24 [.int .i64 R1, .int .i64 C1, .slice A1 l1.length cap1] := by have h := heap_alloc_new v1 (.cells #[.int .i64 R1, .int .i64 C1, .slice A1 l1.length cap1] 24); rw [HZ.out] at h; exact h
      have HZ := Lib.hid (show (v1.alloc (.cells #[.int .i64 R1, .int .i64 C1, .slice A1 l1.length cap1] 24)).heap.size = w.heap.size + 2 by rw [World.size_alloc, HZ.out])
      replace X0 := X0.below b X0.lt
      replace B := B.trans (b.mono B.size)
      have s5 : v1.heap.size ≤ (v1.alloc (.cells #[.int .i64 R1, .int .i64 C1, .slice A1 l1.length cap1] 24)).heap.size := b.size
      clear b
      have hiX1 := X1.lt
      generalize v1.alloc (.cells #[.int .i64 R1, .int .i64 C1, .slice A1 l1.length cap1] 24) = v4 at *
      have zX0 : w.heap.size < v4.heap.size := X0.lt
      have kX00 : v4.cell? ⟨w.heap.size, 0, none⟩ = some (.int .i64 R0) := (X0.cell 0).trans rfl
      have kX01 : v4.cell? ⟨w.heap.size, 1, none⟩ = some (.int .i64 C0) := (X0.cell 1).trans rfl
      have kX02 : v4.cell? ⟨w.heap.size, 2, none⟩ = some (.slice A0 l0.length cap0) := (X0.cell 2).trans rfl
      go_wp2_with fail
      refine (szBoard_any _ _ _ _ _ _ _ hm0 (by omega) (by omega)).mono ?_; rintro e w7 ⟨rfl, b⟩
      clear zX0 kX00 kX01 kX02
      rw [if_neg (by omega)]
      replace X0 := X0.below b X0.lt
      replace X1 := X1.below b X1.lt
      replace B := B.trans (b.mono B.size)
      have s8 : v4.heap.size ≤ w7.heap.size := b.size
      clear b
      have zX1 : (w.heap.size + 1) < w7.heap.size := X1.lt
      have kX10 : w7.cell? ⟨(w.heap.size + 1), 0, none⟩ = some (.int .i64 R1) := (X1.cell 0).trans rfl
      have kX11 : w7.cell? ⟨(w.heap.size + 1), 1, none⟩ = some (.int .i64 C1) := (X1.cell 1).trans rfl
      have kX12 : w7.cell? ⟨(w.heap.size + 1), 2, none⟩ = some (.slice A1 l1.length cap1) := (X1.cell 2).trans rfl
      go_wp2_with fail
      refine (szBoard_any _ _ _ _ _ _ _ hm1 (by omega) (by omega)).mono ?_; rintro e w9 ⟨rfl, b⟩
      clear zX1 kX10 kX11 kX12
      rw [if_neg (by omega)]
      replace X0 := X0.below b X0.lt
      replace X1 := X1.below b X1.lt
      replace B := B.trans (b.mono B.size)
      have s10 : w7.heap.size ≤ w9.heap.size := b.size
      clear b
      have zX0 : w.heap.size < w9.heap.size := X0.lt
      have kX00 : w9.cell? ⟨w.heap.size, 0, none⟩ = some (.int .i64 R0) := (X0.cell 0).trans rfl
      have kX01 : w9.cell? ⟨w.heap.size, 1, none⟩ = some (.int .i64 C0) := (X0.cell 1).trans rfl
      have kX02 : w9.cell? ⟨w.heap.size, 2, none⟩ = some (.slice A0 l0.length cap0) := (X0.cell 2).trans rfl
      have zX1 : (w.heap.size + 1) < w9.heap.size := X1.lt
      have kX10 : w9.cell? ⟨(w.heap.size + 1), 0, none⟩ = some (.int .i64 R1) := (X1.cell 0).trans rfl
      have kX11 : w9.cell? ⟨(w.heap.size + 1), 1, none⟩ = some (.int .i64 C1) := (X1.cell 1).trans rfl
      have kX12 : w9.cell? ⟨(w.heap.size + 1), 2, none⟩ = some (.slice A1 l1.length cap1) := (X1.cell 2).trans rfl
      go_wp2_with fail
      have hqX0 : w.heap.size < w9.heap.size := X0.lt
      have hqX1 : (w.heap.size + 1) < w9.heap.size := X1.lt
      have KS := Lib.hid (fun (w' : World) (h : Below w9.heap.size w9 w') => (⟨(h.cell (p := ⟨w.heap.size, 0, none⟩) hqX0).trans kX00, (h.cell (p := ⟨w.heap.size, 1, none⟩) hqX0).trans kX01, (h.cell (p := ⟨w.heap.size, 2, none⟩) hqX0).trans kX02, (h.cell (p := ⟨(w.heap.size + 1), 0, none⟩) hqX1).trans kX10, (h.cell (p := ⟨(w.heap.size + 1), 1, none⟩) hqX1).trans kX11, (h.cell (p := ⟨(w.heap.size + 1), 2, none⟩) hqX1).trans kX12⟩ : w'.cell? ⟨w.heap.size, 0, none⟩ = some (.int .i64 R0) ∧ w'.cell? ⟨w.heap.size, 1, none⟩ = some (.int .i64 C0) ∧ w'.cell? ⟨w.heap.size, 2, none⟩ = some (.slice A0 l0.length cap0) ∧ w'.cell? ⟨(w.heap.size + 1), 0, none⟩ = some (.int .i64 R1) ∧ w'.cell? ⟨(w.heap.size + 1), 1, none⟩ = some (.int .i64 C1) ∧ w'.cell? ⟨(w.heap.size + 1), 2, none⟩ = some (.slice A1 l1.length cap1)))
      go_cut [6, 7] (fun z y wx => ∃ (g : Nat) (A : Option Addr) (c : Nat), z = .pointer (some ⟨g, 0, none⟩) ∧ y = .bool (okBeside R0 C0 l0 R1 C1 l1) ∧ Whole wx g 29 [.int .i64 (selI (okBeside R0 C0 l0 R1 C1 l1) R0), .int .i64 (selI (okBeside R0 C0 l0 R1 C1 l1) (C0 + C1)), .slice A (besideL R0 C0 l0 R1 C1 l1).length c] ∧ Own wx A 34 (flat (besideL R0 C0 l0 R1 C1 l1)) ∧ New w9 A ∧ Below w9.heap.size w9 wx)
      case first =>
        go_region_held3 (fun w' => w'.cell? ⟨w.heap.size, 0, none⟩ = some (.int .i64 R0) ∧ w'.cell? ⟨w.heap.size, 1, none⟩ = some (.int .i64 C0) ∧ w'.cell? ⟨w.heap.size, 2, none⟩ = some (.slice A0 l0.length cap0) ∧ w'.cell? ⟨(w.heap.size + 1), 0, none⟩ = some (.int .i64 R1) ∧ w'.cell? ⟨(w.heap.size + 1), 1, none⟩ = some (.int .i64 C1) ∧ w'.cell? ⟨(w.heap.size + 1), 2, none⟩ = some (.slice A1 l1.length cap1)) (exact KS.out _ (by (repeat' (first | (with_reducible exact Below.refl _ _) | (with_reducible assumption) | (with_reducible refine Below.alloc ?_ ?_ _) | (with_reducible refine Below.setCell ?_ ?_ _) | (with_reducible refine Below.drew ?_) | (with_reducible refine below_drewN ?_ _) | (with_reducible refine Below.trans ?_ (Below.mono (by assumption) ?_)) | go_size)))) ((first | (go_at_call 17; (with_reducible refine (toBoard_any _ _ A0 cap0 l0 _ hn0 ?_).mono ?_); (focus exact (hr0.below (B.trans ((by (repeat' (first | (with_reducible exact Below.refl _ _) | (with_reducible assumption) | (with_reducible refine Below.alloc ?_ ?_ _) | (with_reducible refine Below.setCell ?_ ?_ _) | (with_reducible refine Below.drew ?_) | (with_reducible refine below_drewN ?_ _) | (with_reducible refine Below.trans ?_ (Below.mono (by assumption) ?_)) | go_size)) : Below w9.heap.size w9 _).mono B.size))).mono (Nat.le_trans B.size (by (repeat' (first | (with_reducible exact Below.refl _ _) | (with_reducible assumption) | (with_reducible refine Below.alloc ?_ ?_ _) | (with_reducible refine Below.setCell ?_ ?_ _) | (with_reducible refine Below.drew ?_) | (with_reducible refine below_drewN ?_ _) | (with_reducible refine Below.trans ?_ (Below.mono (by assumption) ?_)) | go_size)) : Below w9.heap.size w9 _).size)); rintro e w11_0 ⟨gT0, rfl, tT0, nT0, bT0⟩; have sT0 : w9.heap.size ≤ w11_0.heap.size := (by (repeat' (first | (with_reducible exact Below.refl _ _) | (with_reducible assumption) | (with_reducible refine Below.alloc ?_ ?_ _) | (with_reducible refine Below.setCell ?_ ?_ _) | (with_reducible refine Below.drew ?_) | (with_reducible refine below_drewN ?_ _) | (with_reducible refine Below.trans ?_ (Below.mono (by assumption) ?_)) | go_size)) : Below w9.heap.size w9 w11_0).size; (first | have zb := zb.below bT0 zb.lt | have zb : Whole w11_0 w9.heap.size 29 [.int .i64 0, .int .i64 0, .slice none 0 0] := Whole.below (heap_alloc_new w9.drew _) bT0 (by simp) | skip)) | (go_at_call 17; (with_reducible refine (toBoard_any _ _ A1 cap1 l1 _ hn1 ?_).mono ?_); (focus exact (hr1.below (B.trans ((by (repeat' (first | (with_reducible exact Below.refl _ _) | (with_reducible assumption) | (with_reducible refine Below.alloc ?_ ?_ _) | (with_reducible refine Below.setCell ?_ ?_ _) | (with_reducible refine Below.drew ?_) | (with_reducible refine below_drewN ?_ _) | (with_reducible refine Below.trans ?_ (Below.mono (by assumption) ?_)) | go_size)) : Below w9.heap.size w9 _).mono B.size))).mono (Nat.le_trans B.size (by (repeat' (first | (with_reducible exact Below.refl _ _) | (with_reducible assumption) | (with_reducible refine Below.alloc ?_ ?_ _) | (with_reducible refine Below.setCell ?_ ?_ _) | (with_reducible refine Below.drew ?_) | (with_reducible refine below_drewN ?_ _) | (with_reducible refine Below.trans ?_ (Below.mono (by assumption) ?_)) | go_size)) : Below w9.heap.size w9 _).size)); rintro e w11_1 ⟨gT1, rfl, tT1, nT1, bT1⟩; have sT1 : w9.heap.size ≤ w11_1.heap.size := (by (repeat' (first | (with_reducible exact Below.refl _ _) | (with_reducible assumption) | (with_reducible refine Below.alloc ?_ ?_ _) | (with_reducible refine Below.setCell ?_ ?_ _) | (with_reducible refine Below.drew ?_) | (with_reducible refine below_drewN ?_ _) | (with_reducible refine Below.trans ?_ (Below.mono (by assumption) ?_)) | go_size)) : Below w9.heap.size w9 w11_1).size; (first | have zb := zb.below bT1 zb.lt | have zb : Whole w11_1 w11_0.heap.size 29 [.int .i64 0, .int .i64 0, .slice none 0 0] := Whole.below (heap_alloc_new w11_0 _) bT1 (by simp) | skip); have s_w11_0_w11_1 : w11_0.heap.size ≤ w11_1.heap.size := (by have h := bT1.size; (try simp at h); omega)) | (go_at_call 41; (with_reducible refine (spec_BesideBoards _ _ _ _ l0 _ _ _ _ l1 _ hn0 ?_ hn1 ?_ (Nat.le_refl _) (Nat.le_refl _)).mono ?_); (focus exact (tT0.below (by (repeat' (first | (with_reducible exact Below.refl _ _) | (with_reducible assumption) | (with_reducible refine Below.alloc ?_ ?_ _) | (with_reducible refine Below.setCell ?_ ?_ _) | (with_reducible refine Below.drew ?_) | (with_reducible refine below_drewN ?_ _) | (with_reducible refine Below.trans ?_ (Below.mono (by assumption) ?_)) | go_size)) : Below w11_0.heap.size w11_0 _) (by first | exact (tT0).lt | (have h1 := (tT0).lt; omega))).own.rd); (focus exact (tT1.below (by (repeat' (first | (with_reducible exact Below.refl _ _) | (with_reducible assumption) | (with_reducible refine Below.alloc ?_ ?_ _) | (with_reducible refine Below.setCell ?_ ?_ _) | (with_reducible refine Below.drew ?_) | (with_reducible refine below_drewN ?_ _) | (with_reducible refine Below.trans ?_ (Below.mono (by assumption) ?_)) | go_size)) : Below w11_1.heap.size w11_1 _) (by first | exact (tT1).lt | (have h1 := (tT1).lt; omega))).own.rd); rintro e w11_f ⟨Aw0, cw0, rfl, Ow0, loOw0, b⟩; have sTf : w9.heap.size ≤ w11_f.heap.size := (by (repeat' (first | (with_reducible exact Below.refl _ _) | (with_reducible assumption) | (with_reducible refine Below.alloc ?_ ?_ _) | (with_reducible refine Below.setCell ?_ ?_ _) | (with_reducible refine Below.drew ?_) | (with_reducible refine below_drewN ?_ _) | (with_reducible refine Below.trans ?_ (Below.mono (by assumption) ?_)) | go_size)) : Below w9.heap.size w9 w11_f).size; (first | have zb := zb.below b zb.lt | have zb : Whole w11_f w11_1.heap.size 29 [.int .i64 0, .int .i64 0, .slice none 0 0] := Whole.below (heap_alloc_new w11_1 _) b (by simp) | skip); have s_w11_1_w11_f : w11_1.heap.size ≤ w11_f.heap.size := (by have h := b.size; (try simp at h); omega); have s_w11_0_w11_f : w11_0.heap.size ≤ w11_f.heap.size := (by have h := b.size; (try simp at h); omega); (first | (have q0 := (zb.cell 0).trans rfl; have q1 := (zb.cell 1).trans rfl; have q2 := (zb.cell 2).trans rfl; have qf0 := zb.frozen 0; have qf1 := zb.frozen 1; have qf2 := zb.frozen 2) | skip)) | fail))
        all_goals (go_wp2_with fail; go_meet)
        all_goals (refine ⟨_, Aw0, cw0, rfl, rfl, ?_, ?_, loOw0.mono (by (repeat' (first | (with_reducible exact Below.refl _ _) | (with_reducible assumption) | (with_reducible refine Below.alloc ?_ ?_ _) | (with_reducible refine Below.setCell ?_ ?_ _) | (with_reducible refine Below.drew ?_) | (with_reducible refine below_drewN ?_ _) | (with_reducible refine Below.trans ?_ (Below.mono (by assumption) ?_)) | go_size)) : Below w9.heap.size w9 _).size, by (repeat' (first | (with_reducible exact Below.refl _ _) | (with_reducible assumption) | (with_reducible refine Below.alloc ?_ ?_ _) | (with_reducible refine Below.setCell ?_ ?_ _) | (with_reducible refine Below.drew ?_) | (with_reducible refine below_drewN ?_ _) | (with_reducible refine Below.trans ?_ (Below.mono (by assumption) ?_)) | go_size))⟩)
        all_goals first
          | exact heap_alloc_new _ _
          | exact whole_three zb
          | exact whole_three (heap_alloc_new _ _)
          | exact Ow0.keep ((Below.refl _ _).alloc (Nat.le_refl _) _)
          | exact ((Ow0.set_far2 _ _ (fun hx a ha => (own_apart Ow0 zb (by decide) hx ha).symm)).set_far2 _ _ (fun hx a ha => (own_apart Ow0 zb (by decide) hx ha).symm)).set_far2 _ _ (fun hx a ha => (own_apart Ow0 zb (by decide) hx ha).symm)
      case rest =>
        rename World => wc12
        obtain ⟨gZw0, Aw0, cw0, rfl, rfl, Zw0, Ow0, loOw0, b⟩ := hcut
        clear KS zX0 kX00 kX01 kX02 zX1 kX10 kX11 kX12 hqX0 hqX1
        replace X0 := X0.below b X0.lt
        replace X1 := X1.below b X1.lt
        replace B := B.trans (b.mono B.size)
        have s13 : w9.heap.size ≤ wc12.heap.size := b.size
        clear b
        have hiOw0 : ∀ a : Addr, Aw0 = some a → 0 < (besideL R0 C0 l0 R1 C1 l1).length → a.block < wc12.heap.size := fun a ha hx => Ow0.lt (pos_flat hx) ha
        have hiZw0 := Zw0.lt
        have zX0 : w.heap.size < wc12.heap.size := X0.lt
        have kX00 : wc12.cell? ⟨w.heap.size, 0, none⟩ = some (.int .i64 R0) := (X0.cell 0).trans rfl
        have kX01 : wc12.cell? ⟨w.heap.size, 1, none⟩ = some (.int .i64 C0) := (X0.cell 1).trans rfl
        have kX02 : wc12.cell? ⟨w.heap.size, 2, none⟩ = some (.slice A0 l0.length cap0) := (X0.cell 2).trans rfl
        have zX1 : (w.heap.size + 1) < wc12.heap.size := X1.lt
        have kX10 : wc12.cell? ⟨(w.heap.size + 1), 0, none⟩ = some (.int .i64 R1) := (X1.cell 0).trans rfl
        have kX11 : wc12.cell? ⟨(w.heap.size + 1), 1, none⟩ = some (.int .i64 C1) := (X1.cell 1).trans rfl
        have kX12 : wc12.cell? ⟨(w.heap.size + 1), 2, none⟩ = some (.slice A1 l1.length cap1) := (X1.cell 2).trans rfl
        go_wp2_with fail
        clear zX0 kX00 kX01 kX02 zX1 kX10 kX11 kX12
        refine (toBoard_any _ _ _ _ l0 _ hn0 ((hr0.below B).mono B.size)).mono ?_; rintro e w16 ⟨gO_x0, rfl, t, n, b⟩
        replace X0 := X0.below b X0.lt
        replace X1 := X1.below b X1.lt
        replace Ow0 := Ow0.keep b
        replace Zw0 := Zw0.below b Zw0.lt
        replace B := B.trans (b.mono B.size)
        have s17 : wc12.heap.size ≤ w16.heap.size := b.size
        clear b
        have O_x0 := t.own
        have loO_x0 : ∀ a : Addr, (some ⟨gO_x0, 0, none⟩) = some a → wc12.heap.size ≤ a.block := fun a ha => by cases ha; exact n
        have hiO_x0 : ∀ a : Addr, (some ⟨gO_x0, 0, none⟩) = some a → 0 < l0.length → a.block < w16.heap.size := fun a ha _ => by cases ha; exact t.lt
        clear t n
        have zX0 : w.heap.size < w16.heap.size := X0.lt
        have kX00 : w16.cell? ⟨w.heap.size, 0, none⟩ = some (.int .i64 R0) := (X0.cell 0).trans rfl
        have kX01 : w16.cell? ⟨w.heap.size, 1, none⟩ = some (.int .i64 C0) := (X0.cell 1).trans rfl
        have kX02 : w16.cell? ⟨w.heap.size, 2, none⟩ = some (.slice A0 l0.length cap0) := (X0.cell 2).trans rfl
        have zX1 : (w.heap.size + 1) < w16.heap.size := X1.lt
        have kX10 : w16.cell? ⟨(w.heap.size + 1), 0, none⟩ = some (.int .i64 R1) := (X1.cell 0).trans rfl
        have kX11 : w16.cell? ⟨(w.heap.size + 1), 1, none⟩ = some (.int .i64 C1) := (X1.cell 1).trans rfl
        have kX12 : w16.cell? ⟨(w.heap.size + 1), 2, none⟩ = some (.slice A1 l1.length cap1) := (X1.cell 2).trans rfl
        go_wp2_with fail
        clear zX0 kX00 kX01 kX02 zX1 kX10 kX11 kX12
        have b : Below w16.heap.size w16 (w16.alloc (.cells #[.int .i64 R0, .int .i64 C0, .slice (some ⟨gO_x0, 0, none⟩) l0.length l0.length] 29)) := (Below.refl _ _).alloc (Nat.le_refl _) _
        have XX0 : Whole (w16.alloc (.cells #[.int .i64 R0, .int .i64 C0, .slice (some ⟨gO_x0, 0, none⟩) l0.length l0.length] 29)) w16.heap.size 29 [.int .i64 R0, .int .i64 C0, .slice (some ⟨gO_x0, 0, none⟩) l0.length l0.length] := heap_alloc_new w16 _
        replace X0 := X0.below b X0.lt
        replace X1 := X1.below b X1.lt
        replace Ow0 := Ow0.keep b
        replace Zw0 := Zw0.below b Zw0.lt
        replace O_x0 := O_x0.keep b
        replace B := B.trans (b.mono B.size)
        have s20 : w16.heap.size ≤ (w16.alloc (.cells #[.int .i64 R0, .int .i64 C0, .slice (some ⟨gO_x0, 0, none⟩) l0.length l0.length] 29)).heap.size := b.size
        clear b
        have hiXX0 := XX0.lt
        generalize w16.alloc (.cells #[.int .i64 R0, .int .i64 C0, .slice (some ⟨gO_x0, 0, none⟩) l0.length l0.length] 29) = v19 at *
        refine (toBoard_any _ _ _ _ l1 _ hn1 ((hr1.below B).mono B.size)).mono ?_; rintro e w22 ⟨gO_x1, rfl, t, n, b⟩
        replace X0 := X0.below b X0.lt
        replace X1 := X1.below b X1.lt
        replace Ow0 := Ow0.keep b
        replace Zw0 := Zw0.below b Zw0.lt
        replace O_x0 := O_x0.keep b
        replace XX0 := XX0.below b XX0.lt
        replace B := B.trans (b.mono B.size)
        have s23 : v19.heap.size ≤ w22.heap.size := b.size
        clear b
        have O_x1 := t.own
        have loO_x1 : ∀ a : Addr, (some ⟨gO_x1, 0, none⟩) = some a → v19.heap.size ≤ a.block := fun a ha => by cases ha; exact n
        have hiO_x1 : ∀ a : Addr, (some ⟨gO_x1, 0, none⟩) = some a → 0 < l1.length → a.block < w22.heap.size := fun a ha _ => by cases ha; exact t.lt
        clear t n
        have zXX0 : w16.heap.size < w22.heap.size := XX0.lt
        have kXX00 : w22.cell? ⟨w16.heap.size, 0, none⟩ = some (.int .i64 R0) := (XX0.cell 0).trans rfl
        have kXX01 : w22.cell? ⟨w16.heap.size, 1, none⟩ = some (.int .i64 C0) := (XX0.cell 1).trans rfl
        have kXX02 : w22.cell? ⟨w16.heap.size, 2, none⟩ = some (.slice (some ⟨gO_x0, 0, none⟩) l0.length l0.length) := (XX0.cell 2).trans rfl
        go_wp2_with fail
        clear zXX0 kXX00 kXX01 kXX02
        have b : Below w22.heap.size w22 (w22.alloc (.cells #[.int .i64 R1, .int .i64 C1, .slice (some ⟨gO_x1, 0, none⟩) l1.length l1.length] 29)) := (Below.refl _ _).alloc (Nat.le_refl _) _
        have XX1 : Whole (w22.alloc (.cells #[.int .i64 R1, .int .i64 C1, .slice (some ⟨gO_x1, 0, none⟩) l1.length l1.length] 29)) w22.heap.size 29 [.int .i64 R1, .int .i64 C1, .slice (some ⟨gO_x1, 0, none⟩) l1.length l1.length] := heap_alloc_new w22 _
        replace X0 := X0.below b X0.lt
        replace X1 := X1.below b X1.lt
        replace Ow0 := Ow0.keep b
        replace Zw0 := Zw0.below b Zw0.lt
        replace O_x0 := O_x0.keep b
        replace XX0 := XX0.below b XX0.lt
        replace O_x1 := O_x1.keep b
        replace B := B.trans (b.mono B.size)
        have s26 : w22.heap.size ≤ (w22.alloc (.cells #[.int .i64 R1, .int .i64 C1, .slice (some ⟨gO_x1, 0, none⟩) l1.length l1.length] 29)).heap.size := b.size
        clear b
        have hiXX1 := XX1.lt
        generalize w22.alloc (.cells #[.int .i64 R1, .int .i64 C1, .slice (some ⟨gO_x1, 0, none⟩) l1.length l1.length] 29) = v25 at *
        refine (impl_BesideBoards _ _ _ _ l0 _ _ _ _ l1 _ hn0 (O_x0.rd) hn1 (O_x1.rd) (Nat.le_refl _) (Nat.le_refl _)).mono ?_; rintro e w28 ⟨Ag0, cg0, rfl, Og0, loOg0, b⟩
        replace X0 := X0.below b X0.lt
        replace X1 := X1.below b X1.lt
        replace Ow0 := Ow0.keep b
        replace Zw0 := Zw0.below b Zw0.lt
        replace O_x0 := O_x0.keep b
        replace XX0 := XX0.below b XX0.lt
        replace O_x1 := O_x1.keep b
        replace XX1 := XX1.below b XX1.lt
        replace B := B.trans (b.mono B.size)
        have s29 : v25.heap.size ≤ w28.heap.size := b.size
        clear b
        have hiOg0 : ∀ a : Addr, Ag0 = some a → 0 < (besideL R0 C0 l0 R1 C1 l1).length → a.block < w28.heap.size := fun a ha hx => Og0.lt (pos_flat hx) ha
        have zZw0 : gZw0 < w28.heap.size := Zw0.lt
        have kZw00 : w28.cell? ⟨gZw0, 0, none⟩ = some (.int .i64 (selI (okBeside R0 C0 l0 R1 C1 l1) R0)) := (Zw0.cell 0).trans rfl
        have kZw01 : w28.cell? ⟨gZw0, 1, none⟩ = some (.int .i64 (selI (okBeside R0 C0 l0 R1 C1 l1) (C0 + C1))) := (Zw0.cell 1).trans rfl
        have kZw02 : w28.cell? ⟨gZw0, 2, none⟩ = some (.slice Aw0 (besideL R0 C0 l0 R1 C1 l1).length cw0) := (Zw0.cell 2).trans rfl
        go_wp2_with fail
        clear zZw0 kZw00 kZw01 kZw02
        have b : Below w28.heap.size w28 (w28.alloc (.cells #[.int .i64 (selI (okBeside R0 C0 l0 R1 C1 l1) R0), .int .i64 (selI (okBeside R0 C0 l0 R1 C1 l1) (C0 + C1)), .slice Ag0 (besideL R0 C0 l0 R1 C1 l1).length cg0] 29)) := (Below.refl _ _).alloc (Nat.le_refl _) _
        have Zg0 : Whole (w28.alloc (.cells #[.int .i64 (selI (okBeside R0 C0 l0 R1 C1 l1) R0), .int .i64 (selI (okBeside R0 C0 l0 R1 C1 l1) (C0 + C1)), .slice Ag0 (besideL R0 C0 l0 R1 C1 l1).length cg0] 29)) w28.heap.size 29 [.int .i64 (selI (okBeside R0 C0 l0 R1 C1 l1) R0), .int .i64 (selI (okBeside R0 C0 l0 R1 C1 l1) (C0 + C1)), .slice Ag0 (besideL R0 C0 l0 R1 C1 l1).length cg0] := heap_alloc_new w28 _
        replace X0 := X0.below b X0.lt
        replace X1 := X1.below b X1.lt
        replace Ow0 := Ow0.keep b
        replace Zw0 := Zw0.below b Zw0.lt
        replace O_x0 := O_x0.keep b
        replace XX0 := XX0.below b XX0.lt
        replace O_x1 := O_x1.keep b
        replace XX1 := XX1.below b XX1.lt
        replace Og0 := Og0.keep b
        replace B := B.trans (b.mono B.size)
        have s32 : w28.heap.size ≤ (w28.alloc (.cells #[.int .i64 (selI (okBeside R0 C0 l0 R1 C1 l1) R0), .int .i64 (selI (okBeside R0 C0 l0 R1 C1 l1) (C0 + C1)), .slice Ag0 (besideL R0 C0 l0 R1 C1 l1).length cg0] 29)).heap.size := b.size
        clear b
        have hiZg0 := Zg0.lt
        generalize w28.alloc (.cells #[.int .i64 (selI (okBeside R0 C0 l0 R1 C1 l1) R0), .int .i64 (selI (okBeside R0 C0 l0 R1 C1 l1) (C0 + C1)), .slice Ag0 (besideL R0 C0 l0 R1 C1 l1).length cg0] 29) = v31 at *
        refine (eqBoard_any _ _ _ _ _ _ _ _ (besideL R0 C0 l0 R1 C1 l1) (besideL R0 C0 l0 R1 C1 l1) _ (besideL_len _ _ _ _ _ _) (besideL_len _ _ _ _ _ _) Og0.rd Ow0.rd).mono ?_; rintro e w34 ⟨rfl, b⟩
        rw [eqB_same]
        replace X0 := X0.below b X0.lt
        replace X1 := X1.below b X1.lt
        replace Ow0 := Ow0.keep b
        replace Zw0 := Zw0.below b Zw0.lt
        replace O_x0 := O_x0.keep b
        replace XX0 := XX0.below b XX0.lt
        replace O_x1 := O_x1.keep b
        replace XX1 := XX1.below b XX1.lt
        replace Og0 := Og0.keep b
        replace Zg0 := Zg0.below b Zg0.lt
        replace B := B.trans (b.mono B.size)
        have s35 : v31.heap.size ≤ w34.heap.size := b.size
        clear b
        have zXX0 : w16.heap.size < w34.heap.size := XX0.lt
        have kXX00 : w34.cell? ⟨w16.heap.size, 0, none⟩ = some (.int .i64 R0) := (XX0.cell 0).trans rfl
        have kXX01 : w34.cell? ⟨w16.heap.size, 1, none⟩ = some (.int .i64 C0) := (XX0.cell 1).trans rfl
        have kXX02 : w34.cell? ⟨w16.heap.size, 2, none⟩ = some (.slice (some ⟨gO_x0, 0, none⟩) l0.length l0.length) := (XX0.cell 2).trans rfl
        have zX0 : w.heap.size < w34.heap.size := X0.lt
        have kX00 : w34.cell? ⟨w.heap.size, 0, none⟩ = some (.int .i64 R0) := (X0.cell 0).trans rfl
        have kX01 : w34.cell? ⟨w.heap.size, 1, none⟩ = some (.int .i64 C0) := (X0.cell 1).trans rfl
        have kX02 : w34.cell? ⟨w.heap.size, 2, none⟩ = some (.slice A0 l0.length cap0) := (X0.cell 2).trans rfl
        go_wp2_with fail
        have hqXX0 : w16.heap.size < w34.heap.size := XX0.lt
        have hqX0 : w.heap.size < w34.heap.size := X0.lt
        go_region_held3 (fun w' => w'.cell? ⟨w16.heap.size, 0, none⟩ = some (.int .i64 R0) ∧ w'.cell? ⟨w16.heap.size, 1, none⟩ = some (.int .i64 C0) ∧ w'.cell? ⟨w16.heap.size, 2, none⟩ = some (.slice (some ⟨gO_x0, 0, none⟩) l0.length l0.length) ∧ w'.cell? ⟨w.heap.size, 0, none⟩ = some (.int .i64 R0) ∧ w'.cell? ⟨w.heap.size, 1, none⟩ = some (.int .i64 C0) ∧ w'.cell? ⟨w.heap.size, 2, none⟩ = some (.slice A0 l0.length cap0))
          (first | exact ⟨kXX00, kXX01, kXX02, kX00, kX01, kX02⟩ | exact ⟨(b.cell (p := ⟨w16.heap.size, 0, none⟩) hqXX0).trans kXX00, (b.cell (p := ⟨w16.heap.size, 1, none⟩) hqXX0).trans kXX01, (b.cell (p := ⟨w16.heap.size, 2, none⟩) hqXX0).trans kXX02, (b.cell (p := ⟨w.heap.size, 0, none⟩) hqX0).trans kX00, (b.cell (p := ⟨w.heap.size, 1, none⟩) hqX0).trans kX01, (b.cell (p := ⟨w.heap.size, 2, none⟩) hqX0).trans kX02⟩ | exact ⟨(b2.cell (p := ⟨w16.heap.size, 0, none⟩) (Nat.lt_of_lt_of_le hqXX0 b.size)).trans ((b.cell (p := ⟨w16.heap.size, 0, none⟩) hqXX0).trans kXX00), (b2.cell (p := ⟨w16.heap.size, 1, none⟩) (Nat.lt_of_lt_of_le hqXX0 b.size)).trans ((b.cell (p := ⟨w16.heap.size, 1, none⟩) hqXX0).trans kXX01), (b2.cell (p := ⟨w16.heap.size, 2, none⟩) (Nat.lt_of_lt_of_le hqXX0 b.size)).trans ((b.cell (p := ⟨w16.heap.size, 2, none⟩) hqXX0).trans kXX02), (b2.cell (p := ⟨w.heap.size, 0, none⟩) (Nat.lt_of_lt_of_le hqX0 b.size)).trans ((b.cell (p := ⟨w.heap.size, 0, none⟩) hqX0).trans kX00), (b2.cell (p := ⟨w.heap.size, 1, none⟩) (Nat.lt_of_lt_of_le hqX0 b.size)).trans ((b.cell (p := ⟨w.heap.size, 1, none⟩) hqX0).trans kX01), (b2.cell (p := ⟨w.heap.size, 2, none⟩) (Nat.lt_of_lt_of_le hqX0 b.size)).trans ((b.cell (p := ⟨w.heap.size, 2, none⟩) hqX0).trans kX02)⟩)
          ((first | (go_at_call 17; refine (toBoard_any _ _ _ _ l0 _ hn0 ((hr0.below B.drew).mono B.size)).mono ?_; rintro e w36a ⟨gq, rfl, t, n, b⟩) | (go_at_call 19; refine (eqBoard_any _ _ _ _ _ _ _ _ l0 l0 _ hn0 hn0 ((O_x0.keep (Below.drew (Below.refl _ _))).keep b).rd t.own.rd).mono ?_; rintro e w36b ⟨rfl, b2⟩; rw [eqB_same])))
        have bb : Below w34.heap.size w34 w36b := ((Below.refl _ _).drew).trans (b.trans (b2.mono b.size))
        clear b b2 t n zXX0 kXX00 kXX01 kXX02 zX0 kX00 kX01 kX02 hqXX0 hqX0
        replace X0 := X0.below bb X0.lt
        replace X1 := X1.below bb X1.lt
        replace Ow0 := Ow0.keep bb
        replace Zw0 := Zw0.below bb Zw0.lt
        replace O_x0 := O_x0.keep bb
        replace XX0 := XX0.below bb XX0.lt
        replace O_x1 := O_x1.keep bb
        replace XX1 := XX1.below bb XX1.lt
        replace Og0 := Og0.keep bb
        replace Zg0 := Zg0.below bb Zg0.lt
        replace B := B.trans (bb.mono B.size)
        have s37 : w34.heap.size ≤ w36b.heap.size := bb.size
        clear bb
        have zXX1 : w22.heap.size < w36b.heap.size := XX1.lt
        have kXX10 : w36b.cell? ⟨w22.heap.size, 0, none⟩ = some (.int .i64 R1) := (XX1.cell 0).trans rfl
        have kXX11 : w36b.cell? ⟨w22.heap.size, 1, none⟩ = some (.int .i64 C1) := (XX1.cell 1).trans rfl
        have kXX12 : w36b.cell? ⟨w22.heap.size, 2, none⟩ = some (.slice (some ⟨gO_x1, 0, none⟩) l1.length l1.length) := (XX1.cell 2).trans rfl
        have zX1 : (w.heap.size + 1) < w36b.heap.size := X1.lt
        have kX10 : w36b.cell? ⟨(w.heap.size + 1), 0, none⟩ = some (.int .i64 R1) := (X1.cell 0).trans rfl
        have kX11 : w36b.cell? ⟨(w.heap.size + 1), 1, none⟩ = some (.int .i64 C1) := (X1.cell 1).trans rfl
        have kX12 : w36b.cell? ⟨(w.heap.size + 1), 2, none⟩ = some (.slice A1 l1.length cap1) := (X1.cell 2).trans rfl
        go_wp2_with fail
        have hqXX1 : w22.heap.size < w36b.heap.size := XX1.lt
        have hqX1 : (w.heap.size + 1) < w36b.heap.size := X1.lt
        go_region_held3 (fun w' => w'.cell? ⟨w22.heap.size, 0, none⟩ = some (.int .i64 R1) ∧ w'.cell? ⟨w22.heap.size, 1, none⟩ = some (.int .i64 C1) ∧ w'.cell? ⟨w22.heap.size, 2, none⟩ = some (.slice (some ⟨gO_x1, 0, none⟩) l1.length l1.length) ∧ w'.cell? ⟨(w.heap.size + 1), 0, none⟩ = some (.int .i64 R1) ∧ w'.cell? ⟨(w.heap.size + 1), 1, none⟩ = some (.int .i64 C1) ∧ w'.cell? ⟨(w.heap.size + 1), 2, none⟩ = some (.slice A1 l1.length cap1))
          (first | exact ⟨kXX10, kXX11, kXX12, kX10, kX11, kX12⟩ | exact ⟨(b.cell (p := ⟨w22.heap.size, 0, none⟩) hqXX1).trans kXX10, (b.cell (p := ⟨w22.heap.size, 1, none⟩) hqXX1).trans kXX11, (b.cell (p := ⟨w22.heap.size, 2, none⟩) hqXX1).trans kXX12, (b.cell (p := ⟨(w.heap.size + 1), 0, none⟩) hqX1).trans kX10, (b.cell (p := ⟨(w.heap.size + 1), 1, none⟩) hqX1).trans kX11, (b.cell (p := ⟨(w.heap.size + 1), 2, none⟩) hqX1).trans kX12⟩ | exact ⟨(b2.cell (p := ⟨w22.heap.size, 0, none⟩) (Nat.lt_of_lt_of_le hqXX1 b.size)).trans ((b.cell (p := ⟨w22.heap.size, 0, none⟩) hqXX1).trans kXX10), (b2.cell (p := ⟨w22.heap.size, 1, none⟩) (Nat.lt_of_lt_of_le hqXX1 b.size)).trans ((b.cell (p := ⟨w22.heap.size, 1, none⟩) hqXX1).trans kXX11), (b2.cell (p := ⟨w22.heap.size, 2, none⟩) (Nat.lt_of_lt_of_le hqXX1 b.size)).trans ((b.cell (p := ⟨w22.heap.size, 2, none⟩) hqXX1).trans kXX12), (b2.cell (p := ⟨(w.heap.size + 1), 0, none⟩) (Nat.lt_of_lt_of_le hqX1 b.size)).trans ((b.cell (p := ⟨(w.heap.size + 1), 0, none⟩) hqX1).trans kX10), (b2.cell (p := ⟨(w.heap.size + 1), 1, none⟩) (Nat.lt_of_lt_of_le hqX1 b.size)).trans ((b.cell (p := ⟨(w.heap.size + 1), 1, none⟩) hqX1).trans kX11), (b2.cell (p := ⟨(w.heap.size + 1), 2, none⟩) (Nat.lt_of_lt_of_le hqX1 b.size)).trans ((b.cell (p := ⟨(w.heap.size + 1), 2, none⟩) hqX1).trans kX12)⟩)
          ((first | (go_at_call 17; refine (toBoard_any _ _ _ _ l1 _ hn1 ((hr1.below B.drew).mono B.size)).mono ?_; rintro e w38a ⟨gq, rfl, t, n, b⟩) | (go_at_call 19; refine (eqBoard_any _ _ _ _ _ _ _ _ l1 l1 _ hn1 hn1 ((O_x1.keep (Below.drew (Below.refl _ _))).keep b).rd t.own.rd).mono ?_; rintro e w38b ⟨rfl, b2⟩; rw [eqB_same])))
        have bb : Below w36b.heap.size w36b w38b := ((Below.refl _ _).drew).trans (b.trans (b2.mono b.size))
        clear b b2 t n zXX1 kXX10 kXX11 kXX12 zX1 kX10 kX11 kX12 hqXX1 hqX1
        replace X0 := X0.below bb X0.lt
        replace X1 := X1.below bb X1.lt
        replace Ow0 := Ow0.keep bb
        replace Zw0 := Zw0.below bb Zw0.lt
        replace O_x0 := O_x0.keep bb
        replace XX0 := XX0.below bb XX0.lt
        replace O_x1 := O_x1.keep bb
        replace XX1 := XX1.below bb XX1.lt
        replace Og0 := Og0.keep bb
        replace Zg0 := Zg0.below bb Zg0.lt
        replace B := B.trans (bb.mono B.size)
        have s39 : w36b.heap.size ≤ w38b.heap.size := bb.size
        clear bb
        have zXX0 : w16.heap.size < w38b.heap.size := XX0.lt
        have kXX00 : w38b.cell? ⟨w16.heap.size, 0, none⟩ = some (.int .i64 R0) := (XX0.cell 0).trans rfl
        have kXX01 : w38b.cell? ⟨w16.heap.size, 1, none⟩ = some (.int .i64 C0) := (XX0.cell 1).trans rfl
        have kXX02 : w38b.cell? ⟨w16.heap.size, 2, none⟩ = some (.slice (some ⟨gO_x0, 0, none⟩) l0.length l0.length) := (XX0.cell 2).trans rfl
        go_wp2_with fail
        refine (markBoard_n _ _ _ _ l0.length (flat l0) _ _ (flat_length _) hn0 (by omega) (by omega) O_x0).mono ?_; rintro e w40 ⟨rfl, o, b⟩
        clear zXX0 kXX00 kXX01 kXX02
        replace X0 := X0.fx b (fun hp a ha => own_apart O_x0 X0 (by decide) (pos_flat hp) ha)
        replace X1 := X1.fx b (fun hp a ha => own_apart O_x0 X1 (by decide) (pos_flat hp) ha)
        replace Ow0 := Ow0.fx b (fun hp hx a a' ha ha' => by have h1 := loO_x0 a' ha'; have h2 := hiOw0 a ha (flat_pos hx); omega)
        replace Zw0 := Zw0.fx b (fun hp a ha => own_apart O_x0 Zw0 (by decide) (pos_flat hp) ha)
        replace XX0 := XX0.fx b (fun hp a ha => own_apart O_x0 XX0 (by decide) (pos_flat hp) ha)
        replace O_x1 := O_x1.fx b (fun hp hx a a' ha ha' => by have h1 := hiO_x0 a' ha' hp; have h2 := loO_x1 a ha; omega)
        replace XX1 := XX1.fx b (fun hp a ha => own_apart O_x0 XX1 (by decide) (pos_flat hp) ha)
        replace Og0 := Og0.fx b (fun hp hx a a' ha ha' => by have h1 := hiO_x0 a' ha' hp; have h2 := loOg0 a ha; omega)
        replace Zg0 := Zg0.fx b (fun hp a ha => own_apart O_x0 Zg0 (by decide) (pos_flat hp) ha)
        replace B := B.trans (b.below B.size (fun a ha => by have h1 := loO_x0 a ha; omega))
        have s41 : w38b.heap.size ≤ w40.heap.size := b.size
        clear b
        replace O_x0 := o
        clear O_x0
        have zXX1 : w22.heap.size < w40.heap.size := XX1.lt
        have kXX10 : w40.cell? ⟨w22.heap.size, 0, none⟩ = some (.int .i64 R1) := (XX1.cell 0).trans rfl
        have kXX11 : w40.cell? ⟨w22.heap.size, 1, none⟩ = some (.int .i64 C1) := (XX1.cell 1).trans rfl
        have kXX12 : w40.cell? ⟨w22.heap.size, 2, none⟩ = some (.slice (some ⟨gO_x1, 0, none⟩) l1.length l1.length) := (XX1.cell 2).trans rfl
        go_wp2_with fail
        refine (markBoard_n _ _ _ _ l1.length (flat l1) _ _ (flat_length _) hn1 (by omega) (by omega) O_x1).mono ?_; rintro e w42 ⟨rfl, o, b⟩
        clear zXX1 kXX10 kXX11 kXX12
        replace X0 := X0.fx b (fun hp a ha => own_apart O_x1 X0 (by decide) (pos_flat hp) ha)
        replace X1 := X1.fx b (fun hp a ha => own_apart O_x1 X1 (by decide) (pos_flat hp) ha)
        replace Ow0 := Ow0.fx b (fun hp hx a a' ha ha' => by have h1 := loO_x1 a' ha'; have h2 := hiOw0 a ha (flat_pos hx); omega)
        replace Zw0 := Zw0.fx b (fun hp a ha => own_apart O_x1 Zw0 (by decide) (pos_flat hp) ha)
        replace XX0 := XX0.fx b (fun hp a ha => own_apart O_x1 XX0 (by decide) (pos_flat hp) ha)
        replace XX1 := XX1.fx b (fun hp a ha => own_apart O_x1 XX1 (by decide) (pos_flat hp) ha)
        replace Og0 := Og0.fx b (fun hp hx a a' ha ha' => by have h1 := hiO_x1 a' ha' hp; have h2 := loOg0 a ha; omega)
        replace Zg0 := Zg0.fx b (fun hp a ha => own_apart O_x1 Zg0 (by decide) (pos_flat hp) ha)
        replace B := B.trans (b.below B.size (fun a ha => by have h1 := loO_x1 a ha; omega))
        have s43 : w40.heap.size ≤ w42.heap.size := b.size
        clear b
        replace O_x1 := o
        clear O_x1
        have zZg0 : w28.heap.size < w42.heap.size := Zg0.lt
        have kZg00 : w42.cell? ⟨w28.heap.size, 0, none⟩ = some (.int .i64 (selI (okBeside R0 C0 l0 R1 C1 l1) R0)) := (Zg0.cell 0).trans rfl
        have kZg01 : w42.cell? ⟨w28.heap.size, 1, none⟩ = some (.int .i64 (selI (okBeside R0 C0 l0 R1 C1 l1) (C0 + C1))) := (Zg0.cell 1).trans rfl
        have kZg02 : w42.cell? ⟨w28.heap.size, 2, none⟩ = some (.slice Ag0 (besideL R0 C0 l0 R1 C1 l1).length cg0) := (Zg0.cell 2).trans rfl
        have zZw0 : gZw0 < w42.heap.size := Zw0.lt
        have kZw00 : w42.cell? ⟨gZw0, 0, none⟩ = some (.int .i64 (selI (okBeside R0 C0 l0 R1 C1 l1) R0)) := (Zw0.cell 0).trans rfl
        have kZw01 : w42.cell? ⟨gZw0, 1, none⟩ = some (.int .i64 (selI (okBeside R0 C0 l0 R1 C1 l1) (C0 + C1))) := (Zw0.cell 1).trans rfl
        have kZw02 : w42.cell? ⟨gZw0, 2, none⟩ = some (.slice Aw0 (besideL R0 C0 l0 R1 C1 l1).length cw0) := (Zw0.cell 2).trans rfl
        go_wp2_with fail
        refine (eqBoard_any _ _ _ _ _ _ _ _ (besideL R0 C0 l0 R1 C1 l1) (besideL R0 C0 l0 R1 C1 l1) _ (besideL_len _ _ _ _ _ _) (besideL_len _ _ _ _ _ _) Og0.rd Ow0.rd).mono ?_; rintro e w44 ⟨rfl, b⟩
        rw [eqB_same]
        clear zZg0 kZg00 kZg01 kZg02 zZw0 kZw00 kZw01 kZw02
        replace X0 := X0.below b X0.lt
        replace X1 := X1.below b X1.lt
        replace Ow0 := Ow0.keep b
        replace Zw0 := Zw0.below b Zw0.lt
        replace XX0 := XX0.below b XX0.lt
        replace XX1 := XX1.below b XX1.lt
        replace Og0 := Og0.keep b
        replace Zg0 := Zg0.below b Zg0.lt
        replace B := B.trans (b.mono B.size)
        have s45 : w42.heap.size ≤ w44.heap.size := b.size
        clear b
        have zZg0 : w28.heap.size < w44.heap.size := Zg0.lt
        have kZg00 : w44.cell? ⟨w28.heap.size, 0, none⟩ = some (.int .i64 (selI (okBeside R0 C0 l0 R1 C1 l1) R0)) := (Zg0.cell 0).trans rfl
        have kZg01 : w44.cell? ⟨w28.heap.size, 1, none⟩ = some (.int .i64 (selI (okBeside R0 C0 l0 R1 C1 l1) (C0 + C1))) := (Zg0.cell 1).trans rfl
        have kZg02 : w44.cell? ⟨w28.heap.size, 2, none⟩ = some (.slice Ag0 (besideL R0 C0 l0 R1 C1 l1).length cg0) := (Zg0.cell 2).trans rfl
        go_wp2_with fail
        refine (markBoard_n _ _ _ _ (besideL R0 C0 l0 R1 C1 l1).length (flat (besideL R0 C0 l0 R1 C1 l1)) _ _ (flat_length _) (besideL_len _ _ _ _ _ _) (by omega) (by omega) Og0).mono ?_; rintro e w46 ⟨rfl, o, b⟩
        clear zZg0 kZg00 kZg01 kZg02
        replace X0 := X0.fx b (fun hp a ha => own_apart Og0 X0 (by decide) (pos_flat hp) ha)
        replace X1 := X1.fx b (fun hp a ha => own_apart Og0 X1 (by decide) (pos_flat hp) ha)
        replace Ow0 := Ow0.fx b (fun hp hx a a' ha ha' => by have h1 := loOg0 a' ha'; have h2 := hiOw0 a ha (flat_pos hx); omega)
        replace Zw0 := Zw0.fx b (fun hp a ha => own_apart Og0 Zw0 (by decide) (pos_flat hp) ha)
        replace XX0 := XX0.fx b (fun hp a ha => own_apart Og0 XX0 (by decide) (pos_flat hp) ha)
        replace XX1 := XX1.fx b (fun hp a ha => own_apart Og0 XX1 (by decide) (pos_flat hp) ha)
        replace Zg0 := Zg0.fx b (fun hp a ha => own_apart Og0 Zg0 (by decide) (pos_flat hp) ha)
        replace B := B.trans (b.below B.size (fun a ha => by have h1 := loOg0 a ha; omega))
        have s47 : w44.heap.size ≤ w46.heap.size := b.size
        clear b
        replace Og0 := o
        have zZg0 : w28.heap.size < w46.heap.size := Zg0.lt
        have kZg00 : w46.cell? ⟨w28.heap.size, 0, none⟩ = some (.int .i64 (selI (okBeside R0 C0 l0 R1 C1 l1) R0)) := (Zg0.cell 0).trans rfl
        have kZg01 : w46.cell? ⟨w28.heap.size, 1, none⟩ = some (.int .i64 (selI (okBeside R0 C0 l0 R1 C1 l1) (C0 + C1))) := (Zg0.cell 1).trans rfl
        have kZg02 : w46.cell? ⟨w28.heap.size, 2, none⟩ = some (.slice Ag0 (besideL R0 C0 l0 R1 C1 l1).length cg0) := (Zg0.cell 2).trans rfl
        go_wp2_with fail
        refine (heldBoard_any _ _ _ _ (besideL R0 C0 l0 R1 C1 l1).length _ _ (besideL_len _ _ _ _ _ _) (by omega) (by omega) Og0).mono ?_; rintro e w48 ⟨rfl, b⟩
        clear zZg0 kZg00 kZg01 kZg02
        replace X0 := X0.below b X0.lt
        replace X1 := X1.below b X1.lt
        replace Ow0 := Ow0.keep b
        replace Zw0 := Zw0.below b Zw0.lt
        replace XX0 := XX0.below b XX0.lt
        replace XX1 := XX1.below b XX1.lt
        replace Og0 := Og0.keep b
        replace Zg0 := Zg0.below b Zg0.lt
        replace B := B.trans (b.mono B.size)
        have s49 : w46.heap.size ≤ w48.heap.size := b.size
        clear b
        have zX0 : w.heap.size < w48.heap.size := X0.lt
        have kX00 : w48.cell? ⟨w.heap.size, 0, none⟩ = some (.int .i64 R0) := (X0.cell 0).trans rfl
        have kX01 : w48.cell? ⟨w.heap.size, 1, none⟩ = some (.int .i64 C0) := (X0.cell 1).trans rfl
        have kX02 : w48.cell? ⟨w.heap.size, 2, none⟩ = some (.slice A0 l0.length cap0) := (X0.cell 2).trans rfl
        have zX1 : (w.heap.size + 1) < w48.heap.size := X1.lt
        have kX10 : w48.cell? ⟨(w.heap.size + 1), 0, none⟩ = some (.int .i64 R1) := (X1.cell 0).trans rfl
        have kX11 : w48.cell? ⟨(w.heap.size + 1), 1, none⟩ = some (.int .i64 C1) := (X1.cell 1).trans rfl
        have kX12 : w48.cell? ⟨(w.heap.size + 1), 2, none⟩ = some (.slice A1 l1.length cap1) := (X1.cell 2).trans rfl
        go_wp2_with fail
        have hqX0 : w.heap.size < w48.heap.size := X0.lt
        have hqX1 : (w.heap.size + 1) < w48.heap.size := X1.lt
        have KS := Lib.hid (fun (w' : World) (h : Below w48.heap.size w48 w') => (⟨(h.cell (p := ⟨w.heap.size, 0, none⟩) hqX0).trans kX00, (h.cell (p := ⟨w.heap.size, 1, none⟩) hqX0).trans kX01, (h.cell (p := ⟨w.heap.size, 2, none⟩) hqX0).trans kX02, (h.cell (p := ⟨(w.heap.size + 1), 0, none⟩) hqX1).trans kX10, (h.cell (p := ⟨(w.heap.size + 1), 1, none⟩) hqX1).trans kX11, (h.cell (p := ⟨(w.heap.size + 1), 2, none⟩) hqX1).trans kX12⟩ : w'.cell? ⟨w.heap.size, 0, none⟩ = some (.int .i64 R0) ∧ w'.cell? ⟨w.heap.size, 1, none⟩ = some (.int .i64 C0) ∧ w'.cell? ⟨w.heap.size, 2, none⟩ = some (.slice A0 l0.length cap0) ∧ w'.cell? ⟨(w.heap.size + 1), 0, none⟩ = some (.int .i64 R1) ∧ w'.cell? ⟨(w.heap.size + 1), 1, none⟩ = some (.int .i64 C1) ∧ w'.cell? ⟨(w.heap.size + 1), 2, none⟩ = some (.slice A1 l1.length cap1)))
        go_cut [15, 16] (fun z y wx => ∃ (g : Nat) (A : Option Addr) (c : Nat), z = .pointer (some ⟨g, 0, none⟩) ∧ y = .bool (okBeside R0 C0 l0 R1 C1 l1) ∧ Whole wx g 29 [.int .i64 (selI (okBeside R0 C0 l0 R1 C1 l1) R0), .int .i64 (selI (okBeside R0 C0 l0 R1 C1 l1) (C0 + C1)), .slice A (besideL R0 C0 l0 R1 C1 l1).length c] ∧ Own wx A 34 (flat (besideL R0 C0 l0 R1 C1 l1)) ∧ New w48 A ∧ Below w48.heap.size w48 wx)
        case first =>
          go_region_held3 (fun w' => w'.cell? ⟨w.heap.size, 0, none⟩ = some (.int .i64 R0) ∧ w'.cell? ⟨w.heap.size, 1, none⟩ = some (.int .i64 C0) ∧ w'.cell? ⟨w.heap.size, 2, none⟩ = some (.slice A0 l0.length cap0) ∧ w'.cell? ⟨(w.heap.size + 1), 0, none⟩ = some (.int .i64 R1) ∧ w'.cell? ⟨(w.heap.size + 1), 1, none⟩ = some (.int .i64 C1) ∧ w'.cell? ⟨(w.heap.size + 1), 2, none⟩ = some (.slice A1 l1.length cap1)) (exact KS.out _ (by (repeat' (first | (with_reducible exact Below.refl _ _) | (with_reducible assumption) | (with_reducible refine Below.alloc ?_ ?_ _) | (with_reducible refine Below.setCell ?_ ?_ _) | (with_reducible refine Below.drew ?_) | (with_reducible refine below_drewN ?_ _) | (with_reducible refine Below.trans ?_ (Below.mono (by assumption) ?_)) | go_size)))) ((first | (go_at_call 17; (with_reducible refine (toBoard_any _ _ A0 cap0 l0 _ hn0 ?_).mono ?_); (focus exact (hr0.below (B.trans ((by (repeat' (first | (with_reducible exact Below.refl _ _) | (with_reducible assumption) | (with_reducible refine Below.alloc ?_ ?_ _) | (with_reducible refine Below.setCell ?_ ?_ _) | (with_reducible refine Below.drew ?_) | (with_reducible refine below_drewN ?_ _) | (with_reducible refine Below.trans ?_ (Below.mono (by assumption) ?_)) | go_size)) : Below w48.heap.size w48 _).mono B.size))).mono (Nat.le_trans B.size (by (repeat' (first | (with_reducible exact Below.refl _ _) | (with_reducible assumption) | (with_reducible refine Below.alloc ?_ ?_ _) | (with_reducible refine Below.setCell ?_ ?_ _) | (with_reducible refine Below.drew ?_) | (with_reducible refine below_drewN ?_ _) | (with_reducible refine Below.trans ?_ (Below.mono (by assumption) ?_)) | go_size)) : Below w48.heap.size w48 _).size)); rintro e w50_0 ⟨gT0, rfl, tT0, nT0, bT0⟩; have sT0 : w48.heap.size ≤ w50_0.heap.size := (by (repeat' (first | (with_reducible exact Below.refl _ _) | (with_reducible assumption) | (with_reducible refine Below.alloc ?_ ?_ _) | (with_reducible refine Below.setCell ?_ ?_ _) | (with_reducible refine Below.drew ?_) | (with_reducible refine below_drewN ?_ _) | (with_reducible refine Below.trans ?_ (Below.mono (by assumption) ?_)) | go_size)) : Below w48.heap.size w48 w50_0).size; (first | have zb := zb.below bT0 zb.lt | have zb : Whole w50_0 w48.heap.size 29 [.int .i64 0, .int .i64 0, .slice none 0 0] := Whole.below (heap_alloc_new w48.drew _) bT0 (by simp) | skip)) | (go_at_call 17; (with_reducible refine (toBoard_any _ _ A1 cap1 l1 _ hn1 ?_).mono ?_); (focus exact (hr1.below (B.trans ((by (repeat' (first | (with_reducible exact Below.refl _ _) | (with_reducible assumption) | (with_reducible refine Below.alloc ?_ ?_ _) | (with_reducible refine Below.setCell ?_ ?_ _) | (with_reducible refine Below.drew ?_) | (with_reducible refine below_drewN ?_ _) | (with_reducible refine Below.trans ?_ (Below.mono (by assumption) ?_)) | go_size)) : Below w48.heap.size w48 _).mono B.size))).mono (Nat.le_trans B.size (by (repeat' (first | (with_reducible exact Below.refl _ _) | (with_reducible assumption) | (with_reducible refine Below.alloc ?_ ?_ _) | (with_reducible refine Below.setCell ?_ ?_ _) | (with_reducible refine Below.drew ?_) | (with_reducible refine below_drewN ?_ _) | (with_reducible refine Below.trans ?_ (Below.mono (by assumption) ?_)) | go_size)) : Below w48.heap.size w48 _).size)); rintro e w50_1 ⟨gT1, rfl, tT1, nT1, bT1⟩; have sT1 : w48.heap.size ≤ w50_1.heap.size := (by (repeat' (first | (with_reducible exact Below.refl _ _) | (with_reducible assumption) | (with_reducible refine Below.alloc ?_ ?_ _) | (with_reducible refine Below.setCell ?_ ?_ _) | (with_reducible refine Below.drew ?_) | (with_reducible refine below_drewN ?_ _) | (with_reducible refine Below.trans ?_ (Below.mono (by assumption) ?_)) | go_size)) : Below w48.heap.size w48 w50_1).size; (first | have zb := zb.below bT1 zb.lt | have zb : Whole w50_1 w50_0.heap.size 29 [.int .i64 0, .int .i64 0, .slice none 0 0] := Whole.below (heap_alloc_new w50_0 _) bT1 (by simp) | skip); have s_w50_0_w50_1 : w50_0.heap.size ≤ w50_1.heap.size := (by have h := bT1.size; (try simp at h); omega)) | (go_at_call 42; (with_reducible refine (impl_BesideBoards _ _ _ _ l0 _ _ _ _ l1 _ hn0 ?_ hn1 ?_ (Nat.le_refl _) (Nat.le_refl _)).mono ?_); (focus exact (tT0.below (by (repeat' (first | (with_reducible exact Below.refl _ _) | (with_reducible assumption) | (with_reducible refine Below.alloc ?_ ?_ _) | (with_reducible refine Below.setCell ?_ ?_ _) | (with_reducible refine Below.drew ?_) | (with_reducible refine below_drewN ?_ _) | (with_reducible refine Below.trans ?_ (Below.mono (by assumption) ?_)) | go_size)) : Below w50_0.heap.size w50_0 _) (by first | exact (tT0).lt | (have h1 := (tT0).lt; omega))).own.rd); (focus exact (tT1.below (by (repeat' (first | (with_reducible exact Below.refl _ _) | (with_reducible assumption) | (with_reducible refine Below.alloc ?_ ?_ _) | (with_reducible refine Below.setCell ?_ ?_ _) | (with_reducible refine Below.drew ?_) | (with_reducible refine below_drewN ?_ _) | (with_reducible refine Below.trans ?_ (Below.mono (by assumption) ?_)) | go_size)) : Below w50_1.heap.size w50_1 _) (by first | exact (tT1).lt | (have h1 := (tT1).lt; omega))).own.rd); rintro e w50_f ⟨Ah0, ch0, rfl, Oh0, loOh0, b⟩; have sTf : w48.heap.size ≤ w50_f.heap.size := (by (repeat' (first | (with_reducible exact Below.refl _ _) | (with_reducible assumption) | (with_reducible refine Below.alloc ?_ ?_ _) | (with_reducible refine Below.setCell ?_ ?_ _) | (with_reducible refine Below.drew ?_) | (with_reducible refine below_drewN ?_ _) | (with_reducible refine Below.trans ?_ (Below.mono (by assumption) ?_)) | go_size)) : Below w48.heap.size w48 w50_f).size; (first | have zb := zb.below b zb.lt | have zb : Whole w50_f w50_1.heap.size 29 [.int .i64 0, .int .i64 0, .slice none 0 0] := Whole.below (heap_alloc_new w50_1 _) b (by simp) | skip); have s_w50_1_w50_f : w50_1.heap.size ≤ w50_f.heap.size := (by have h := b.size; (try simp at h); omega); have s_w50_0_w50_f : w50_0.heap.size ≤ w50_f.heap.size := (by have h := b.size; (try simp at h); omega); (first | (have q0 := (zb.cell 0).trans rfl; have q1 := (zb.cell 1).trans rfl; have q2 := (zb.cell 2).trans rfl; have qf0 := zb.frozen 0; have qf1 := zb.frozen 1; have qf2 := zb.frozen 2) | skip)) | fail))
          all_goals (go_wp2_with fail; go_meet)
          all_goals (refine ⟨_, Ah0, ch0, rfl, rfl, ?_, ?_, loOh0.mono (by (repeat' (first | (with_reducible exact Below.refl _ _) | (with_reducible assumption) | (with_reducible refine Below.alloc ?_ ?_ _) | (with_reducible refine Below.setCell ?_ ?_ _) | (with_reducible refine Below.drew ?_) | (with_reducible refine below_drewN ?_ _) | (with_reducible refine Below.trans ?_ (Below.mono (by assumption) ?_)) | go_size)) : Below w48.heap.size w48 _).size, by (repeat' (first | (with_reducible exact Below.refl _ _) | (with_reducible assumption) | (with_reducible refine Below.alloc ?_ ?_ _) | (with_reducible refine Below.setCell ?_ ?_ _) | (with_reducible refine Below.drew ?_) | (with_reducible refine below_drewN ?_ _) | (with_reducible refine Below.trans ?_ (Below.mono (by assumption) ?_)) | go_size))⟩)
          all_goals first
            | exact heap_alloc_new _ _
            | exact whole_three zb
            | exact whole_three (heap_alloc_new _ _)
            | exact Oh0.keep ((Below.refl _ _).alloc (Nat.le_refl _) _)
            | exact ((Oh0.set_far2 _ _ (fun hx a ha => (own_apart Oh0 zb (by decide) hx ha).symm)).set_far2 _ _ (fun hx a ha => (own_apart Oh0 zb (by decide) hx ha).symm)).set_far2 _ _ (fun hx a ha => (own_apart Oh0 zb (by decide) hx ha).symm)
        case rest =>
          rename World => wc51
          obtain ⟨gZh0, Ah0, ch0, rfl, rfl, Zh0, Oh0, loOh0, b⟩ := hcut
          clear KS zX0 kX00 kX01 kX02 zX1 kX10 kX11 kX12 hqX0 hqX1
          replace X0 := X0.below b X0.lt
          replace X1 := X1.below b X1.lt
          replace Ow0 := Ow0.keep b
          replace Zw0 := Zw0.below b Zw0.lt
          replace XX0 := XX0.below b XX0.lt
          replace XX1 := XX1.below b XX1.lt
          replace Og0 := Og0.keep b
          replace Zg0 := Zg0.below b Zg0.lt
          replace B := B.trans (b.mono B.size)
          have s52 : w48.heap.size ≤ wc51.heap.size := b.size
          clear b
          have hiOh0 : ∀ a : Addr, Ah0 = some a → 0 < (besideL R0 C0 l0 R1 C1 l1).length → a.block < wc51.heap.size := fun a ha hx => Oh0.lt (pos_flat hx) ha
          have hiZh0 := Zh0.lt
          have zZh0 : gZh0 < wc51.heap.size := Zh0.lt
          have kZh00 : wc51.cell? ⟨gZh0, 0, none⟩ = some (.int .i64 (selI (okBeside R0 C0 l0 R1 C1 l1) R0)) := (Zh0.cell 0).trans rfl
          have kZh01 : wc51.cell? ⟨gZh0, 1, none⟩ = some (.int .i64 (selI (okBeside R0 C0 l0 R1 C1 l1) (C0 + C1))) := (Zh0.cell 1).trans rfl
          have kZh02 : wc51.cell? ⟨gZh0, 2, none⟩ = some (.slice Ah0 (besideL R0 C0 l0 R1 C1 l1).length ch0) := (Zh0.cell 2).trans rfl
          have zZw0 : gZw0 < wc51.heap.size := Zw0.lt
          have kZw00 : wc51.cell? ⟨gZw0, 0, none⟩ = some (.int .i64 (selI (okBeside R0 C0 l0 R1 C1 l1) R0)) := (Zw0.cell 0).trans rfl
          have kZw01 : wc51.cell? ⟨gZw0, 1, none⟩ = some (.int .i64 (selI (okBeside R0 C0 l0 R1 C1 l1) (C0 + C1))) := (Zw0.cell 1).trans rfl
          have kZw02 : wc51.cell? ⟨gZw0, 2, none⟩ = some (.slice Aw0 (besideL R0 C0 l0 R1 C1 l1).length cw0) := (Zw0.cell 2).trans rfl
          go_wp2_with fail
          refine (eqBoard_any _ _ _ _ _ _ _ _ (besideL R0 C0 l0 R1 C1 l1) (besideL R0 C0 l0 R1 C1 l1) _ (besideL_len _ _ _ _ _ _) (besideL_len _ _ _ _ _ _) Oh0.rd Ow0.rd).mono ?_; rintro e w55 ⟨rfl, b⟩
          rw [eqB_same]
          clear zZh0 kZh00 kZh01 kZh02 zZw0 kZw00 kZw01 kZw02
          replace X0 := X0.below b X0.lt
          replace X1 := X1.below b X1.lt
          replace Ow0 := Ow0.keep b
          replace Zw0 := Zw0.below b Zw0.lt
          replace XX0 := XX0.below b XX0.lt
          replace XX1 := XX1.below b XX1.lt
          replace Og0 := Og0.keep b
          replace Zg0 := Zg0.below b Zg0.lt
          replace Oh0 := Oh0.keep b
          replace Zh0 := Zh0.below b Zh0.lt
          replace B := B.trans (b.mono B.size)
          have s56 : wc51.heap.size ≤ w55.heap.size := b.size
          clear b
          have zZg0 : w28.heap.size < w55.heap.size := Zg0.lt
          have kZg00 : w55.cell? ⟨w28.heap.size, 0, none⟩ = some (.int .i64 (selI (okBeside R0 C0 l0 R1 C1 l1) R0)) := (Zg0.cell 0).trans rfl
          have kZg01 : w55.cell? ⟨w28.heap.size, 1, none⟩ = some (.int .i64 (selI (okBeside R0 C0 l0 R1 C1 l1) (C0 + C1))) := (Zg0.cell 1).trans rfl
          have kZg02 : w55.cell? ⟨w28.heap.size, 2, none⟩ = some (.slice Ag0 (besideL R0 C0 l0 R1 C1 l1).length cg0) := (Zg0.cell 2).trans rfl
          go_wp2_with fail
          refine (heldBoard_any _ _ _ _ (besideL R0 C0 l0 R1 C1 l1).length _ _ (besideL_len _ _ _ _ _ _) (by omega) (by omega) Og0).mono ?_; rintro e w57 ⟨rfl, b⟩
          clear zZg0 kZg00 kZg01 kZg02
          replace X0 := X0.below b X0.lt
          replace X1 := X1.below b X1.lt
          replace Ow0 := Ow0.keep b
          replace Zw0 := Zw0.below b Zw0.lt
          replace XX0 := XX0.below b XX0.lt
          replace XX1 := XX1.below b XX1.lt
          replace Og0 := Og0.keep b
          replace Zg0 := Zg0.below b Zg0.lt
          replace Oh0 := Oh0.keep b
          replace Zh0 := Zh0.below b Zh0.lt
          replace B := B.trans (b.mono B.size)
          have s58 : w55.heap.size ≤ w57.heap.size := b.size
          clear b
          go_wp2
          go_returns
          exact ⟨rfl, B⟩
    · go_enter Try.func11, Try.ntmps11
      have B : Below w.heap.size w w := Below.refl _ _
      go_wp2_with fail
      have b : Below w.heap.size w (w.alloc (.cells #[.int .i64 R0, .int .i64 C0, .slice A0 l0.length cap0] 24)) := (Below.refl _ _).alloc (Nat.le_refl _) _
      have X0 : Whole (w.alloc (.cells #[.int .i64 R0, .int .i64 C0, .slice A0 l0.length cap0] 24)) w.heap.size 24 [.int .i64 R0, .int .i64 C0, .slice A0 l0.length cap0] := heap_alloc_new w _
      have HZ := Lib.hid (show (w.alloc (.cells #[.int .i64 R0, .int .i64 C0, .slice A0 l0.length cap0] 24)).heap.size = w.heap.size + 1 by rw [World.size_alloc])
      replace B := B.trans (b.mono B.size)
      have s2 : w.heap.size ≤ (w.alloc (.cells #[.int .i64 R0, .int .i64 C0, .slice A0 l0.length cap0] 24)).heap.size := b.size
      clear b
      have hiX0 := X0.lt
      generalize w.alloc (.cells #[.int .i64 R0, .int .i64 C0, .slice A0 l0.length cap0] 24) = v1 at *
      have b : Below v1.heap.size v1 (v1.alloc (.cells #[.int .i64 R1, .int .i64 C1, .slice A1 l1.length cap1] 24)) := (Below.refl _ _).alloc (Nat.le_refl _) _
      have X1 : Whole (v1.alloc (.cells #[.int .i64 R1, .int .i64 C1, .slice A1 l1.length cap1] 24)) (w.heap.size + 1) 24 [.int .i64 R1, .int .i64 C1, .slice A1 l1.length cap1] := by have h := heap_alloc_new v1 (.cells #[.int .i64 R1, .int .i64 C1, .slice A1 l1.length cap1] 24); rw [HZ.out] at h; exact h
      have HZ := Lib.hid (show (v1.alloc (.cells #[.int .i64 R1, .int .i64 C1, .slice A1 l1.length cap1] 24)).heap.size = w.heap.size + 2 by rw [World.size_alloc, HZ.out])
      replace X0 := X0.below b X0.lt
      replace B := B.trans (b.mono B.size)
      have s5 : v1.heap.size ≤ (v1.alloc (.cells #[.int .i64 R1, .int .i64 C1, .slice A1 l1.length cap1] 24)).heap.size := b.size
      clear b
      have hiX1 := X1.lt
      generalize v1.alloc (.cells #[.int .i64 R1, .int .i64 C1, .slice A1 l1.length cap1] 24) = v4 at *
      have zX0 : w.heap.size < v4.heap.size := X0.lt
      have kX00 : v4.cell? ⟨w.heap.size, 0, none⟩ = some (.int .i64 R0) := (X0.cell 0).trans rfl
      have kX01 : v4.cell? ⟨w.heap.size, 1, none⟩ = some (.int .i64 C0) := (X0.cell 1).trans rfl
      have kX02 : v4.cell? ⟨w.heap.size, 2, none⟩ = some (.slice A0 l0.length cap0) := (X0.cell 2).trans rfl
      go_wp2_with fail
      refine (szBoard_any _ _ _ _ _ _ _ hm0 (by omega) (by omega)).mono ?_; rintro e w7 ⟨rfl, b⟩
      clear zX0 kX00 kX01 kX02
      rw [if_neg (by omega)]
      replace X0 := X0.below b X0.lt
      replace X1 := X1.below b X1.lt
      replace B := B.trans (b.mono B.size)
      have s8 : v4.heap.size ≤ w7.heap.size := b.size
      clear b
      have zX1 : (w.heap.size + 1) < w7.heap.size := X1.lt
      have kX10 : w7.cell? ⟨(w.heap.size + 1), 0, none⟩ = some (.int .i64 R1) := (X1.cell 0).trans rfl
      have kX11 : w7.cell? ⟨(w.heap.size + 1), 1, none⟩ = some (.int .i64 C1) := (X1.cell 1).trans rfl
      have kX12 : w7.cell? ⟨(w.heap.size + 1), 2, none⟩ = some (.slice A1 l1.length cap1) := (X1.cell 2).trans rfl
      go_wp2_with fail
      refine (szBoard_any _ _ _ _ _ _ _ hm1 (by omega) (by omega)).mono ?_; rintro e w9 ⟨rfl, b⟩
      clear zX1 kX10 kX11 kX12
      rw [if_pos (by omega)]
      replace X0 := X0.below b X0.lt
      replace X1 := X1.below b X1.lt
      replace B := B.trans (b.mono B.size)
      have s10 : w7.heap.size ≤ w9.heap.size := b.size
      clear b
      go_wp2
      go_returns
      exact ⟨rfl, B⟩
  · go_enter Try.func11, Try.ntmps11
    have B : Below w.heap.size w w := Below.refl _ _
    go_wp2_with fail
    have b : Below w.heap.size w (w.alloc (.cells #[.int .i64 R0, .int .i64 C0, .slice A0 l0.length cap0] 24)) := (Below.refl _ _).alloc (Nat.le_refl _) _
    have X0 : Whole (w.alloc (.cells #[.int .i64 R0, .int .i64 C0, .slice A0 l0.length cap0] 24)) w.heap.size 24 [.int .i64 R0, .int .i64 C0, .slice A0 l0.length cap0] := heap_alloc_new w _
    have HZ := Lib.hid (show (w.alloc (.cells #[.int .i64 R0, .int .i64 C0, .slice A0 l0.length cap0] 24)).heap.size = w.heap.size + 1 by rw [World.size_alloc])
    replace B := B.trans (b.mono B.size)
    have s2 : w.heap.size ≤ (w.alloc (.cells #[.int .i64 R0, .int .i64 C0, .slice A0 l0.length cap0] 24)).heap.size := b.size
    clear b
    have hiX0 := X0.lt
    generalize w.alloc (.cells #[.int .i64 R0, .int .i64 C0, .slice A0 l0.length cap0] 24) = v1 at *
    have b : Below v1.heap.size v1 (v1.alloc (.cells #[.int .i64 R1, .int .i64 C1, .slice A1 l1.length cap1] 24)) := (Below.refl _ _).alloc (Nat.le_refl _) _
    have X1 : Whole (v1.alloc (.cells #[.int .i64 R1, .int .i64 C1, .slice A1 l1.length cap1] 24)) (w.heap.size + 1) 24 [.int .i64 R1, .int .i64 C1, .slice A1 l1.length cap1] := by have h := heap_alloc_new v1 (.cells #[.int .i64 R1, .int .i64 C1, .slice A1 l1.length cap1] 24); rw [HZ.out] at h; exact h
    have HZ := Lib.hid (show (v1.alloc (.cells #[.int .i64 R1, .int .i64 C1, .slice A1 l1.length cap1] 24)).heap.size = w.heap.size + 2 by rw [World.size_alloc, HZ.out])
    replace X0 := X0.below b X0.lt
    replace B := B.trans (b.mono B.size)
    have s5 : v1.heap.size ≤ (v1.alloc (.cells #[.int .i64 R1, .int .i64 C1, .slice A1 l1.length cap1] 24)).heap.size := b.size
    clear b
    have hiX1 := X1.lt
    generalize v1.alloc (.cells #[.int .i64 R1, .int .i64 C1, .slice A1 l1.length cap1] 24) = v4 at *
    have zX0 : w.heap.size < v4.heap.size := X0.lt
    have kX00 : v4.cell? ⟨w.heap.size, 0, none⟩ = some (.int .i64 R0) := (X0.cell 0).trans rfl
    have kX01 : v4.cell? ⟨w.heap.size, 1, none⟩ = some (.int .i64 C0) := (X0.cell 1).trans rfl
    have kX02 : v4.cell? ⟨w.heap.size, 2, none⟩ = some (.slice A0 l0.length cap0) := (X0.cell 2).trans rfl
    go_wp2_with fail
    refine (szBoard_any _ _ _ _ _ _ _ hm0 (by omega) (by omega)).mono ?_; rintro e w7 ⟨rfl, b⟩
    clear zX0 kX00 kX01 kX02
    rw [if_pos (by omega)]
    replace X0 := X0.below b X0.lt
    replace X1 := X1.below b X1.lt
    replace B := B.trans (b.mono B.size)
    have s8 : v4.heap.size ≤ w7.heap.size := b.size
    clear b
    go_wp2
    go_returns
    exact ⟨rfl, B⟩
theorem BesideBoards_walk : Walk Try.prog 11 Try.f11 := by
  intro H enc W base args ds ps hA hval
  rw [Try.params11] at hA hval
  obtain ⟨v0, vs0, d0, ds0, p0, q0, hv0, hd0, hp0, h0, r0⟩ := trodAll_cons hA
  obtain ⟨v1, vs1, d1, ds1, p1, q1, hv1, hd1, hp1, h1, r1⟩ := trodAll_cons r0
  obtain ⟨e1, e2, e3⟩ := trodAll_nil r1
  have ha : args = #[v0, v1] := by
    apply Array.toList_inj.1
    rw [hv0, hv1, e1]
  subst ha
  obtain ⟨R0, C0, A0, cap0, l0, rfl, hm0, hr0, -, -⟩ := open_board (hval 0 24 v0 rfl rfl) h0
  obtain ⟨R1, C1, A1, cap1, l1, rfl, hm1, hr1, -, -⟩ := open_board (hval 1 24 v1 rfl rfl) h1
  exact BesideBoards_walk0 R0 C0 A0 cap0 l0 R1 C1 A1 cap1 l1 W hm0 hr0 hm1 hr1
set_option maxRecDepth 100000 in
theorem BesideBoards_holds : Rows.FnExactBesideBoardsSaid :=
  OpenClaim.holds_of_wide 11 Try.f11 rfl rfl rfl rfl rfl rfl rfl ⟨rfl, rfl, rfl, rfl, rfl⟩ rfl rfl rfl rfl rfl (by kernel_rfl) Try.func11 (by kernel_rfl)
    (of_decide_eq_true (by kernel_rfl)) (by unfold Func.isWrapper; first | (rw [if_pos (by decide +kernel)]; kernel_rfl) | (rw [if_neg (by decide +kernel)]; exact ⟨rfl, rfl⟩))
    (fun os started H enc _ => lifted (C := Try.checked) (s := Rows.fnExactBesideBoardsSpec) started own (by kernel_rfl) Try.func11 ⟨#[], #[.agg #[.int .i64 0, .int .i64 0, .slice none 0 0], .agg #[.int .i64 0, .int .i64 0, .slice none 0 0]], []⟩ 8 (by kernel_rfl) (by kernel_rfl) (by kernel_rfl) (by kernel_rfl) (by kernel_rfl)
      laidOut (by kernel_rfl) rfl rfl Try.underlying4 (fun ds h => by
        match ds, h with
        | [d0, d1], _ => exact ⟨rfl, rfl, rfl⟩) BesideBoards_walk)
end Go.Proofs.Ytdeemhmllfoakaa
