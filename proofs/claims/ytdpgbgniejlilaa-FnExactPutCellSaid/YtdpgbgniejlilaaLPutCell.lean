/- For every board, every two numbers and every cell, PutCell of the program answers as the model does, keeps its arguments, and owns what it hands back. No condition. -/
import Derived.Test.YtdpgbgniejlilaaOpen
import Derived.Test.YtdpgbgniejlilaaMark
import Derived.Test.YtdpgbgniejlilaaBoxes
import Derived.Deep.RegionHeld3
import Derived.Deep.DeepCutAuto
import Derived.Test.YtdpgbgniejlilaaPutI
namespace Go.Proofs.Ytdpgbgniejlilaa
open Go.ChangeShapes Go.WideShapes Go.ChangeAt Go.RowKit Go.Joins Go.Deep
set_option linter.unusedSimpArgs false
set_option linter.unusedVariables false
set_option maxRecDepth 100000
set_option maxHeartbeats 4000000 in
theorem PutCell_walk0 (R0 C0 : Int) (A0 : Option Addr) (cap0 : Nat) (l0 : List (Int × Int)) (i1 : Int) (i2 : Int) (a3 b3 : Int) (w : World) (hm0 : l0.length ≤ maxLen) (hr0 : Rd w w.heap.size A0 (flat l0)) (wf1 : (Lit.int .i64 i1).wf = true) (wf2 : (Lit.int .i64 i2).wf = true) :
    Calls Try.prog 3 #[.agg #[.int .i64 R0, .int .i64 C0, .slice A0 l0.length cap0], .int .i64 i1, .int .i64 i2, .agg #[.int .i64 a3, .int .i64 b3]] w fun e w' => e = .returned (.bool true) ∧ Below w.heap.size w w' := by
  by_cases ht0 : l0.length ≤ 1048576
  · have hn0 : l0.length ≤ 1048576 := by omega
    go_enter Try.func3, Try.ntmps3
    have B : Below w.heap.size w w := Below.refl _ _
    go_wp2_with fail
    have b : Below w.heap.size w (w.alloc (.cells #[.int .i64 R0, .int .i64 C0, .slice A0 l0.length cap0] 24)) := (Below.refl _ _).alloc (Nat.le_refl _) _
    have X0 : Whole (w.alloc (.cells #[.int .i64 R0, .int .i64 C0, .slice A0 l0.length cap0] 24)) w.heap.size 24 [.int .i64 R0, .int .i64 C0, .slice A0 l0.length cap0] := heap_alloc_new w _
    have HZ := Lib.hid (show (w.alloc (.cells #[.int .i64 R0, .int .i64 C0, .slice A0 l0.length cap0] 24)).heap.size = w.heap.size + 1 by rw [World.size_alloc])
    replace B := B.trans (b.mono B.size)
    have s2 : w.heap.size ≤ (w.alloc (.cells #[.int .i64 R0, .int .i64 C0, .slice A0 l0.length cap0] 24)).heap.size := b.size
    clear b
    have hiX0 := X0.lt
    generalize w.alloc (.cells #[.int .i64 R0, .int .i64 C0, .slice A0 l0.length cap0] 24) = v1 at *
    have b : Below v1.heap.size v1 (v1.alloc (.cells #[.int .i64 a3, .int .i64 b3] 26)) := (Below.refl _ _).alloc (Nat.le_refl _) _
    have X3 : Whole (v1.alloc (.cells #[.int .i64 a3, .int .i64 b3] 26)) (w.heap.size + 1) 26 [.int .i64 a3, .int .i64 b3] := by have h := heap_alloc_new v1 (.cells #[.int .i64 a3, .int .i64 b3] 26); rw [HZ.out] at h; exact h
    have HZ := Lib.hid (show (v1.alloc (.cells #[.int .i64 a3, .int .i64 b3] 26)).heap.size = w.heap.size + 2 by rw [World.size_alloc, HZ.out])
    replace X0 := X0.below b X0.lt
    replace B := B.trans (b.mono B.size)
    have s5 : v1.heap.size ≤ (v1.alloc (.cells #[.int .i64 a3, .int .i64 b3] 26)).heap.size := b.size
    clear b
    have hiX3 := X3.lt
    generalize v1.alloc (.cells #[.int .i64 a3, .int .i64 b3] 26) = v4 at *
    have zX0 : w.heap.size < v4.heap.size := X0.lt
    have kX00 : v4.cell? ⟨w.heap.size, 0, none⟩ = some (.int .i64 R0) := (X0.cell 0).trans rfl
    have kX01 : v4.cell? ⟨w.heap.size, 1, none⟩ = some (.int .i64 C0) := (X0.cell 1).trans rfl
    have kX02 : v4.cell? ⟨w.heap.size, 2, none⟩ = some (.slice A0 l0.length cap0) := (X0.cell 2).trans rfl
    go_wp2_with fail
    refine (szBoard_any _ _ _ _ _ _ _ hm0 (by omega) (by omega)).mono ?_; rintro e w7 ⟨rfl, b⟩
    clear zX0 kX00 kX01 kX02
    rw [if_neg (by omega)]
    replace X0 := X0.below b X0.lt
    replace X3 := X3.below b X3.lt
    replace B := B.trans (b.mono B.size)
    have s8 : v4.heap.size ≤ w7.heap.size := b.size
    clear b
    have zX0 : w.heap.size < w7.heap.size := X0.lt
    have kX00 : w7.cell? ⟨w.heap.size, 0, none⟩ = some (.int .i64 R0) := (X0.cell 0).trans rfl
    have kX01 : w7.cell? ⟨w.heap.size, 1, none⟩ = some (.int .i64 C0) := (X0.cell 1).trans rfl
    have kX02 : w7.cell? ⟨w.heap.size, 2, none⟩ = some (.slice A0 l0.length cap0) := (X0.cell 2).trans rfl
    have zX3 : (w.heap.size + 1) < w7.heap.size := X3.lt
    have kX30 : w7.cell? ⟨(w.heap.size + 1), 0, none⟩ = some (.int .i64 a3) := (X3.cell 0).trans rfl
    have kX31 : w7.cell? ⟨(w.heap.size + 1), 1, none⟩ = some (.int .i64 b3) := (X3.cell 1).trans rfl
    go_wp2_with fail
    have hqX0 : w.heap.size < w7.heap.size := X0.lt
    have hqX3 : (w.heap.size + 1) < w7.heap.size := X3.lt
    have KS := Lib.hid (fun (w' : World) (h : Below w7.heap.size w7 w') => (⟨(h.cell (p := ⟨w.heap.size, 0, none⟩) hqX0).trans kX00, (h.cell (p := ⟨w.heap.size, 1, none⟩) hqX0).trans kX01, (h.cell (p := ⟨w.heap.size, 2, none⟩) hqX0).trans kX02, (h.cell (p := ⟨(w.heap.size + 1), 0, none⟩) hqX3).trans kX30, (h.cell (p := ⟨(w.heap.size + 1), 1, none⟩) hqX3).trans kX31⟩ : w'.cell? ⟨w.heap.size, 0, none⟩ = some (.int .i64 R0) ∧ w'.cell? ⟨w.heap.size, 1, none⟩ = some (.int .i64 C0) ∧ w'.cell? ⟨w.heap.size, 2, none⟩ = some (.slice A0 l0.length cap0) ∧ w'.cell? ⟨(w.heap.size + 1), 0, none⟩ = some (.int .i64 a3) ∧ w'.cell? ⟨(w.heap.size + 1), 1, none⟩ = some (.int .i64 b3)))
    go_cut [10, 11] (fun z y wx => ∃ (g : Nat) (A : Option Addr) (c : Nat), z = .pointer (some ⟨g, 0, none⟩) ∧ y = .bool (okPut R0 C0 l0 i1 i2 a3 b3) ∧ Whole wx g 30 [.int .i64 (selI (okPut R0 C0 l0 i1 i2 a3 b3) R0), .int .i64 (selI (okPut R0 C0 l0 i1 i2 a3 b3) C0), .slice A (putL R0 C0 l0 i1 i2 a3 b3).length c] ∧ Own wx A 34 (flat (putL R0 C0 l0 i1 i2 a3 b3)) ∧ New w7 A ∧ Below w7.heap.size w7 wx)
    case first =>
      go_region_held3 (fun w' => w'.cell? ⟨w.heap.size, 0, none⟩ = some (.int .i64 R0) ∧ w'.cell? ⟨w.heap.size, 1, none⟩ = some (.int .i64 C0) ∧ w'.cell? ⟨w.heap.size, 2, none⟩ = some (.slice A0 l0.length cap0) ∧ w'.cell? ⟨(w.heap.size + 1), 0, none⟩ = some (.int .i64 a3) ∧ w'.cell? ⟨(w.heap.size + 1), 1, none⟩ = some (.int .i64 b3)) (exact KS.out _ (by (repeat' (first | (with_reducible exact Below.refl _ _) | (with_reducible assumption) | (with_reducible refine Below.alloc ?_ ?_ _) | (with_reducible refine Below.setCell ?_ ?_ _) | (with_reducible refine Below.drew ?_) | (with_reducible refine below_drewN ?_ _) | (with_reducible refine Below.trans ?_ (Below.mono (by assumption) ?_)) | go_size)))) ((first | (go_at_call 9; (with_reducible refine (toBoard_any _ _ A0 cap0 l0 _ hn0 ?_).mono ?_); (focus exact (hr0.below (B.trans ((by (repeat' (first | (with_reducible exact Below.refl _ _) | (with_reducible assumption) | (with_reducible refine Below.alloc ?_ ?_ _) | (with_reducible refine Below.setCell ?_ ?_ _) | (with_reducible refine Below.drew ?_) | (with_reducible refine below_drewN ?_ _) | (with_reducible refine Below.trans ?_ (Below.mono (by assumption) ?_)) | go_size)) : Below w7.heap.size w7 _).mono B.size))).mono (Nat.le_trans B.size (by (repeat' (first | (with_reducible exact Below.refl _ _) | (with_reducible assumption) | (with_reducible refine Below.alloc ?_ ?_ _) | (with_reducible refine Below.setCell ?_ ?_ _) | (with_reducible refine Below.drew ?_) | (with_reducible refine below_drewN ?_ _) | (with_reducible refine Below.trans ?_ (Below.mono (by assumption) ?_)) | go_size)) : Below w7.heap.size w7 _).size)); rintro e w9_0 ⟨gT0, rfl, tT0, nT0, bT0⟩; have sT0 : w7.heap.size ≤ w9_0.heap.size := (by (repeat' (first | (with_reducible exact Below.refl _ _) | (with_reducible assumption) | (with_reducible refine Below.alloc ?_ ?_ _) | (with_reducible refine Below.setCell ?_ ?_ _) | (with_reducible refine Below.drew ?_) | (with_reducible refine below_drewN ?_ _) | (with_reducible refine Below.trans ?_ (Below.mono (by assumption) ?_)) | go_size)) : Below w7.heap.size w7 w9_0).size; (first | have zb := zb.below bT0 zb.lt | have zb : Whole w9_0 w7.heap.size 30 [.int .i64 0, .int .i64 0, .slice none 0 0] := Whole.below (heap_alloc_new w7.drew _) bT0 (by simp) | skip)) | (go_at_call 10; refine (toCell_any _ _ _).mono ?_; rintro e w9_3 ⟨rfl, bT3⟩; have sT3 : w7.heap.size ≤ w9_3.heap.size := (by (repeat' (first | (with_reducible exact Below.refl _ _) | (with_reducible assumption) | (with_reducible refine Below.alloc ?_ ?_ _) | (with_reducible refine Below.setCell ?_ ?_ _) | (with_reducible refine Below.drew ?_) | (with_reducible refine below_drewN ?_ _) | (with_reducible refine Below.trans ?_ (Below.mono (by assumption) ?_)) | go_size)) : Below w7.heap.size w7 w9_3).size; (first | have zb := zb.below bT3 zb.lt | have zb : Whole w9_3 w9_0.heap.size 30 [.int .i64 0, .int .i64 0, .slice none 0 0] := Whole.below (heap_alloc_new w9_0 _) bT3 (by simp) | skip); have s_w9_0_w9_3 : w9_0.heap.size ≤ w9_3.heap.size := (by have h := bT3.size; (try simp at h); omega)) | (go_at_call 8; (with_reducible refine (spec_PutCell _ _ _ _ l0 _ _ _ _ _ hn0 ?_ ).mono ?_); (focus exact (tT0.below (by (repeat' (first | (with_reducible exact Below.refl _ _) | (with_reducible assumption) | (with_reducible refine Below.alloc ?_ ?_ _) | (with_reducible refine Below.setCell ?_ ?_ _) | (with_reducible refine Below.drew ?_) | (with_reducible refine below_drewN ?_ _) | (with_reducible refine Below.trans ?_ (Below.mono (by assumption) ?_)) | go_size)) : Below w9_0.heap.size w9_0 _) (by first | exact (tT0).lt | (have h1 := (tT0).lt; omega))).own.rd); rintro e w9_f ⟨Aw0, cw0, rfl, Ow0, loOw0, b⟩; have sTf : w7.heap.size ≤ w9_f.heap.size := (by (repeat' (first | (with_reducible exact Below.refl _ _) | (with_reducible assumption) | (with_reducible refine Below.alloc ?_ ?_ _) | (with_reducible refine Below.setCell ?_ ?_ _) | (with_reducible refine Below.drew ?_) | (with_reducible refine below_drewN ?_ _) | (with_reducible refine Below.trans ?_ (Below.mono (by assumption) ?_)) | go_size)) : Below w7.heap.size w7 w9_f).size; (first | have zb := zb.below b zb.lt | have zb : Whole w9_f w9_3.heap.size 30 [.int .i64 0, .int .i64 0, .slice none 0 0] := Whole.below (heap_alloc_new w9_3 _) b (by simp) | skip); have s_w9_3_w9_f : w9_3.heap.size ≤ w9_f.heap.size := (by have h := b.size; (try simp at h); omega); have s_w9_0_w9_f : w9_0.heap.size ≤ w9_f.heap.size := (by have h := b.size; (try simp at h); omega); (first | (have q0 := (zb.cell 0).trans rfl; have q1 := (zb.cell 1).trans rfl; have q2 := (zb.cell 2).trans rfl; have qf0 := zb.frozen 0; have qf1 := zb.frozen 1; have qf2 := zb.frozen 2) | skip)) | fail))
      all_goals (go_wp2_with fail; go_meet)
      all_goals (refine ⟨_, Aw0, cw0, rfl, rfl, ?_, ?_, loOw0.mono (by (repeat' (first | (with_reducible exact Below.refl _ _) | (with_reducible assumption) | (with_reducible refine Below.alloc ?_ ?_ _) | (with_reducible refine Below.setCell ?_ ?_ _) | (with_reducible refine Below.drew ?_) | (with_reducible refine below_drewN ?_ _) | (with_reducible refine Below.trans ?_ (Below.mono (by assumption) ?_)) | go_size)) : Below w7.heap.size w7 _).size, by (repeat' (first | (with_reducible exact Below.refl _ _) | (with_reducible assumption) | (with_reducible refine Below.alloc ?_ ?_ _) | (with_reducible refine Below.setCell ?_ ?_ _) | (with_reducible refine Below.drew ?_) | (with_reducible refine below_drewN ?_ _) | (with_reducible refine Below.trans ?_ (Below.mono (by assumption) ?_)) | go_size))⟩)
      all_goals first
        | exact heap_alloc_new _ _
        | exact whole_three zb
        | exact whole_three (heap_alloc_new _ _)
        | exact Ow0.keep ((Below.refl _ _).alloc (Nat.le_refl _) _)
        | exact ((Ow0.set_far2 _ _ (fun hx a ha => (own_apart Ow0 zb (by decide) hx ha).symm)).set_far2 _ _ (fun hx a ha => (own_apart Ow0 zb (by decide) hx ha).symm)).set_far2 _ _ (fun hx a ha => (own_apart Ow0 zb (by decide) hx ha).symm)
    case rest =>
      rename World => wc10
      obtain ⟨gZw0, Aw0, cw0, rfl, rfl, Zw0, Ow0, loOw0, b⟩ := hcut
      clear KS zX0 kX00 kX01 kX02 zX3 kX30 kX31 hqX0 hqX3
      replace X0 := X0.below b X0.lt
      replace X3 := X3.below b X3.lt
      replace B := B.trans (b.mono B.size)
      have s11 : w7.heap.size ≤ wc10.heap.size := b.size
      clear b
      have hiOw0 : ∀ a : Addr, Aw0 = some a → 0 < (putL R0 C0 l0 i1 i2 a3 b3).length → a.block < wc10.heap.size := fun a ha hx => Ow0.lt (pos_flat hx) ha
      have hiZw0 := Zw0.lt
      have zX0 : w.heap.size < wc10.heap.size := X0.lt
      have kX00 : wc10.cell? ⟨w.heap.size, 0, none⟩ = some (.int .i64 R0) := (X0.cell 0).trans rfl
      have kX01 : wc10.cell? ⟨w.heap.size, 1, none⟩ = some (.int .i64 C0) := (X0.cell 1).trans rfl
      have kX02 : wc10.cell? ⟨w.heap.size, 2, none⟩ = some (.slice A0 l0.length cap0) := (X0.cell 2).trans rfl
      go_wp2_with fail
      clear zX0 kX00 kX01 kX02
      refine (toBoard_any _ _ _ _ l0 _ hn0 ((hr0.below B).mono B.size)).mono ?_; rintro e w14 ⟨gO_x0, rfl, t, n, b⟩
      replace X0 := X0.below b X0.lt
      replace X3 := X3.below b X3.lt
      replace Ow0 := Ow0.keep b
      replace Zw0 := Zw0.below b Zw0.lt
      replace B := B.trans (b.mono B.size)
      have s15 : wc10.heap.size ≤ w14.heap.size := b.size
      clear b
      have O_x0 := t.own
      have loO_x0 : ∀ a : Addr, (some ⟨gO_x0, 0, none⟩) = some a → wc10.heap.size ≤ a.block := fun a ha => by cases ha; exact n
      have hiO_x0 : ∀ a : Addr, (some ⟨gO_x0, 0, none⟩) = some a → 0 < l0.length → a.block < w14.heap.size := fun a ha _ => by cases ha; exact t.lt
      clear t n
      go_wp2_with fail
      have b : Below w14.heap.size w14 (w14.alloc (.cells #[.int .i64 R0, .int .i64 C0, .slice (some ⟨gO_x0, 0, none⟩) l0.length l0.length] 30)) := (Below.refl _ _).alloc (Nat.le_refl _) _
      have XX0 : Whole (w14.alloc (.cells #[.int .i64 R0, .int .i64 C0, .slice (some ⟨gO_x0, 0, none⟩) l0.length l0.length] 30)) w14.heap.size 30 [.int .i64 R0, .int .i64 C0, .slice (some ⟨gO_x0, 0, none⟩) l0.length l0.length] := heap_alloc_new w14 _
      replace X0 := X0.below b X0.lt
      replace X3 := X3.below b X3.lt
      replace Ow0 := Ow0.keep b
      replace Zw0 := Zw0.below b Zw0.lt
      replace O_x0 := O_x0.keep b
      replace B := B.trans (b.mono B.size)
      have s18 : w14.heap.size ≤ (w14.alloc (.cells #[.int .i64 R0, .int .i64 C0, .slice (some ⟨gO_x0, 0, none⟩) l0.length l0.length] 30)).heap.size := b.size
      clear b
      have hiXX0 := XX0.lt
      generalize w14.alloc (.cells #[.int .i64 R0, .int .i64 C0, .slice (some ⟨gO_x0, 0, none⟩) l0.length l0.length] 30) = v17 at *
      have zXX0 : w14.heap.size < v17.heap.size := XX0.lt
      have kXX00 : v17.cell? ⟨w14.heap.size, 0, none⟩ = some (.int .i64 R0) := (XX0.cell 0).trans rfl
      have kXX01 : v17.cell? ⟨w14.heap.size, 1, none⟩ = some (.int .i64 C0) := (XX0.cell 1).trans rfl
      have kXX02 : v17.cell? ⟨w14.heap.size, 2, none⟩ = some (.slice (some ⟨gO_x0, 0, none⟩) l0.length l0.length) := (XX0.cell 2).trans rfl
      have zX3 : (w.heap.size + 1) < v17.heap.size := X3.lt
      have kX30 : v17.cell? ⟨(w.heap.size + 1), 0, none⟩ = some (.int .i64 a3) := (X3.cell 0).trans rfl
      have kX31 : v17.cell? ⟨(w.heap.size + 1), 1, none⟩ = some (.int .i64 b3) := (X3.cell 1).trans rfl
      have hqXX0 : w14.heap.size < v17.heap.size := XX0.lt
      have hqX3 : (w.heap.size + 1) < v17.heap.size := X3.lt
      have KS := Lib.hid (fun (w' : World) (h : Below v17.heap.size v17 w') => (⟨(h.cell (p := ⟨w14.heap.size, 0, none⟩) hqXX0).trans kXX00, (h.cell (p := ⟨w14.heap.size, 1, none⟩) hqXX0).trans kXX01, (h.cell (p := ⟨w14.heap.size, 2, none⟩) hqXX0).trans kXX02, (h.cell (p := ⟨(w.heap.size + 1), 0, none⟩) hqX3).trans kX30, (h.cell (p := ⟨(w.heap.size + 1), 1, none⟩) hqX3).trans kX31⟩ : w'.cell? ⟨w14.heap.size, 0, none⟩ = some (.int .i64 R0) ∧ w'.cell? ⟨w14.heap.size, 1, none⟩ = some (.int .i64 C0) ∧ w'.cell? ⟨w14.heap.size, 2, none⟩ = some (.slice (some ⟨gO_x0, 0, none⟩) l0.length l0.length) ∧ w'.cell? ⟨(w.heap.size + 1), 0, none⟩ = some (.int .i64 a3) ∧ w'.cell? ⟨(w.heap.size + 1), 1, none⟩ = some (.int .i64 b3)))
      go_cut [13, 14] (fun z y wx => ∃ (g : Nat) (A : Option Addr) (c : Nat), z = .pointer (some ⟨g, 0, none⟩) ∧ y = .bool (okPut R0 C0 l0 i1 i2 a3 b3) ∧ Whole wx g 30 [.int .i64 (selI (okPut R0 C0 l0 i1 i2 a3 b3) R0), .int .i64 (selI (okPut R0 C0 l0 i1 i2 a3 b3) C0), .slice A (putL R0 C0 l0 i1 i2 a3 b3).length c] ∧ Own wx A 34 (flat (putL R0 C0 l0 i1 i2 a3 b3)) ∧ New v17 A ∧ Below v17.heap.size v17 wx)
      case first =>
        go_region_held3 (fun w' => w'.cell? ⟨w14.heap.size, 0, none⟩ = some (.int .i64 R0) ∧ w'.cell? ⟨w14.heap.size, 1, none⟩ = some (.int .i64 C0) ∧ w'.cell? ⟨w14.heap.size, 2, none⟩ = some (.slice (some ⟨gO_x0, 0, none⟩) l0.length l0.length) ∧ w'.cell? ⟨(w.heap.size + 1), 0, none⟩ = some (.int .i64 a3) ∧ w'.cell? ⟨(w.heap.size + 1), 1, none⟩ = some (.int .i64 b3)) (exact KS.out _ (by (repeat' (first | (with_reducible exact Below.refl _ _) | (with_reducible assumption) | (with_reducible refine Below.alloc ?_ ?_ _) | (with_reducible refine Below.setCell ?_ ?_ _) | (with_reducible refine Below.drew ?_) | (with_reducible refine below_drewN ?_ _) | (with_reducible refine Below.trans ?_ (Below.mono (by assumption) ?_)) | go_size)))) ((first | (go_at_call 10; refine (toCell_any _ _ _).mono ?_; rintro e w20_3 ⟨rfl, bT3⟩; have sT3 : v17.heap.size ≤ w20_3.heap.size := (by (repeat' (first | (with_reducible exact Below.refl _ _) | (with_reducible assumption) | (with_reducible refine Below.alloc ?_ ?_ _) | (with_reducible refine Below.setCell ?_ ?_ _) | (with_reducible refine Below.drew ?_) | (with_reducible refine below_drewN ?_ _) | (with_reducible refine Below.trans ?_ (Below.mono (by assumption) ?_)) | go_size)) : Below v17.heap.size v17 w20_3).size; (first | have zb := zb.below bT3 zb.lt | have zb : Whole w20_3 v17.heap.size 30 [.int .i64 0, .int .i64 0, .slice none 0 0] := Whole.below (heap_alloc_new v17.drew _) bT3 (by simp) | skip)) | (go_at_call 11; (with_reducible refine (impl_PutCell _ _ _ _ l0 _ _ _ _ _ hn0 ?_ ).mono ?_); (focus exact (O_x0.keep (by (repeat' (first | (with_reducible exact Below.refl _ _) | (with_reducible assumption) | (with_reducible refine Below.alloc ?_ ?_ _) | (with_reducible refine Below.setCell ?_ ?_ _) | (with_reducible refine Below.drew ?_) | (with_reducible refine below_drewN ?_ _) | (with_reducible refine Below.trans ?_ (Below.mono (by assumption) ?_)) | go_size)) : Below v17.heap.size v17 _)).rd); rintro e w20_f ⟨Ag0, cg0, rfl, Og0, loOg0, b⟩; have sTf : v17.heap.size ≤ w20_f.heap.size := (by (repeat' (first | (with_reducible exact Below.refl _ _) | (with_reducible assumption) | (with_reducible refine Below.alloc ?_ ?_ _) | (with_reducible refine Below.setCell ?_ ?_ _) | (with_reducible refine Below.drew ?_) | (with_reducible refine below_drewN ?_ _) | (with_reducible refine Below.trans ?_ (Below.mono (by assumption) ?_)) | go_size)) : Below v17.heap.size v17 w20_f).size; (first | have zb := zb.below b zb.lt | have zb : Whole w20_f w20_3.heap.size 30 [.int .i64 0, .int .i64 0, .slice none 0 0] := Whole.below (heap_alloc_new w20_3 _) b (by simp) | skip); have s_w20_3_w20_f : w20_3.heap.size ≤ w20_f.heap.size := (by have h := b.size; (try simp at h); omega); (first | (have q0 := (zb.cell 0).trans rfl; have q1 := (zb.cell 1).trans rfl; have q2 := (zb.cell 2).trans rfl; have qf0 := zb.frozen 0; have qf1 := zb.frozen 1; have qf2 := zb.frozen 2) | skip)) | fail))
        all_goals (go_wp2_with fail; go_meet)
        all_goals (refine ⟨_, Ag0, cg0, rfl, rfl, ?_, ?_, loOg0.mono (by (repeat' (first | (with_reducible exact Below.refl _ _) | (with_reducible assumption) | (with_reducible refine Below.alloc ?_ ?_ _) | (with_reducible refine Below.setCell ?_ ?_ _) | (with_reducible refine Below.drew ?_) | (with_reducible refine below_drewN ?_ _) | (with_reducible refine Below.trans ?_ (Below.mono (by assumption) ?_)) | go_size)) : Below v17.heap.size v17 _).size, by (repeat' (first | (with_reducible exact Below.refl _ _) | (with_reducible assumption) | (with_reducible refine Below.alloc ?_ ?_ _) | (with_reducible refine Below.setCell ?_ ?_ _) | (with_reducible refine Below.drew ?_) | (with_reducible refine below_drewN ?_ _) | (with_reducible refine Below.trans ?_ (Below.mono (by assumption) ?_)) | go_size))⟩)
        all_goals first
          | exact heap_alloc_new _ _
          | exact whole_three zb
          | exact whole_three (heap_alloc_new _ _)
          | exact Og0.keep ((Below.refl _ _).alloc (Nat.le_refl _) _)
          | exact ((Og0.set_far2 _ _ (fun hx a ha => (own_apart Og0 zb (by decide) hx ha).symm)).set_far2 _ _ (fun hx a ha => (own_apart Og0 zb (by decide) hx ha).symm)).set_far2 _ _ (fun hx a ha => (own_apart Og0 zb (by decide) hx ha).symm)
      case rest =>
        rename World => wc21
        obtain ⟨gZg0, Ag0, cg0, rfl, rfl, Zg0, Og0, loOg0, b⟩ := hcut
        clear KS zXX0 kXX00 kXX01 kXX02 zX3 kX30 kX31 hqXX0 hqX3
        replace X0 := X0.below b X0.lt
        replace X3 := X3.below b X3.lt
        replace Ow0 := Ow0.keep b
        replace Zw0 := Zw0.below b Zw0.lt
        replace O_x0 := O_x0.keep b
        replace XX0 := XX0.below b XX0.lt
        replace B := B.trans (b.mono B.size)
        have s22 : v17.heap.size ≤ wc21.heap.size := b.size
        clear b
        have hiOg0 : ∀ a : Addr, Ag0 = some a → 0 < (putL R0 C0 l0 i1 i2 a3 b3).length → a.block < wc21.heap.size := fun a ha hx => Og0.lt (pos_flat hx) ha
        have hiZg0 := Zg0.lt
        have zZg0 : gZg0 < wc21.heap.size := Zg0.lt
        have kZg00 : wc21.cell? ⟨gZg0, 0, none⟩ = some (.int .i64 (selI (okPut R0 C0 l0 i1 i2 a3 b3) R0)) := (Zg0.cell 0).trans rfl
        have kZg01 : wc21.cell? ⟨gZg0, 1, none⟩ = some (.int .i64 (selI (okPut R0 C0 l0 i1 i2 a3 b3) C0)) := (Zg0.cell 1).trans rfl
        have kZg02 : wc21.cell? ⟨gZg0, 2, none⟩ = some (.slice Ag0 (putL R0 C0 l0 i1 i2 a3 b3).length cg0) := (Zg0.cell 2).trans rfl
        have zZw0 : gZw0 < wc21.heap.size := Zw0.lt
        have kZw00 : wc21.cell? ⟨gZw0, 0, none⟩ = some (.int .i64 (selI (okPut R0 C0 l0 i1 i2 a3 b3) R0)) := (Zw0.cell 0).trans rfl
        have kZw01 : wc21.cell? ⟨gZw0, 1, none⟩ = some (.int .i64 (selI (okPut R0 C0 l0 i1 i2 a3 b3) C0)) := (Zw0.cell 1).trans rfl
        have kZw02 : wc21.cell? ⟨gZw0, 2, none⟩ = some (.slice Aw0 (putL R0 C0 l0 i1 i2 a3 b3).length cw0) := (Zw0.cell 2).trans rfl
        go_wp2_with fail
        refine (eqBoard_any _ _ _ _ _ _ _ _ (putL R0 C0 l0 i1 i2 a3 b3) (putL R0 C0 l0 i1 i2 a3 b3) _ (putL_len _ _ _ _ _ _ _ hn0) (putL_len _ _ _ _ _ _ _ hn0) Og0.rd Ow0.rd).mono ?_; rintro e w25 ⟨rfl, b⟩
        rw [eqB_same]
        clear zZg0 kZg00 kZg01 kZg02 zZw0 kZw00 kZw01 kZw02
        replace X0 := X0.below b X0.lt
        replace X3 := X3.below b X3.lt
        replace Ow0 := Ow0.keep b
        replace Zw0 := Zw0.below b Zw0.lt
        replace O_x0 := O_x0.keep b
        replace XX0 := XX0.below b XX0.lt
        replace Og0 := Og0.keep b
        replace Zg0 := Zg0.below b Zg0.lt
        replace B := B.trans (b.mono B.size)
        have s26 : wc21.heap.size ≤ w25.heap.size := b.size
        clear b
        have zXX0 : w14.heap.size < w25.heap.size := XX0.lt
        have kXX00 : w25.cell? ⟨w14.heap.size, 0, none⟩ = some (.int .i64 R0) := (XX0.cell 0).trans rfl
        have kXX01 : w25.cell? ⟨w14.heap.size, 1, none⟩ = some (.int .i64 C0) := (XX0.cell 1).trans rfl
        have kXX02 : w25.cell? ⟨w14.heap.size, 2, none⟩ = some (.slice (some ⟨gO_x0, 0, none⟩) l0.length l0.length) := (XX0.cell 2).trans rfl
        have zX0 : w.heap.size < w25.heap.size := X0.lt
        have kX00 : w25.cell? ⟨w.heap.size, 0, none⟩ = some (.int .i64 R0) := (X0.cell 0).trans rfl
        have kX01 : w25.cell? ⟨w.heap.size, 1, none⟩ = some (.int .i64 C0) := (X0.cell 1).trans rfl
        have kX02 : w25.cell? ⟨w.heap.size, 2, none⟩ = some (.slice A0 l0.length cap0) := (X0.cell 2).trans rfl
        go_wp2_with fail
        have hqXX0 : w14.heap.size < w25.heap.size := XX0.lt
        have hqX0 : w.heap.size < w25.heap.size := X0.lt
        go_region_held3 (fun w' => w'.cell? ⟨w14.heap.size, 0, none⟩ = some (.int .i64 R0) ∧ w'.cell? ⟨w14.heap.size, 1, none⟩ = some (.int .i64 C0) ∧ w'.cell? ⟨w14.heap.size, 2, none⟩ = some (.slice (some ⟨gO_x0, 0, none⟩) l0.length l0.length) ∧ w'.cell? ⟨w.heap.size, 0, none⟩ = some (.int .i64 R0) ∧ w'.cell? ⟨w.heap.size, 1, none⟩ = some (.int .i64 C0) ∧ w'.cell? ⟨w.heap.size, 2, none⟩ = some (.slice A0 l0.length cap0))
          (first | exact ⟨kXX00, kXX01, kXX02, kX00, kX01, kX02⟩ | exact ⟨(b.cell (p := ⟨w14.heap.size, 0, none⟩) hqXX0).trans kXX00, (b.cell (p := ⟨w14.heap.size, 1, none⟩) hqXX0).trans kXX01, (b.cell (p := ⟨w14.heap.size, 2, none⟩) hqXX0).trans kXX02, (b.cell (p := ⟨w.heap.size, 0, none⟩) hqX0).trans kX00, (b.cell (p := ⟨w.heap.size, 1, none⟩) hqX0).trans kX01, (b.cell (p := ⟨w.heap.size, 2, none⟩) hqX0).trans kX02⟩ | exact ⟨(b2.cell (p := ⟨w14.heap.size, 0, none⟩) (Nat.lt_of_lt_of_le hqXX0 b.size)).trans ((b.cell (p := ⟨w14.heap.size, 0, none⟩) hqXX0).trans kXX00), (b2.cell (p := ⟨w14.heap.size, 1, none⟩) (Nat.lt_of_lt_of_le hqXX0 b.size)).trans ((b.cell (p := ⟨w14.heap.size, 1, none⟩) hqXX0).trans kXX01), (b2.cell (p := ⟨w14.heap.size, 2, none⟩) (Nat.lt_of_lt_of_le hqXX0 b.size)).trans ((b.cell (p := ⟨w14.heap.size, 2, none⟩) hqXX0).trans kXX02), (b2.cell (p := ⟨w.heap.size, 0, none⟩) (Nat.lt_of_lt_of_le hqX0 b.size)).trans ((b.cell (p := ⟨w.heap.size, 0, none⟩) hqX0).trans kX00), (b2.cell (p := ⟨w.heap.size, 1, none⟩) (Nat.lt_of_lt_of_le hqX0 b.size)).trans ((b.cell (p := ⟨w.heap.size, 1, none⟩) hqX0).trans kX01), (b2.cell (p := ⟨w.heap.size, 2, none⟩) (Nat.lt_of_lt_of_le hqX0 b.size)).trans ((b.cell (p := ⟨w.heap.size, 2, none⟩) hqX0).trans kX02)⟩)
          ((first | (go_at_call 9; refine (toBoard_any _ _ _ _ l0 _ hn0 ((hr0.below B.drew).mono B.size)).mono ?_; rintro e w27a ⟨gq, rfl, t, n, b⟩) | (go_at_call 12; refine (eqBoard_any _ _ _ _ _ _ _ _ l0 l0 _ hn0 hn0 ((O_x0.keep (Below.drew (Below.refl _ _))).keep b).rd t.own.rd).mono ?_; rintro e w27b ⟨rfl, b2⟩; rw [eqB_same])))
        have bb : Below w25.heap.size w25 w27b := ((Below.refl _ _).drew).trans (b.trans (b2.mono b.size))
        clear b b2 t n zXX0 kXX00 kXX01 kXX02 zX0 kX00 kX01 kX02 hqXX0 hqX0
        replace X0 := X0.below bb X0.lt
        replace X3 := X3.below bb X3.lt
        replace Ow0 := Ow0.keep bb
        replace Zw0 := Zw0.below bb Zw0.lt
        replace O_x0 := O_x0.keep bb
        replace XX0 := XX0.below bb XX0.lt
        replace Og0 := Og0.keep bb
        replace Zg0 := Zg0.below bb Zg0.lt
        replace B := B.trans (bb.mono B.size)
        have s28 : w25.heap.size ≤ w27b.heap.size := bb.size
        clear bb
        have zXX0 : w14.heap.size < w27b.heap.size := XX0.lt
        have kXX00 : w27b.cell? ⟨w14.heap.size, 0, none⟩ = some (.int .i64 R0) := (XX0.cell 0).trans rfl
        have kXX01 : w27b.cell? ⟨w14.heap.size, 1, none⟩ = some (.int .i64 C0) := (XX0.cell 1).trans rfl
        have kXX02 : w27b.cell? ⟨w14.heap.size, 2, none⟩ = some (.slice (some ⟨gO_x0, 0, none⟩) l0.length l0.length) := (XX0.cell 2).trans rfl
        go_wp2_with fail
        refine (markBoard_n _ _ _ _ l0.length (flat l0) _ _ (flat_length _) hn0 (by omega) (by omega) O_x0).mono ?_; rintro e w29 ⟨rfl, o, b⟩
        clear zXX0 kXX00 kXX01 kXX02
        replace X0 := X0.fx b (fun hp a ha => own_apart O_x0 X0 (by decide) (pos_flat hp) ha)
        replace X3 := X3.fx b (fun hp a ha => own_apart O_x0 X3 (by decide) (pos_flat hp) ha)
        replace Ow0 := Ow0.fx b (fun hp hx a a' ha ha' => by have h1 := loO_x0 a' ha'; have h2 := hiOw0 a ha (flat_pos hx); omega)
        replace Zw0 := Zw0.fx b (fun hp a ha => own_apart O_x0 Zw0 (by decide) (pos_flat hp) ha)
        replace XX0 := XX0.fx b (fun hp a ha => own_apart O_x0 XX0 (by decide) (pos_flat hp) ha)
        replace Og0 := Og0.fx b (fun hp hx a a' ha ha' => by have h1 := hiO_x0 a' ha' hp; have h2 := loOg0 a ha; omega)
        replace Zg0 := Zg0.fx b (fun hp a ha => own_apart O_x0 Zg0 (by decide) (pos_flat hp) ha)
        replace B := B.trans (b.below B.size (fun a ha => by have h1 := loO_x0 a ha; omega))
        have s30 : w27b.heap.size ≤ w29.heap.size := b.size
        clear b
        replace O_x0 := o
        clear O_x0
        have zZg0 : gZg0 < w29.heap.size := Zg0.lt
        have kZg00 : w29.cell? ⟨gZg0, 0, none⟩ = some (.int .i64 (selI (okPut R0 C0 l0 i1 i2 a3 b3) R0)) := (Zg0.cell 0).trans rfl
        have kZg01 : w29.cell? ⟨gZg0, 1, none⟩ = some (.int .i64 (selI (okPut R0 C0 l0 i1 i2 a3 b3) C0)) := (Zg0.cell 1).trans rfl
        have kZg02 : w29.cell? ⟨gZg0, 2, none⟩ = some (.slice Ag0 (putL R0 C0 l0 i1 i2 a3 b3).length cg0) := (Zg0.cell 2).trans rfl
        have zZw0 : gZw0 < w29.heap.size := Zw0.lt
        have kZw00 : w29.cell? ⟨gZw0, 0, none⟩ = some (.int .i64 (selI (okPut R0 C0 l0 i1 i2 a3 b3) R0)) := (Zw0.cell 0).trans rfl
        have kZw01 : w29.cell? ⟨gZw0, 1, none⟩ = some (.int .i64 (selI (okPut R0 C0 l0 i1 i2 a3 b3) C0)) := (Zw0.cell 1).trans rfl
        have kZw02 : w29.cell? ⟨gZw0, 2, none⟩ = some (.slice Aw0 (putL R0 C0 l0 i1 i2 a3 b3).length cw0) := (Zw0.cell 2).trans rfl
        go_wp2_with fail
        refine (eqBoard_any _ _ _ _ _ _ _ _ (putL R0 C0 l0 i1 i2 a3 b3) (putL R0 C0 l0 i1 i2 a3 b3) _ (putL_len _ _ _ _ _ _ _ hn0) (putL_len _ _ _ _ _ _ _ hn0) Og0.rd Ow0.rd).mono ?_; rintro e w31 ⟨rfl, b⟩
        rw [eqB_same]
        clear zZg0 kZg00 kZg01 kZg02 zZw0 kZw00 kZw01 kZw02
        replace X0 := X0.below b X0.lt
        replace X3 := X3.below b X3.lt
        replace Ow0 := Ow0.keep b
        replace Zw0 := Zw0.below b Zw0.lt
        replace XX0 := XX0.below b XX0.lt
        replace Og0 := Og0.keep b
        replace Zg0 := Zg0.below b Zg0.lt
        replace B := B.trans (b.mono B.size)
        have s32 : w29.heap.size ≤ w31.heap.size := b.size
        clear b
        have zZg0 : gZg0 < w31.heap.size := Zg0.lt
        have kZg00 : w31.cell? ⟨gZg0, 0, none⟩ = some (.int .i64 (selI (okPut R0 C0 l0 i1 i2 a3 b3) R0)) := (Zg0.cell 0).trans rfl
        have kZg01 : w31.cell? ⟨gZg0, 1, none⟩ = some (.int .i64 (selI (okPut R0 C0 l0 i1 i2 a3 b3) C0)) := (Zg0.cell 1).trans rfl
        have kZg02 : w31.cell? ⟨gZg0, 2, none⟩ = some (.slice Ag0 (putL R0 C0 l0 i1 i2 a3 b3).length cg0) := (Zg0.cell 2).trans rfl
        go_wp2_with fail
        refine (markBoard_n _ _ _ _ (putL R0 C0 l0 i1 i2 a3 b3).length (flat (putL R0 C0 l0 i1 i2 a3 b3)) _ _ (flat_length _) (putL_len _ _ _ _ _ _ _ hn0) (by omega) (by omega) Og0).mono ?_; rintro e w33 ⟨rfl, o, b⟩
        clear zZg0 kZg00 kZg01 kZg02
        replace X0 := X0.fx b (fun hp a ha => own_apart Og0 X0 (by decide) (pos_flat hp) ha)
        replace X3 := X3.fx b (fun hp a ha => own_apart Og0 X3 (by decide) (pos_flat hp) ha)
        replace Ow0 := Ow0.fx b (fun hp hx a a' ha ha' => by have h1 := loOg0 a' ha'; have h2 := hiOw0 a ha (flat_pos hx); omega)
        replace Zw0 := Zw0.fx b (fun hp a ha => own_apart Og0 Zw0 (by decide) (pos_flat hp) ha)
        replace XX0 := XX0.fx b (fun hp a ha => own_apart Og0 XX0 (by decide) (pos_flat hp) ha)
        replace Zg0 := Zg0.fx b (fun hp a ha => own_apart Og0 Zg0 (by decide) (pos_flat hp) ha)
        replace B := B.trans (b.below B.size (fun a ha => by have h1 := loOg0 a ha; omega))
        have s34 : w31.heap.size ≤ w33.heap.size := b.size
        clear b
        replace Og0 := o
        have zZg0 : gZg0 < w33.heap.size := Zg0.lt
        have kZg00 : w33.cell? ⟨gZg0, 0, none⟩ = some (.int .i64 (selI (okPut R0 C0 l0 i1 i2 a3 b3) R0)) := (Zg0.cell 0).trans rfl
        have kZg01 : w33.cell? ⟨gZg0, 1, none⟩ = some (.int .i64 (selI (okPut R0 C0 l0 i1 i2 a3 b3) C0)) := (Zg0.cell 1).trans rfl
        have kZg02 : w33.cell? ⟨gZg0, 2, none⟩ = some (.slice Ag0 (putL R0 C0 l0 i1 i2 a3 b3).length cg0) := (Zg0.cell 2).trans rfl
        go_wp2_with fail
        refine (heldBoard_any _ _ _ _ (putL R0 C0 l0 i1 i2 a3 b3).length _ _ (putL_len _ _ _ _ _ _ _ hn0) (by omega) (by omega) Og0).mono ?_; rintro e w35 ⟨rfl, b⟩
        clear zZg0 kZg00 kZg01 kZg02
        replace X0 := X0.below b X0.lt
        replace X3 := X3.below b X3.lt
        replace Ow0 := Ow0.keep b
        replace Zw0 := Zw0.below b Zw0.lt
        replace XX0 := XX0.below b XX0.lt
        replace Og0 := Og0.keep b
        replace Zg0 := Zg0.below b Zg0.lt
        replace B := B.trans (b.mono B.size)
        have s36 : w33.heap.size ≤ w35.heap.size := b.size
        clear b
        have zX0 : w.heap.size < w35.heap.size := X0.lt
        have kX00 : w35.cell? ⟨w.heap.size, 0, none⟩ = some (.int .i64 R0) := (X0.cell 0).trans rfl
        have kX01 : w35.cell? ⟨w.heap.size, 1, none⟩ = some (.int .i64 C0) := (X0.cell 1).trans rfl
        have kX02 : w35.cell? ⟨w.heap.size, 2, none⟩ = some (.slice A0 l0.length cap0) := (X0.cell 2).trans rfl
        have zX3 : (w.heap.size + 1) < w35.heap.size := X3.lt
        have kX30 : w35.cell? ⟨(w.heap.size + 1), 0, none⟩ = some (.int .i64 a3) := (X3.cell 0).trans rfl
        have kX31 : w35.cell? ⟨(w.heap.size + 1), 1, none⟩ = some (.int .i64 b3) := (X3.cell 1).trans rfl
        go_wp2_with fail
        have hqX0 : w.heap.size < w35.heap.size := X0.lt
        have hqX3 : (w.heap.size + 1) < w35.heap.size := X3.lt
        have KS := Lib.hid (fun (w' : World) (h : Below w35.heap.size w35 w') => (⟨(h.cell (p := ⟨w.heap.size, 0, none⟩) hqX0).trans kX00, (h.cell (p := ⟨w.heap.size, 1, none⟩) hqX0).trans kX01, (h.cell (p := ⟨w.heap.size, 2, none⟩) hqX0).trans kX02, (h.cell (p := ⟨(w.heap.size + 1), 0, none⟩) hqX3).trans kX30, (h.cell (p := ⟨(w.heap.size + 1), 1, none⟩) hqX3).trans kX31⟩ : w'.cell? ⟨w.heap.size, 0, none⟩ = some (.int .i64 R0) ∧ w'.cell? ⟨w.heap.size, 1, none⟩ = some (.int .i64 C0) ∧ w'.cell? ⟨w.heap.size, 2, none⟩ = some (.slice A0 l0.length cap0) ∧ w'.cell? ⟨(w.heap.size + 1), 0, none⟩ = some (.int .i64 a3) ∧ w'.cell? ⟨(w.heap.size + 1), 1, none⟩ = some (.int .i64 b3)))
        go_cut [18, 19] (fun z y wx => ∃ (g : Nat) (A : Option Addr) (c : Nat), z = .pointer (some ⟨g, 0, none⟩) ∧ y = .bool (okPut R0 C0 l0 i1 i2 a3 b3) ∧ Whole wx g 30 [.int .i64 (selI (okPut R0 C0 l0 i1 i2 a3 b3) R0), .int .i64 (selI (okPut R0 C0 l0 i1 i2 a3 b3) C0), .slice A (putL R0 C0 l0 i1 i2 a3 b3).length c] ∧ Own wx A 34 (flat (putL R0 C0 l0 i1 i2 a3 b3)) ∧ New w35 A ∧ Below w35.heap.size w35 wx)
        case first =>
          go_region_held3 (fun w' => w'.cell? ⟨w.heap.size, 0, none⟩ = some (.int .i64 R0) ∧ w'.cell? ⟨w.heap.size, 1, none⟩ = some (.int .i64 C0) ∧ w'.cell? ⟨w.heap.size, 2, none⟩ = some (.slice A0 l0.length cap0) ∧ w'.cell? ⟨(w.heap.size + 1), 0, none⟩ = some (.int .i64 a3) ∧ w'.cell? ⟨(w.heap.size + 1), 1, none⟩ = some (.int .i64 b3)) (exact KS.out _ (by (repeat' (first | (with_reducible exact Below.refl _ _) | (with_reducible assumption) | (with_reducible refine Below.alloc ?_ ?_ _) | (with_reducible refine Below.setCell ?_ ?_ _) | (with_reducible refine Below.drew ?_) | (with_reducible refine below_drewN ?_ _) | (with_reducible refine Below.trans ?_ (Below.mono (by assumption) ?_)) | go_size)))) ((first | (go_at_call 9; (with_reducible refine (toBoard_any _ _ A0 cap0 l0 _ hn0 ?_).mono ?_); (focus exact (hr0.below (B.trans ((by (repeat' (first | (with_reducible exact Below.refl _ _) | (with_reducible assumption) | (with_reducible refine Below.alloc ?_ ?_ _) | (with_reducible refine Below.setCell ?_ ?_ _) | (with_reducible refine Below.drew ?_) | (with_reducible refine below_drewN ?_ _) | (with_reducible refine Below.trans ?_ (Below.mono (by assumption) ?_)) | go_size)) : Below w35.heap.size w35 _).mono B.size))).mono (Nat.le_trans B.size (by (repeat' (first | (with_reducible exact Below.refl _ _) | (with_reducible assumption) | (with_reducible refine Below.alloc ?_ ?_ _) | (with_reducible refine Below.setCell ?_ ?_ _) | (with_reducible refine Below.drew ?_) | (with_reducible refine below_drewN ?_ _) | (with_reducible refine Below.trans ?_ (Below.mono (by assumption) ?_)) | go_size)) : Below w35.heap.size w35 _).size)); rintro e w37_0 ⟨gT0, rfl, tT0, nT0, bT0⟩; have sT0 : w35.heap.size ≤ w37_0.heap.size := (by (repeat' (first | (with_reducible exact Below.refl _ _) | (with_reducible assumption) | (with_reducible refine Below.alloc ?_ ?_ _) | (with_reducible refine Below.setCell ?_ ?_ _) | (with_reducible refine Below.drew ?_) | (with_reducible refine below_drewN ?_ _) | (with_reducible refine Below.trans ?_ (Below.mono (by assumption) ?_)) | go_size)) : Below w35.heap.size w35 w37_0).size; (first | have zb := zb.below bT0 zb.lt | have zb : Whole w37_0 w35.heap.size 30 [.int .i64 0, .int .i64 0, .slice none 0 0] := Whole.below (heap_alloc_new w35.drew _) bT0 (by simp) | skip)) | (go_at_call 10; refine (toCell_any _ _ _).mono ?_; rintro e w37_3 ⟨rfl, bT3⟩; have sT3 : w35.heap.size ≤ w37_3.heap.size := (by (repeat' (first | (with_reducible exact Below.refl _ _) | (with_reducible assumption) | (with_reducible refine Below.alloc ?_ ?_ _) | (with_reducible refine Below.setCell ?_ ?_ _) | (with_reducible refine Below.drew ?_) | (with_reducible refine below_drewN ?_ _) | (with_reducible refine Below.trans ?_ (Below.mono (by assumption) ?_)) | go_size)) : Below w35.heap.size w35 w37_3).size; (first | have zb := zb.below bT3 zb.lt | have zb : Whole w37_3 w37_0.heap.size 30 [.int .i64 0, .int .i64 0, .slice none 0 0] := Whole.below (heap_alloc_new w37_0 _) bT3 (by simp) | skip); have s_w37_0_w37_3 : w37_0.heap.size ≤ w37_3.heap.size := (by have h := bT3.size; (try simp at h); omega)) | (go_at_call 11; (with_reducible refine (impl_PutCell _ _ _ _ l0 _ _ _ _ _ hn0 ?_ ).mono ?_); (focus exact (tT0.below (by (repeat' (first | (with_reducible exact Below.refl _ _) | (with_reducible assumption) | (with_reducible refine Below.alloc ?_ ?_ _) | (with_reducible refine Below.setCell ?_ ?_ _) | (with_reducible refine Below.drew ?_) | (with_reducible refine below_drewN ?_ _) | (with_reducible refine Below.trans ?_ (Below.mono (by assumption) ?_)) | go_size)) : Below w37_0.heap.size w37_0 _) (by first | exact (tT0).lt | (have h1 := (tT0).lt; omega))).own.rd); rintro e w37_f ⟨Ah0, ch0, rfl, Oh0, loOh0, b⟩; have sTf : w35.heap.size ≤ w37_f.heap.size := (by (repeat' (first | (with_reducible exact Below.refl _ _) | (with_reducible assumption) | (with_reducible refine Below.alloc ?_ ?_ _) | (with_reducible refine Below.setCell ?_ ?_ _) | (with_reducible refine Below.drew ?_) | (with_reducible refine below_drewN ?_ _) | (with_reducible refine Below.trans ?_ (Below.mono (by assumption) ?_)) | go_size)) : Below w35.heap.size w35 w37_f).size; (first | have zb := zb.below b zb.lt | have zb : Whole w37_f w37_3.heap.size 30 [.int .i64 0, .int .i64 0, .slice none 0 0] := Whole.below (heap_alloc_new w37_3 _) b (by simp) | skip); have s_w37_3_w37_f : w37_3.heap.size ≤ w37_f.heap.size := (by have h := b.size; (try simp at h); omega); have s_w37_0_w37_f : w37_0.heap.size ≤ w37_f.heap.size := (by have h := b.size; (try simp at h); omega); (first | (have q0 := (zb.cell 0).trans rfl; have q1 := (zb.cell 1).trans rfl; have q2 := (zb.cell 2).trans rfl; have qf0 := zb.frozen 0; have qf1 := zb.frozen 1; have qf2 := zb.frozen 2) | skip)) | fail))
          all_goals (go_wp2_with fail; go_meet)
          all_goals (refine ⟨_, Ah0, ch0, rfl, rfl, ?_, ?_, loOh0.mono (by (repeat' (first | (with_reducible exact Below.refl _ _) | (with_reducible assumption) | (with_reducible refine Below.alloc ?_ ?_ _) | (with_reducible refine Below.setCell ?_ ?_ _) | (with_reducible refine Below.drew ?_) | (with_reducible refine below_drewN ?_ _) | (with_reducible refine Below.trans ?_ (Below.mono (by assumption) ?_)) | go_size)) : Below w35.heap.size w35 _).size, by (repeat' (first | (with_reducible exact Below.refl _ _) | (with_reducible assumption) | (with_reducible refine Below.alloc ?_ ?_ _) | (with_reducible refine Below.setCell ?_ ?_ _) | (with_reducible refine Below.drew ?_) | (with_reducible refine below_drewN ?_ _) | (with_reducible refine Below.trans ?_ (Below.mono (by assumption) ?_)) | go_size))⟩)
          all_goals first
            | exact heap_alloc_new _ _
            | exact whole_three zb
            | exact whole_three (heap_alloc_new _ _)
            | exact Oh0.keep ((Below.refl _ _).alloc (Nat.le_refl _) _)
            | exact ((Oh0.set_far2 _ _ (fun hx a ha => (own_apart Oh0 zb (by decide) hx ha).symm)).set_far2 _ _ (fun hx a ha => (own_apart Oh0 zb (by decide) hx ha).symm)).set_far2 _ _ (fun hx a ha => (own_apart Oh0 zb (by decide) hx ha).symm)
        case rest =>
          rename World => wc38
          obtain ⟨gZh0, Ah0, ch0, rfl, rfl, Zh0, Oh0, loOh0, b⟩ := hcut
          clear KS zX0 kX00 kX01 kX02 zX3 kX30 kX31 hqX0 hqX3
          replace X0 := X0.below b X0.lt
          replace X3 := X3.below b X3.lt
          replace Ow0 := Ow0.keep b
          replace Zw0 := Zw0.below b Zw0.lt
          replace XX0 := XX0.below b XX0.lt
          replace Og0 := Og0.keep b
          replace Zg0 := Zg0.below b Zg0.lt
          replace B := B.trans (b.mono B.size)
          have s39 : w35.heap.size ≤ wc38.heap.size := b.size
          clear b
          have hiOh0 : ∀ a : Addr, Ah0 = some a → 0 < (putL R0 C0 l0 i1 i2 a3 b3).length → a.block < wc38.heap.size := fun a ha hx => Oh0.lt (pos_flat hx) ha
          have hiZh0 := Zh0.lt
          have zZh0 : gZh0 < wc38.heap.size := Zh0.lt
          have kZh00 : wc38.cell? ⟨gZh0, 0, none⟩ = some (.int .i64 (selI (okPut R0 C0 l0 i1 i2 a3 b3) R0)) := (Zh0.cell 0).trans rfl
          have kZh01 : wc38.cell? ⟨gZh0, 1, none⟩ = some (.int .i64 (selI (okPut R0 C0 l0 i1 i2 a3 b3) C0)) := (Zh0.cell 1).trans rfl
          have kZh02 : wc38.cell? ⟨gZh0, 2, none⟩ = some (.slice Ah0 (putL R0 C0 l0 i1 i2 a3 b3).length ch0) := (Zh0.cell 2).trans rfl
          have zZw0 : gZw0 < wc38.heap.size := Zw0.lt
          have kZw00 : wc38.cell? ⟨gZw0, 0, none⟩ = some (.int .i64 (selI (okPut R0 C0 l0 i1 i2 a3 b3) R0)) := (Zw0.cell 0).trans rfl
          have kZw01 : wc38.cell? ⟨gZw0, 1, none⟩ = some (.int .i64 (selI (okPut R0 C0 l0 i1 i2 a3 b3) C0)) := (Zw0.cell 1).trans rfl
          have kZw02 : wc38.cell? ⟨gZw0, 2, none⟩ = some (.slice Aw0 (putL R0 C0 l0 i1 i2 a3 b3).length cw0) := (Zw0.cell 2).trans rfl
          go_wp2_with fail
          refine (eqBoard_any _ _ _ _ _ _ _ _ (putL R0 C0 l0 i1 i2 a3 b3) (putL R0 C0 l0 i1 i2 a3 b3) _ (putL_len _ _ _ _ _ _ _ hn0) (putL_len _ _ _ _ _ _ _ hn0) Oh0.rd Ow0.rd).mono ?_; rintro e w42 ⟨rfl, b⟩
          rw [eqB_same]
          clear zZh0 kZh00 kZh01 kZh02 zZw0 kZw00 kZw01 kZw02
          replace X0 := X0.below b X0.lt
          replace X3 := X3.below b X3.lt
          replace Ow0 := Ow0.keep b
          replace Zw0 := Zw0.below b Zw0.lt
          replace XX0 := XX0.below b XX0.lt
          replace Og0 := Og0.keep b
          replace Zg0 := Zg0.below b Zg0.lt
          replace Oh0 := Oh0.keep b
          replace Zh0 := Zh0.below b Zh0.lt
          replace B := B.trans (b.mono B.size)
          have s43 : wc38.heap.size ≤ w42.heap.size := b.size
          clear b
          have zZg0 : gZg0 < w42.heap.size := Zg0.lt
          have kZg00 : w42.cell? ⟨gZg0, 0, none⟩ = some (.int .i64 (selI (okPut R0 C0 l0 i1 i2 a3 b3) R0)) := (Zg0.cell 0).trans rfl
          have kZg01 : w42.cell? ⟨gZg0, 1, none⟩ = some (.int .i64 (selI (okPut R0 C0 l0 i1 i2 a3 b3) C0)) := (Zg0.cell 1).trans rfl
          have kZg02 : w42.cell? ⟨gZg0, 2, none⟩ = some (.slice Ag0 (putL R0 C0 l0 i1 i2 a3 b3).length cg0) := (Zg0.cell 2).trans rfl
          go_wp2_with fail
          refine (heldBoard_any _ _ _ _ (putL R0 C0 l0 i1 i2 a3 b3).length _ _ (putL_len _ _ _ _ _ _ _ hn0) (by omega) (by omega) Og0).mono ?_; rintro e w44 ⟨rfl, b⟩
          clear zZg0 kZg00 kZg01 kZg02
          replace X0 := X0.below b X0.lt
          replace X3 := X3.below b X3.lt
          replace Ow0 := Ow0.keep b
          replace Zw0 := Zw0.below b Zw0.lt
          replace XX0 := XX0.below b XX0.lt
          replace Og0 := Og0.keep b
          replace Zg0 := Zg0.below b Zg0.lt
          replace Oh0 := Oh0.keep b
          replace Zh0 := Zh0.below b Zh0.lt
          replace B := B.trans (b.mono B.size)
          have s45 : w42.heap.size ≤ w44.heap.size := b.size
          clear b
          go_wp2
          go_returns
          exact ⟨rfl, B⟩
  · go_enter Try.func3, Try.ntmps3
    have B : Below w.heap.size w w := Below.refl _ _
    go_wp2_with fail
    have b : Below w.heap.size w (w.alloc (.cells #[.int .i64 R0, .int .i64 C0, .slice A0 l0.length cap0] 24)) := (Below.refl _ _).alloc (Nat.le_refl _) _
    have X0 : Whole (w.alloc (.cells #[.int .i64 R0, .int .i64 C0, .slice A0 l0.length cap0] 24)) w.heap.size 24 [.int .i64 R0, .int .i64 C0, .slice A0 l0.length cap0] := heap_alloc_new w _
    have HZ := Lib.hid (show (w.alloc (.cells #[.int .i64 R0, .int .i64 C0, .slice A0 l0.length cap0] 24)).heap.size = w.heap.size + 1 by rw [World.size_alloc])
    replace B := B.trans (b.mono B.size)
    have s2 : w.heap.size ≤ (w.alloc (.cells #[.int .i64 R0, .int .i64 C0, .slice A0 l0.length cap0] 24)).heap.size := b.size
    clear b
    have hiX0 := X0.lt
    generalize w.alloc (.cells #[.int .i64 R0, .int .i64 C0, .slice A0 l0.length cap0] 24) = v1 at *
    have b : Below v1.heap.size v1 (v1.alloc (.cells #[.int .i64 a3, .int .i64 b3] 26)) := (Below.refl _ _).alloc (Nat.le_refl _) _
    have X3 : Whole (v1.alloc (.cells #[.int .i64 a3, .int .i64 b3] 26)) (w.heap.size + 1) 26 [.int .i64 a3, .int .i64 b3] := by have h := heap_alloc_new v1 (.cells #[.int .i64 a3, .int .i64 b3] 26); rw [HZ.out] at h; exact h
    have HZ := Lib.hid (show (v1.alloc (.cells #[.int .i64 a3, .int .i64 b3] 26)).heap.size = w.heap.size + 2 by rw [World.size_alloc, HZ.out])
    replace X0 := X0.below b X0.lt
    replace B := B.trans (b.mono B.size)
    have s5 : v1.heap.size ≤ (v1.alloc (.cells #[.int .i64 a3, .int .i64 b3] 26)).heap.size := b.size
    clear b
    have hiX3 := X3.lt
    generalize v1.alloc (.cells #[.int .i64 a3, .int .i64 b3] 26) = v4 at *
    have zX0 : w.heap.size < v4.heap.size := X0.lt
    have kX00 : v4.cell? ⟨w.heap.size, 0, none⟩ = some (.int .i64 R0) := (X0.cell 0).trans rfl
    have kX01 : v4.cell? ⟨w.heap.size, 1, none⟩ = some (.int .i64 C0) := (X0.cell 1).trans rfl
    have kX02 : v4.cell? ⟨w.heap.size, 2, none⟩ = some (.slice A0 l0.length cap0) := (X0.cell 2).trans rfl
    go_wp2_with fail
    refine (szBoard_any _ _ _ _ _ _ _ hm0 (by omega) (by omega)).mono ?_; rintro e w7 ⟨rfl, b⟩
    clear zX0 kX00 kX01 kX02
    rw [if_pos (by omega)]
    replace X0 := X0.below b X0.lt
    replace X3 := X3.below b X3.lt
    replace B := B.trans (b.mono B.size)
    have s8 : v4.heap.size ≤ w7.heap.size := b.size
    clear b
    go_wp2
    go_returns
    exact ⟨rfl, B⟩
theorem PutCell_walk : Walk Try.prog 3 Try.f3 := by
  intro H enc W base args ds ps hA hval
  rw [Try.params3] at hA hval
  obtain ⟨v0, vs0, d0, ds0, p0, q0, hv0, hd0, hp0, h0, r0⟩ := trodAll_cons hA
  obtain ⟨v1, vs1, d1, ds1, p1, q1, hv1, hd1, hp1, h1, r1⟩ := trodAll_cons r0
  obtain ⟨v2, vs2, d2, ds2, p2, q2, hv2, hd2, hp2, h2, r2⟩ := trodAll_cons r1
  obtain ⟨v3, vs3, d3, ds3, p3, q3, hv3, hd3, hp3, h3, r3⟩ := trodAll_cons r2
  obtain ⟨e1, e2, e3⟩ := trodAll_nil r3
  have ha : args = #[v0, v1, v2, v3] := by
    apply Array.toList_inj.1
    rw [hv0, hv1, hv2, hv3, e1]
  subst ha
  obtain ⟨R0, C0, A0, cap0, l0, rfl, hm0, hr0, -, -⟩ := open_board (hval 0 24 v0 rfl rfl) h0
  obtain ⟨i1, rfl, rfl, rfl, wf1⟩ := open_int Try.underlying3 (hval 1 3 v1 rfl rfl) h1
  obtain ⟨i2, rfl, rfl, rfl, wf2⟩ := open_int Try.underlying3 (hval 2 3 v2 rfl rfl) h2
  obtain ⟨a3, b3, rfl, -, -⟩ := open_ints2 Try.underlying26 (by kernel_rfl) (by kernel_rfl) Try.underlying3 Try.underlying3 (hval 3 26 v3 rfl rfl) h3
  exact PutCell_walk0 R0 C0 A0 cap0 l0 i1 i2 a3 b3 W hm0 hr0 wf1 wf2
set_option maxRecDepth 100000 in
theorem PutCell_holds : Rows.FnExactPutCellSaid :=
  OpenClaim.holds_of_wide 3 Try.f3 rfl rfl rfl rfl rfl rfl rfl ⟨rfl, rfl, rfl, rfl, rfl⟩ rfl rfl rfl rfl rfl (by kernel_rfl) Try.func3 (by kernel_rfl)
    (of_decide_eq_true (by kernel_rfl)) (by unfold Func.isWrapper; first | (rw [if_pos (by decide +kernel)]; kernel_rfl) | (rw [if_neg (by decide +kernel)]; exact ⟨rfl, rfl⟩))
    (fun os started H enc _ => lifted (C := Try.checked) (s := Rows.fnExactPutCellSpec) started own (by kernel_rfl) Try.func3 ⟨#[], #[.agg #[.int .i64 0, .int .i64 0, .slice none 0 0], .int .i64 0, .int .i64 0, .agg #[.int .i64 0, .int .i64 0]], []⟩ 8 (by kernel_rfl) (by kernel_rfl) (by kernel_rfl) (by kernel_rfl) (by kernel_rfl)
      laidOut (by kernel_rfl) rfl rfl Try.underlying4 (fun ds h => by
        match ds, h with
        | [d0, d1, d2, d3], _ => exact ⟨rfl, rfl, rfl⟩) PutCell_walk)
end Go.Proofs.Ytdpgbgniejlilaa
