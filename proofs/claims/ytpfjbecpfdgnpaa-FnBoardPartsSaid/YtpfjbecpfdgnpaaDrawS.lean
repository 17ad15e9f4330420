/- The draws of two boards: stacked ones, ones beside each other. -/
import Derived.Deep.RegionHeld3
import Derived.Deep.DeepCutAuto
import Derived.Test.YtpfjbecpfdgnpaaDrawC
namespace Go.Proofs.Ytpfjbecpfdgnpaa
open Go.ChangeShapes Go.WideShapes Go.ChangeAt Go.RowKit Go.Joins Go.Deep
set_option linter.unusedSimpArgs false
set_option linter.unusedVariables false
set_option maxRecDepth 100000
set_option maxHeartbeats 4000000
theorem wrap_few (n : Int) (h1 : -100 ≤ n) (h2 : n ≤ 100) : IntKind.i64.wrap n = n := IntWalk.i64_in _ (by omega)
theorem l1Most_h (a b : Int) (w : World) : Calls Try.prog 77 #[.int .i64 a, .int .i64 b] w fun e w' => ∃ m : Int, e = .returned (.int .i64 m) ∧ Hid (m = (if b < a then a else b)) ∧ w = w' :=
  (l1Most_d a b w).mono fun e w' ⟨m, h1, h2, h3⟩ => ⟨m, h1, Lib.hid h2, h3⟩
theorem l1Least_h (a b : Int) (w : World) : Calls Try.prog 78 #[.int .i64 a, .int .i64 b] w fun e w' => ∃ m : Int, e = .returned (.int .i64 m) ∧ Hid (m = (if a < b then a else b)) ∧ w = w' :=
  (l1Least_d a b w).mono fun e w' ⟨m, h1, h2, h3⟩ => ⟨m, h1, Lib.hid h2, h3⟩
def zB : List Value := [.int .i64 0, .int .i64 0, .slice none 0 0]
/-- What stands while the second board is drawn. -/
def SInv (w wx : World) (gB : Nat) (R C : Int) (B : Option Addr) (k : Nat) (m : List (Int × Int)) (n : Nat) : Prop :=
  Cr wx (w.heap.size + 1 + 1) n ∧ Whole wx w.heap.size 25 zB ∧ Whole wx (w.heap.size + 1) 25 zB ∧ Whole wx gB 25 [.int .i64 R, .int .i64 C, .slice B m.length k] ∧ OwnAt wx B 27 (flat m) ∧ Below w.heap.size w wx
theorem SInv.step {w wx w' : World} {gB : Nat} {R C : Int} {B : Option Addr} {k n n' : Nat} {m : List (Int × Int)} (h : SInv w wx gB R C B k m n) (hg : wx.grownBy w' (some (w.heap.size + 1 + 1))) (hc : Cr w' (w.heap.size + 1 + 1) n') (hgB : w.heap.size + 1 + 1 < gB) (hB : ∀ a, B = some a → w.heap.size + 1 + 1 < a.block) : SInv w w' gB R C B k m n' := by
  obtain ⟨h1, h2, h3, h4, h5, h6⟩ := h
  exact ⟨hc, h2.grownC hg (by omega), h3.grownC hg (by omega), h4.grownC hg (by omega), h5.grownC hg (fun a ha => by have := hB a ha; omega), grown_old h6 hg (by omega)⟩
theorem Own.at_ {w : World} {A : Option Addr} {t : TypeId} {xs : List Value} (h : Own w A t xs) : OwnAt w A t xs := fun hx => by
  obtain ⟨g, rest, e, hw⟩ := h hx
  exact ⟨g, [], rest, e, hw⟩
theorem at_six {w : World} {A : Option Addr} {t : TypeId} {xs : List Value} {g : Nat} {u0 u1 u2 u3 u4 u5 : Value} (h : OwnAt w A t xs) (hn : ∀ a, A = some a → g + 1 < a.block) :
    OwnAt ((((((w.setCell ⟨g, 0, none⟩ u0).setCell ⟨g, 1, none⟩ u1).setCell ⟨g, 2, none⟩ u2).setCell ⟨g + 1, 0, none⟩ u3).setCell ⟨g + 1, 1, none⟩ u4).setCell ⟨g + 1, 2, none⟩ u5) A t xs :=
  have n0 : ∀ a, A = some a → g ≠ a.block := fun a ha => by have := hn a ha; omega
  have n1 : ∀ a, A = some a → g + 1 ≠ a.block := fun a ha => by have := hn a ha; omega
  (((((h.set_far ⟨g, 0, none⟩ u0 n0).set_far ⟨g, 1, none⟩ u1 n0).set_far ⟨g, 2, none⟩ u2 n0).set_far ⟨g + 1, 0, none⟩ u3 n1).set_far ⟨g + 1, 1, none⟩ u4 n1).set_far ⟨g + 1, 2, none⟩ u5 n1
theorem below_six {w v : World} {u0 u1 u2 u3 u4 u5 : Value} (h : Below w.heap.size w v) :
    Below w.heap.size w ((((((v.setCell ⟨w.heap.size, 0, none⟩ u0).setCell ⟨w.heap.size, 1, none⟩ u1).setCell ⟨w.heap.size, 2, none⟩ u2).setCell ⟨w.heap.size + 1, 0, none⟩ u3).setCell ⟨w.heap.size + 1, 1, none⟩ u4).setCell ⟨w.heap.size + 1, 2, none⟩ u5) :=
  (((((h.setCell (p := ⟨w.heap.size, 0, none⟩) (Nat.le_refl _) u0).setCell (p := ⟨w.heap.size, 1, none⟩) (Nat.le_refl _) u1).setCell (p := ⟨w.heap.size, 2, none⟩) (Nat.le_refl _) u2).setCell (p := ⟨w.heap.size + 1, 0, none⟩) (Nat.le_succ _) u3).setCell (p := ⟨w.heap.size + 1, 1, none⟩) (Nat.le_succ _) u4).setCell (p := ⟨w.heap.size + 1, 2, none⟩) (Nat.le_succ _) u5
/-- Two boards that a draw has handed out. -/
def TwoOut (w : World) (e : Ending) (w' : World) : Prop :=
  ∃ (R C : Int) (B : Option Addr) (k : Nat) (m : List (Int × Int)) (R' C' : Int) (B' : Option Addr) (k' : Nat) (m' : List (Int × Int)), e = .returned (.tuple #[.agg #[.int .i64 R, .int .i64 C, .slice B m.length k], .agg #[.int .i64 R', .int .i64 C', .slice B' m'.length k']]) ∧ BoardOut w w' R C B k m ∧ BoardOut w w' R' C' B' k' m' ∧ Below w.heap.size w w'
theorem DrawStackBoards_any (A : Option Addr) (cap : Nat) (l : List Int) (w : World) (h : Bytes w A l) :
    Calls Try.prog 17 #[.slice A l.length cap] w (TwoOut w) := by
  obtain ⟨v0, hv0, X0, X1, XC, B0, hz0⟩ := three_boxes w [.int .i64 0, .int .i64 0, .slice none 0 0] 25 [.int .i64 0, .int .i64 0, .slice none 0 0] 25 [.slice A l.length cap, .int .i64 0, .int .u64 0] 83
  have HV := Lib.hid hv0
  clear hv0
  have C0 := cur_new h B0 (by omega) XC
  go_enter Try.func17, Try.ntmps17
  go_wp2_with fail
  rewrite [show ((w.alloc (.cells ([.int .i64 0, .int .i64 0, .slice none 0 0] : List Value).toArray 25)).alloc (.cells ([.int .i64 0, .int .i64 0, .slice none 0 0] : List Value).toArray 25)).alloc (.cells ([.slice A l.length cap, .int .i64 0, .int .u64 0] : List Value).toArray 83) = v0 from HV.out]
  clear HV
  refine (anyBoard_any _ 0 _ C0 (by omega)).mono ?_; rintro e w1 ⟨R, C, B, k, m, rfl, hR, hC, h90, hk, ho, hn1, c1, g1⟩
  replace X0 := X0.grownC g1 (by omega)
  replace X1 := X1.grownC g1 (by omega)
  have B1 : Below w.heap.size w w1 := grown_old B0 g1 (by omega)
  have hBn : ∀ a, B = some a → w.heap.size + 1 + 1 < a.block := fun a ha => by have := hn1 a ha; omega
  have hp1 := c1.lt
  clear C0 XC g1 hn1 hz0
  obtain ⟨v1, hv1, XB, B2, hz1⟩ := one_box w1 [.int .i64 R, .int .i64 C, .slice B m.length k] 25
  have HV := Lib.hid hv1
  clear hv1
  have c2 : Cr v1 (w.heap.size + 1 + 1) 2200 := c1.keep (below_grown (row := none) B2) (by simp)
  have SI : SInv w v1 w1.heap.size R C B k m 2200 := ⟨c2, X0.new B2, X1.new B2, XB, ho.new B2, B1.trans (B2.mono B1.size)⟩
  clear c1 B2 c2 X0 X1 XB ho B1
  go_wp2_with fail
  rewrite [show w1.alloc (.cells ([.int .i64 R, .int .i64 C, .slice B m.length k] : List Value).toArray 25) = v1 from HV.out]
  clear HV
  generalize w1.heap.size = gB at *
  refine (pick_any _ 2200 5 _ SI.1 (by omega) (by omega) (by omega)).mono ?_; rintro e w2 ⟨x, rfl, x0, x1, c3, g3⟩
  replace SI := SI.step g3 c3 hp1 hBn
  clear c3 g3 hz1
  have m1 : IntKind.i64.wrap (1 + x) = 1 + x := IntWalk.i64_in _ (by omega)
  have EW := Lib.hid wrap_few
  go_wp2_with fail
  refine (one_any _ _ 6 _ SI.1 (by omega) (by omega) (by omega)).mono ?_; rintro e w3 ⟨bb, rfl, c4, g4⟩
  replace SI := SI.step g4 c4 hp1 hBn
  clear c4 g4
  go_upto_if 17 with (fail)
  go_cut [6] (fun z wx => ∃ rr : Int, z = .int .i64 rr ∧ (1 ≤ rr ∧ rr ≤ 12) ∧ SInv w wx gB R C B k m 2210)
  case first =>
    cases bb with
    | false =>
      go_wp2_with fail
      go_meet
      exact ⟨1 + x, rfl, by omega, SI.step (World.grownBy.refl _ _) (SI.1.mono (by omega)) hp1 hBn⟩
    | true =>
      have XB := SI.2.2.2.1
      have hgl := XB.lt
      (obtain ⟨b0, b1, b2⟩ := whole3 XB)
      go_wp2_with fail
      go_region_held3 (fun w' => w'.cell? ⟨gB, 0, none⟩ = some (.int .i64 R) ∧ w'.cell? ⟨gB, 1, none⟩ = some (.int .i64 C) ∧ w'.cell? ⟨gB, 2, none⟩ = some (.slice B m.length k))
        ((refine whole3 (t := 25) ?_; (first | exact XB4.new (by (repeat' (first | (with_reducible exact Below.refl _ _) | (with_reducible assumption) | (with_reducible refine Below.alloc ?_ ?_ _) | (with_reducible refine Below.setCell ?_ ?_ _) | (with_reducible refine Below.drew ?_) | (with_reducible refine below_drewN ?_ _) | (with_reducible refine Below.trans ?_ (Below.mono (by assumption) ?_)) | go_size)) : Below w4.heap.size w4 _) | exact XB.new (by (repeat' (first | (with_reducible exact Below.refl _ _) | (with_reducible assumption) | (with_reducible refine Below.alloc ?_ ?_ _) | (with_reducible refine Below.setCell ?_ ?_ _) | (with_reducible refine Below.drew ?_) | (with_reducible refine below_drewN ?_ _) | (with_reducible refine Below.trans ?_ (Below.mono (by assumption) ?_)) | go_size)) : Below w3.heap.size w3 _) | fail)))
        ((first | (go_at_call 75; (refine (pick_any (w.heap.size + 1 + 1) (2200 + 2 + 2) 2 _ ?_ (by omega) (by omega) (by omega)).mono ?_); (focus exact SI.1.keep (below_grown (row := none) (by (repeat' (first | (with_reducible exact Below.refl _ _) | (with_reducible assumption) | (with_reducible refine Below.alloc ?_ ?_ _) | (with_reducible refine Below.setCell ?_ ?_ _) | (with_reducible refine Below.drew ?_) | (with_reducible refine below_drewN ?_ _) | (with_reducible refine Below.trans ?_ (Below.mono (by assumption) ?_)) | go_size)) : Below w3.heap.size w3 _)) (by simp)); rintro e w4 ⟨y, rfl, y0, y1, c4, g4⟩; have G4 := (below_grown (row := some (w.heap.size + 1 + 1)) (by (repeat' (first | (with_reducible exact Below.refl _ _) | (with_reducible assumption) | (with_reducible refine Below.alloc ?_ ?_ _) | (with_reducible refine Below.setCell ?_ ?_ _) | (with_reducible refine Below.drew ?_) | (with_reducible refine below_drewN ?_ _) | (with_reducible refine Below.trans ?_ (Below.mono (by assumption) ?_)) | go_size)) : Below w3.heap.size w3 _)).trans g4; have XB4 := XB.grownC G4 (by omega); clear g4) | (go_at_call 77; refine (l1Most_h _ _ _).mono ?_; rintro e w5 ⟨mm, rfl, hm, rfl⟩) | fail))
      all_goals (go_wp2_with fail; go_meet)
      all_goals (have hm2 := hm.out; rw [EW.out (10 - R) (by omega) (by omega), EW.out (10 - R + y) (by omega) (by omega)] at hm2)
      all_goals (refine ⟨mm, rfl, ⟨by split at hm2 <;> omega, by split at hm2 <;> omega⟩, SI.step (G4.trans (below_grown (by (repeat' (first | (with_reducible exact Below.refl _ _) | (with_reducible assumption) | (with_reducible refine Below.alloc ?_ ?_ _) | (with_reducible refine Below.setCell ?_ ?_ _) | (with_reducible refine Below.drew ?_) | (with_reducible refine below_drewN ?_ _) | (with_reducible refine Below.trans ?_ (Below.mono (by assumption) ?_)) | go_size))))) ((c4.keep (below_grown (row := none) (by (repeat' (first | (with_reducible exact Below.refl _ _) | (with_reducible assumption) | (with_reducible refine Below.alloc ?_ ?_ _) | (with_reducible refine Below.setCell ?_ ?_ _) | (with_reducible refine Below.drew ?_) | (with_reducible refine below_drewN ?_ _) | (with_reducible refine Below.trans ?_ (Below.mono (by assumption) ?_)) | go_size)))) (by simp)).mono (by omega)) hp1 hBn⟩)
  case rest =>
    rename World => wc
    obtain ⟨rr, rfl, hrr, SI⟩ := hcut
    have XB := SI.2.2.2.1
    have hgl := XB.lt
    (obtain ⟨b0, b1, b2⟩ := whole3 XB)
    go_wp2_with fail
    refine (l1Least_h _ _ _).mono ?_; rintro e w3 ⟨c9, rfl, hc9, rfl⟩
    go_wp2_with fail
    refine (l1Most_h _ _ _).mono ?_; rintro e w4 ⟨cc, rfl, hcc, rfl⟩
    have hcc' : 1 ≤ cc ∧ cc ≤ 9 := by
      have h1 := hc9.out
      have h2 := hcc.out
      split at h1 <;> split at h2 <;> omega
    clear hc9 hcc b0 b1 b2 XB hgl
    go_wp2_with fail
    refine (one_any _ _ 12 _ SI.1 (by omega) (by omega) (by omega)).mono ?_; rintro e w5 ⟨bb, rfl, c4, g4⟩
    replace SI := SI.step g4 c4 hp1 hBn
    clear c4 g4
    go_upto_if 30 with (fail)
    go_cut [7] (fun z wx => ∃ cc : Int, z = .int .i64 cc ∧ (1 ≤ cc ∧ cc ≤ 9) ∧ SInv w wx gB R C B k m 2220)
    case first =>
      cases bb with
      | false =>
        go_wp2_with fail
        go_meet
        exact ⟨cc, rfl, hcc', SI.step (World.grownBy.refl _ _) (SI.1.mono (by omega)) hp1 hBn⟩
      | true =>
        go_wp2_with fail
        refine (pick_any _ _ 5 _ SI.1 (by omega) (by omega) (by omega)).mono ?_; rintro e w6 ⟨y, rfl, y0, y1, c6, g6⟩
        replace SI := SI.step g6 c6 hp1 hBn
        clear c6 g6
        have m3 : IntKind.i64.wrap (1 + y) = 1 + y := IntWalk.i64_in _ (by omega)
        go_wp2_with fail
        go_meet
        exact ⟨1 + y, rfl, by omega, SI.step (World.grownBy.refl _ _) (SI.1.mono (by omega)) hp1 hBn⟩
    case rest =>
      rename World => wd
      obtain ⟨c2, rfl, hc2, SI⟩ := hcut
      obtain ⟨cn, rfl⟩ : ∃ cn : Nat, c2 = (cn : Int) := ⟨c2.toNat, by omega⟩
      obtain ⟨SC, X0, X1, XB, ho, B1⟩ := SI
      (obtain ⟨b0, b1, b2⟩ := whole3 XB)
      have hgl := XB.lt
      have hne : w.heap.size ≠ gB := by omega
      have hne1 : w.heap.size + 1 ≠ gB := by omega
      have n01 : w.heap.size + 1 ≠ w.heap.size := by omega
      go_upto_region 9 with (fail)
      go_region_held3 (fun w' => w'.cell? ⟨gB, 0, none⟩ = some (.int .i64 R) ∧ w'.cell? ⟨gB, 1, none⟩ = some (.int .i64 C) ∧ w'.cell? ⟨gB, 2, none⟩ = some (.slice B m.length k))
        ((refine whole3 (t := 25) ?_; (repeat (with_reducible refine Whole.set_far ?_ _ _ (by first | exact hne | exact hne1))); (first | exact XB5.new (by (repeat' (first | (with_reducible exact Below.refl _ _) | (with_reducible assumption) | (with_reducible refine Below.alloc ?_ ?_ _) | (with_reducible refine Below.setCell ?_ ?_ _) | (with_reducible refine Below.drew ?_) | (with_reducible refine below_drewN ?_ _) | (with_reducible refine Below.trans ?_ (Below.mono (by assumption) ?_)) | go_size)) : Below w7.heap.size w7 _) | exact XB.new (by (repeat' (first | (with_reducible exact Below.refl _ _) | (with_reducible assumption) | (with_reducible refine Below.alloc ?_ ?_ _) | (with_reducible refine Below.setCell ?_ ?_ _) | (with_reducible refine Below.drew ?_) | (with_reducible refine below_drewN ?_ _) | (with_reducible refine Below.trans ?_ (Below.mono (by assumption) ?_)) | go_size)) : Below wd.heap.size wd _) | fail)))
        ((first | (go_at_call 78; refine (l1Least_h _ _ _).mono ?_; rintro e w6 ⟨mm, rfl, hm, rfl⟩; (have hm' : 1 ≤ mm ∧ mm ≤ 10 := (by have hm2 := hm.out; split at hm2 <;> omega)); (obtain ⟨rn, rfl⟩ : ∃ rn : Nat, mm = (rn : Int) := ⟨mm.toNat, by omega⟩)) | (go_at_call 79; (refine (boardOf_any (w.heap.size + 1 + 1) 2220 rn cn _ ?_ (by omega) (by omega) (by omega) (by omega) (by omega)).mono ?_); (focus exact SC.keep (below_grown (row := none) (by (repeat' (first | (with_reducible exact Below.refl _ _) | (with_reducible assumption) | (with_reducible refine Below.alloc ?_ ?_ _) | (with_reducible refine Below.setCell ?_ ?_ _) | (with_reducible refine Below.drew ?_) | (with_reducible refine below_drewN ?_ _) | (with_reducible refine Below.trans ?_ (Below.mono (by assumption) ?_)) | go_size)) : Below wd.heap.size wd _)) (by simp)); rintro e w7 ⟨B', k', m', rfl, hg', hk', ho', hn', c7, g7⟩; have G7 := (below_grown (row := some (w.heap.size + 1 + 1)) (by (repeat' (first | (with_reducible exact Below.refl _ _) | (with_reducible assumption) | (with_reducible refine Below.alloc ?_ ?_ _) | (with_reducible refine Below.setCell ?_ ?_ _) | (with_reducible refine Below.drew ?_) | (with_reducible refine below_drewN ?_ _) | (with_reducible refine Below.trans ?_ (Below.mono (by assumption) ?_)) | go_size)) : Below wd.heap.size wd _)).trans g7; have XB5 := XB.grownC G7 (by omega); have X05 := X0.grownC G7 (by omega); have X15 := X1.grownC G7 (by omega); have s7 : wd.heap.size ≤ w7.heap.size := G7.size; clear g7; have f0 := X05.frozen 0; have f1 := X05.frozen 1; have f2 := X05.frozen 2; have f3 := X15.frozen 0; have f4 := X15.frozen 1; have f5 := X15.frozen 2; (obtain ⟨q0, q1, q2⟩ := whole3 (x := .int .i64 0) (y := .int .i64 0) (z := .slice none 0 0) X05); (obtain ⟨q3, q4, q5⟩ := whole3 (x := .int .i64 0) (y := .int .i64 0) (z := .slice none 0 0) X15)) | fail))
      have HG := Lib.hid hg'
      have HN := Lib.hid hn'
      have hx' : ∀ a, B' = some a → w.heap.size + 1 < a.block := fun a ha => by have h1 : wd.heap.size ≤ a.block := hn' a ha; omega
      have h90' := (goodB_parts hg').2.1
      have hl7 := ho.grownC G7 (fun a ha => by have := hBn a ha; omega)
      have hl8 := ho'.at_
      have B7 := grown_old B1 G7 (by omega)
      go_wp2
      refine bodyPost_ret (v := .tuple #[.agg #[.int .i64 R, .int .i64 C, .slice B m.length k], .agg #[.int .i64 (rn : Int), .int .i64 (cn : Int), .slice B' m'.length k']]) ?_ rfl ?_; (focus (simp [results, Try.results17, go_sem, *]; done))
      exact ⟨R, C, B, k, m, rn, cn, B', k', m', rfl, ⟨hR, hC, h90, hk, at_six hl7 (fun a ha => by have := hBn a ha; omega), fun a ha => by have := hBn a ha; omega⟩,
        ⟨⟨by omega, by omega⟩, ⟨by omega, by omega⟩, h90', hk', at_six hl8 hx', fun a ha => by have := hx' a ha; omega⟩, below_six B7⟩
theorem DrawBesideBoards_any (A : Option Addr) (cap : Nat) (l : List Int) (w : World) (h : Bytes w A l) :
    Calls Try.prog 20 #[.slice A l.length cap] w (TwoOut w) := by
  obtain ⟨v0, hv0, X0, X1, XC, B0, hz0⟩ := three_boxes w [.int .i64 0, .int .i64 0, .slice none 0 0] 25 [.int .i64 0, .int .i64 0, .slice none 0 0] 25 [.slice A l.length cap, .int .i64 0, .int .u64 0] 83
  have HV := Lib.hid hv0
  clear hv0
  have C0 := cur_new h B0 (by omega) XC
  go_enter Try.func20, Try.ntmps20
  go_wp2_with fail
  rewrite [show ((w.alloc (.cells ([.int .i64 0, .int .i64 0, .slice none 0 0] : List Value).toArray 25)).alloc (.cells ([.int .i64 0, .int .i64 0, .slice none 0 0] : List Value).toArray 25)).alloc (.cells ([.slice A l.length cap, .int .i64 0, .int .u64 0] : List Value).toArray 83) = v0 from HV.out]
  clear HV
  refine (anyBoard_any _ 0 _ C0 (by omega)).mono ?_; rintro e w1 ⟨R, C, B, k, m, rfl, hR, hC, h90, hk, ho, hn1, c1, g1⟩
  replace X0 := X0.grownC g1 (by omega)
  replace X1 := X1.grownC g1 (by omega)
  have B1 : Below w.heap.size w w1 := grown_old B0 g1 (by omega)
  have hBn : ∀ a, B = some a → w.heap.size + 1 + 1 < a.block := fun a ha => by have := hn1 a ha; omega
  have hp1 := c1.lt
  clear C0 XC g1 hn1 hz0
  obtain ⟨v1, hv1, XB, B2, hz1⟩ := one_box w1 [.int .i64 R, .int .i64 C, .slice B m.length k] 25
  have HV := Lib.hid hv1
  clear hv1
  have c2 : Cr v1 (w.heap.size + 1 + 1) 2200 := c1.keep (below_grown (row := none) B2) (by simp)
  have SI : SInv w v1 w1.heap.size R C B k m 2200 := ⟨c2, X0.new B2, X1.new B2, XB, ho.new B2, B1.trans (B2.mono B1.size)⟩
  clear c1 B2 c2 X0 X1 XB ho B1
  go_wp2_with fail
  rewrite [show w1.alloc (.cells ([.int .i64 R, .int .i64 C, .slice B m.length k] : List Value).toArray 25) = v1 from HV.out]
  clear HV
  generalize w1.heap.size = gB at *
  refine (pick_any _ 2200 5 _ SI.1 (by omega) (by omega) (by omega)).mono ?_; rintro e w2 ⟨x, rfl, x0, x1, c3, g3⟩
  replace SI := SI.step g3 c3 hp1 hBn
  clear c3 g3 hz1
  have m1 : IntKind.i64.wrap (1 + x) = 1 + x := IntWalk.i64_in _ (by omega)
  have EW := Lib.hid wrap_few
  go_wp2_with fail
  refine (one_any _ _ 6 _ SI.1 (by omega) (by omega) (by omega)).mono ?_; rintro e w3 ⟨bb, rfl, c4, g4⟩
  replace SI := SI.step g4 c4 hp1 hBn
  clear c4 g4
  go_upto_if 17 with (fail)
  go_cut [6] (fun z wx => ∃ rr : Int, z = .int .i64 rr ∧ (1 ≤ rr ∧ rr ≤ 12) ∧ SInv w wx gB R C B k m 2210)
  case first =>
    cases bb with
    | false =>
      go_wp2_with fail
      go_meet
      exact ⟨1 + x, rfl, by omega, SI.step (World.grownBy.refl _ _) (SI.1.mono (by omega)) hp1 hBn⟩
    | true =>
      have XB := SI.2.2.2.1
      have hgl := XB.lt
      (obtain ⟨b0, b1, b2⟩ := whole3 XB)
      go_wp2_with fail
      go_region_held3 (fun w' => w'.cell? ⟨gB, 0, none⟩ = some (.int .i64 R) ∧ w'.cell? ⟨gB, 1, none⟩ = some (.int .i64 C) ∧ w'.cell? ⟨gB, 2, none⟩ = some (.slice B m.length k))
        ((refine whole3 (t := 25) ?_; (first | exact XB4.new (by (repeat' (first | (with_reducible exact Below.refl _ _) | (with_reducible assumption) | (with_reducible refine Below.alloc ?_ ?_ _) | (with_reducible refine Below.setCell ?_ ?_ _) | (with_reducible refine Below.drew ?_) | (with_reducible refine below_drewN ?_ _) | (with_reducible refine Below.trans ?_ (Below.mono (by assumption) ?_)) | go_size)) : Below w4.heap.size w4 _) | exact XB.new (by (repeat' (first | (with_reducible exact Below.refl _ _) | (with_reducible assumption) | (with_reducible refine Below.alloc ?_ ?_ _) | (with_reducible refine Below.setCell ?_ ?_ _) | (with_reducible refine Below.drew ?_) | (with_reducible refine below_drewN ?_ _) | (with_reducible refine Below.trans ?_ (Below.mono (by assumption) ?_)) | go_size)) : Below w3.heap.size w3 _) | fail)))
        ((first | (go_at_call 75; (refine (pick_any (w.heap.size + 1 + 1) (2200 + 2 + 2) 2 _ ?_ (by omega) (by omega) (by omega)).mono ?_); (focus exact SI.1.keep (below_grown (row := none) (by (repeat' (first | (with_reducible exact Below.refl _ _) | (with_reducible assumption) | (with_reducible refine Below.alloc ?_ ?_ _) | (with_reducible refine Below.setCell ?_ ?_ _) | (with_reducible refine Below.drew ?_) | (with_reducible refine below_drewN ?_ _) | (with_reducible refine Below.trans ?_ (Below.mono (by assumption) ?_)) | go_size)) : Below w3.heap.size w3 _)) (by simp)); rintro e w4 ⟨y, rfl, y0, y1, c4, g4⟩; have G4 := (below_grown (row := some (w.heap.size + 1 + 1)) (by (repeat' (first | (with_reducible exact Below.refl _ _) | (with_reducible assumption) | (with_reducible refine Below.alloc ?_ ?_ _) | (with_reducible refine Below.setCell ?_ ?_ _) | (with_reducible refine Below.drew ?_) | (with_reducible refine below_drewN ?_ _) | (with_reducible refine Below.trans ?_ (Below.mono (by assumption) ?_)) | go_size)) : Below w3.heap.size w3 _)).trans g4; have XB4 := XB.grownC G4 (by omega); clear g4) | (go_at_call 77; refine (l1Most_h _ _ _).mono ?_; rintro e w5 ⟨mm, rfl, hm, rfl⟩) | fail))
      all_goals (go_wp2_with fail; go_meet)
      all_goals (have hm2 := hm.out; rw [EW.out (9 - C) (by omega) (by omega), EW.out (9 - C + y) (by omega) (by omega)] at hm2)
      all_goals (refine ⟨mm, rfl, ⟨by split at hm2 <;> omega, by split at hm2 <;> omega⟩, SI.step (G4.trans (below_grown (by (repeat' (first | (with_reducible exact Below.refl _ _) | (with_reducible assumption) | (with_reducible refine Below.alloc ?_ ?_ _) | (with_reducible refine Below.setCell ?_ ?_ _) | (with_reducible refine Below.drew ?_) | (with_reducible refine below_drewN ?_ _) | (with_reducible refine Below.trans ?_ (Below.mono (by assumption) ?_)) | go_size))))) ((c4.keep (below_grown (row := none) (by (repeat' (first | (with_reducible exact Below.refl _ _) | (with_reducible assumption) | (with_reducible refine Below.alloc ?_ ?_ _) | (with_reducible refine Below.setCell ?_ ?_ _) | (with_reducible refine Below.drew ?_) | (with_reducible refine below_drewN ?_ _) | (with_reducible refine Below.trans ?_ (Below.mono (by assumption) ?_)) | go_size)))) (by simp)).mono (by omega)) hp1 hBn⟩)
  case rest =>
    rename World => wc
    obtain ⟨rr, rfl, hrr, SI⟩ := hcut
    have XB := SI.2.2.2.1
    have hgl := XB.lt
    (obtain ⟨b0, b1, b2⟩ := whole3 XB)
    go_wp2_with fail
    refine (l1Least_h _ _ _).mono ?_; rintro e w3 ⟨c9, rfl, hc9, rfl⟩
    go_wp2_with fail
    refine (l1Most_h _ _ _).mono ?_; rintro e w4 ⟨cc, rfl, hcc, rfl⟩
    have hcc' : 1 ≤ cc ∧ cc ≤ 10 := by
      have h1 := hc9.out
      have h2 := hcc.out
      split at h1 <;> split at h2 <;> omega
    clear hc9 hcc b0 b1 b2 XB hgl
    go_wp2_with fail
    refine (one_any _ _ 12 _ SI.1 (by omega) (by omega) (by omega)).mono ?_; rintro e w5 ⟨bb, rfl, c4, g4⟩
    replace SI := SI.step g4 c4 hp1 hBn
    clear c4 g4
    go_upto_if 30 with (fail)
    go_cut [7] (fun z wx => ∃ cc : Int, z = .int .i64 cc ∧ (1 ≤ cc ∧ cc ≤ 10) ∧ SInv w wx gB R C B k m 2220)
    case first =>
      cases bb with
      | false =>
        go_wp2_with fail
        go_meet
        exact ⟨cc, rfl, hcc', SI.step (World.grownBy.refl _ _) (SI.1.mono (by omega)) hp1 hBn⟩
      | true =>
        go_wp2_with fail
        refine (pick_any _ _ 5 _ SI.1 (by omega) (by omega) (by omega)).mono ?_; rintro e w6 ⟨y, rfl, y0, y1, c6, g6⟩
        replace SI := SI.step g6 c6 hp1 hBn
        clear c6 g6
        have m3 : IntKind.i64.wrap (1 + y) = 1 + y := IntWalk.i64_in _ (by omega)
        go_wp2_with fail
        go_meet
        exact ⟨1 + y, rfl, by omega, SI.step (World.grownBy.refl _ _) (SI.1.mono (by omega)) hp1 hBn⟩
    case rest =>
      rename World => wd
      obtain ⟨c2, rfl, hc2, SI⟩ := hcut
      obtain ⟨cn, rfl⟩ : ∃ cn : Nat, c2 = (cn : Int) := ⟨c2.toNat, by omega⟩
      obtain ⟨SC, X0, X1, XB, ho, B1⟩ := SI
      (obtain ⟨b0, b1, b2⟩ := whole3 XB)
      have hgl := XB.lt
      have hne : w.heap.size ≠ gB := by omega
      have hne1 : w.heap.size + 1 ≠ gB := by omega
      have n01 : w.heap.size + 1 ≠ w.heap.size := by omega
      go_upto_region 9 with (fail)
      go_region_held3 (fun w' => w'.cell? ⟨gB, 0, none⟩ = some (.int .i64 R) ∧ w'.cell? ⟨gB, 1, none⟩ = some (.int .i64 C) ∧ w'.cell? ⟨gB, 2, none⟩ = some (.slice B m.length k))
        ((refine whole3 (t := 25) ?_; (repeat (with_reducible refine Whole.set_far ?_ _ _ (by first | exact hne | exact hne1))); (first | exact XB5.new (by (repeat' (first | (with_reducible exact Below.refl _ _) | (with_reducible assumption) | (with_reducible refine Below.alloc ?_ ?_ _) | (with_reducible refine Below.setCell ?_ ?_ _) | (with_reducible refine Below.drew ?_) | (with_reducible refine below_drewN ?_ _) | (with_reducible refine Below.trans ?_ (Below.mono (by assumption) ?_)) | go_size)) : Below w7.heap.size w7 _) | exact XB.new (by (repeat' (first | (with_reducible exact Below.refl _ _) | (with_reducible assumption) | (with_reducible refine Below.alloc ?_ ?_ _) | (with_reducible refine Below.setCell ?_ ?_ _) | (with_reducible refine Below.drew ?_) | (with_reducible refine below_drewN ?_ _) | (with_reducible refine Below.trans ?_ (Below.mono (by assumption) ?_)) | go_size)) : Below wd.heap.size wd _) | fail)))
        ((first | (go_at_call 78; refine (l1Least_h _ _ _).mono ?_; rintro e w6 ⟨mm, rfl, hm, rfl⟩; (have hm' : 1 ≤ mm ∧ mm ≤ 9 := (by have hm2 := hm.out; split at hm2 <;> omega)); (obtain ⟨rn, rfl⟩ : ∃ rn : Nat, mm = (rn : Int) := ⟨mm.toNat, by omega⟩)) | (go_at_call 79; (refine (boardOf_any (w.heap.size + 1 + 1) 2220 cn rn _ ?_ (by omega) (by omega) (by omega) (by omega) (by omega)).mono ?_); (focus exact SC.keep (below_grown (row := none) (by (repeat' (first | (with_reducible exact Below.refl _ _) | (with_reducible assumption) | (with_reducible refine Below.alloc ?_ ?_ _) | (with_reducible refine Below.setCell ?_ ?_ _) | (with_reducible refine Below.drew ?_) | (with_reducible refine below_drewN ?_ _) | (with_reducible refine Below.trans ?_ (Below.mono (by assumption) ?_)) | go_size)) : Below wd.heap.size wd _)) (by simp)); rintro e w7 ⟨B', k', m', rfl, hg', hk', ho', hn', c7, g7⟩; have G7 := (below_grown (row := some (w.heap.size + 1 + 1)) (by (repeat' (first | (with_reducible exact Below.refl _ _) | (with_reducible assumption) | (with_reducible refine Below.alloc ?_ ?_ _) | (with_reducible refine Below.setCell ?_ ?_ _) | (with_reducible refine Below.drew ?_) | (with_reducible refine below_drewN ?_ _) | (with_reducible refine Below.trans ?_ (Below.mono (by assumption) ?_)) | go_size)) : Below wd.heap.size wd _)).trans g7; have XB5 := XB.grownC G7 (by omega); have X05 := X0.grownC G7 (by omega); have X15 := X1.grownC G7 (by omega); have s7 : wd.heap.size ≤ w7.heap.size := G7.size; clear g7; have f0 := X05.frozen 0; have f1 := X05.frozen 1; have f2 := X05.frozen 2; have f3 := X15.frozen 0; have f4 := X15.frozen 1; have f5 := X15.frozen 2; (obtain ⟨q0, q1, q2⟩ := whole3 (x := .int .i64 0) (y := .int .i64 0) (z := .slice none 0 0) X05); (obtain ⟨q3, q4, q5⟩ := whole3 (x := .int .i64 0) (y := .int .i64 0) (z := .slice none 0 0) X15)) | fail))
      have HG := Lib.hid hg'
      have HN := Lib.hid hn'
      have hx' : ∀ a, B' = some a → w.heap.size + 1 < a.block := fun a ha => by have h1 : wd.heap.size ≤ a.block := hn' a ha; omega
      have h90' := (goodB_parts hg').2.1
      have hl7 := ho.grownC G7 (fun a ha => by have := hBn a ha; omega)
      have hl8 := ho'.at_
      have B7 := grown_old B1 G7 (by omega)
      go_wp2
      refine bodyPost_ret (v := .tuple #[.agg #[.int .i64 R, .int .i64 C, .slice B m.length k], .agg #[.int .i64 (cn : Int), .int .i64 (rn : Int), .slice B' m'.length k']]) ?_ rfl ?_; (focus (simp [results, Try.results20, go_sem, *]; done))
      exact ⟨R, C, B, k, m, cn, rn, B', k', m', rfl, ⟨hR, hC, h90, hk, at_six hl7 (fun a ha => by have := hBn a ha; omega), fun a ha => by have := hBn a ha; omega⟩,
        ⟨⟨by omega, by omega⟩, ⟨by omega, by omega⟩, h90', hk', at_six hl8 hx', fun a ha => by have := hx' a ha; omega⟩, below_six B7⟩
end Go.Proofs.Ytpfjbecpfdgnpaa
