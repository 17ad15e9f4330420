/- BoardText, program and model. -/
import Derived.Test.YtdeemhmllfoakaaText
import Derived.Test.YtdeemhmllfoakaaBuilder2
import Derived.Test.YtdeemhmllfoakaaRowOf
namespace Go.Proofs.Ytdeemhmllfoakaa
open Go.ChangeShapes Go.WideShapes Go.ChangeAt Go.RowKit Go.Joins Go.Deep
set_option linter.unusedSimpArgs false
set_option linter.unusedVariables false
set_option maxRecDepth 100000
set_option maxHeartbeats 1000000
def rowsText (C : Int) (l : List (Int × Int)) (k : Nat) : List UInt8 := (List.range k).flatMap fun i => textOf (rowL C l i) ++ [10]
def boardText (R C : Int) (l : List (Int × Int)) : List UInt8 := if goodB R C l then rowsText C l R.toNat else []
theorem rowsText_succ (C : Int) (l : List (Int × Int)) (k : Nat) : rowsText C l (k + 1) = rowsText C l k ++ (textOf (rowL C l k) ++ [10]) := by
  unfold rowsText
  rw [List.range_succ, List.flatMap_append]
  simp
theorem rowsText_le {R C : Int} {l : List (Int × Int)} (hg : goodB R C l = true) {k : Nat} (hk : (k : Int) ≤ R) : (rowsText C l k).length ≤ 10 * k := by
  induction k with
  | zero => exact Nat.le_refl 0
  | succ k ih =>
    have hk' : (k : Int) < R := by omega
    have h1 := ih (by omega)
    have h2 := rowL_len hg hk'
    have h3 := row_facts hg hk'
    rw [rowsText_succ, List.length_append, List.length_append]
    have h4 : (textOf (rowL C l k)).length = (rowL C l k).length := by simp [textOf]
    rw [h4, h2]
    simp only [List.length_singleton]
    omega
theorem bytes_app (a b : List UInt8) : (⟨a.toArray⟩ : ByteArray) ++ (⟨b.toArray⟩ : ByteArray) = ⟨(a ++ b).toArray⟩ := by
  apply ByteArray.ext
  simp
theorem spec_boText (R C : Int) (b o cap : Nat) (l : List (Int × Int)) (w : World) (hg : goodB R C l = true) (hr : Rd w w.heap.size (some ⟨b, o, none⟩) (flat l)) (hcap : l.length ≤ cap) :
    Calls Try.prog 78 #[.agg #[.int .i64 R, .int .i64 C, .slice (some ⟨b, o, none⟩) l.length cap]] w fun e w' => e = .returned (.string ⟨(rowsText C l R.toNat).toArray⟩) ∧ Below w.heap.size w w' := by
  obtain ⟨s1, s2, s3, s4⟩ := sizeB_iff.1 (goodB_iff.1 hg).1
  have HG := Lib.hid hg
  clear hg
  go_enter Try.func78, Try.ntmps78
  go_wp2
  go_loopw [3, 4] (fun t i wr => ∃ k : Nat, (k : Int) ≤ R ∧ i = .int .i64 k ∧ t = .string ⟨(rowsText C l k).toArray⟩ ∧ Whole wr w.heap.size 29 [.int .i64 R, .int .i64 C, .slice (some ⟨b, o, none⟩) l.length cap] ∧ Below w.heap.size w wr) (fun _ i _ => R.toNat - (intOf i).toNat)
  case atStart => exact ⟨0, by omega, rfl, rfl, heap_alloc_new w _, by (repeat' (first | (with_reducible exact Below.refl _ _) | (with_reducible assumption) | (with_reducible refine Below.alloc ?_ ?_ _) | (with_reducible refine Below.setCell ?_ ?_ _) | (with_reducible refine Below.drew ?_) | (with_reducible refine below_drewN ?_ _) | (with_reducible refine Below.trans ?_ (Below.mono (by assumption) ?_)) | (with_reducible exact Nat.le_refl _) | (simp; done) | omega | (simp at *; omega)))⟩
  case round =>
    obtain ⟨k, hk, rfl, rfl, hw, hb⟩ := hrel
    have k0 : wr.cell? ⟨w.heap.size, 0, none⟩ = some (.int .i64 R) := (hw.cell 0).trans rfl
    by_cases hlt : (k : Int) < R
    · have k1 : wr.cell? ⟨w.heap.size, 1, none⟩ = some (.int .i64 C) := (hw.cell 1).trans rfl
      have k2 : wr.cell? ⟨w.heap.size, 2, none⟩ = some (.slice (some ⟨b, o, none⟩) l.length cap) := (hw.cell 2).trans rfl
      have HS := Lib.hid (rowsText_succ C l k)
      have hle := rowsText_le HG.out hk
      have hle2 : (textOf (rowL C l k)).length = (rowL C l k).length := by simp [textOf]
      have hle3 : (rowL C l k).length ≤ 9 := by rw [rowL_len HG.out hlt]; exact (row_facts HG.out hlt).2.2.2.2.1
      have hgr := Lib.hid (rowL_good HG.out hlt)
      have hs := hb.size
      generalize hTX : rowsText C l k = tx at *
      have HT := Lib.hid hTX
      clear hTX
      go_wp2_with fail
      refine (spec_boRow _ _ _ _ _ l k _ HG.out hlt hcap).mono ?_; rintro e w1 ⟨rfl, b1⟩
      have B1 := hb.trans (b1.mono hs)
      have hw1 := hw.below b1 hw.lt
      clear k0 k1 k2
      go_wp2_with fail
      refine (spec_paText _ _ (rowL C l k) _ hgr.out (((rowL_rd HG.out hlt hr).below B1).mono B1.size)).mono ?_; rintro e w2 ⟨rfl, b2⟩
      have B2 := B1.trans (b2.mono B1.size)
      have hw2 := hw1.below b2 hw1.lt
      generalize textOf (rowL C l k) = ty at *
      go_wp2
      go_roundw
      case rel => exact ⟨k + 1, by omega, by go_num, by rw [HS.out, ← bytes_app, ← bytes_app], hw2, B2⟩
      case measure => simp [intOf]; omega
    · obtain rfl : R = (k : Int) := by omega
      go_wp2
      go_returns
      exact ⟨rfl, hb⟩
theorem spec_BoardText (R C : Int) (A : Option Addr) (cap : Nat) (l : List (Int × Int)) (w : World) (hn : l.length ≤ 1048576) (hr : Rd w w.heap.size A (flat l)) (hcap : l.length ≤ cap) :
    Calls Try.prog 45 #[.agg #[.int .i64 R, .int .i64 C, .slice A l.length cap]] w fun e w' => e = .returned (.tuple #[.string ⟨(boardText R C l).toArray⟩, .bool (goodB R C l)]) ∧ Below w.heap.size w w' := by
  unfold boardText
  rcases Bool.eq_false_or_eq_true (goodB R C l) with hg | hg
  · have HG := Lib.hid hg
    obtain ⟨_, hl90, hlp⟩ := goodB_parts hg
    obtain ⟨b, o, rfl, hbl, hc⟩ := hr (by rw [flat_length]; omega)
    have hr' : Rd w w.heap.size (some ⟨b, o, none⟩) (flat l) := fun _ => ⟨b, o, rfl, hbl, hc⟩
    rw [hg]
    clear hg hr hc
    go_enter Try.func45, Try.ntmps45
    go_wp2_with fail
    refine (spec_boGood _ _ _ _ l _ hn ((hr'.below (by (repeat' (first | (with_reducible exact Below.refl _ _) | (with_reducible assumption) | (with_reducible refine Below.alloc ?_ ?_ _) | (with_reducible refine Below.setCell ?_ ?_ _) | (with_reducible refine Below.drew ?_) | (with_reducible refine below_drewN ?_ _) | (with_reducible refine Below.trans ?_ (Below.mono (by assumption) ?_)) | (with_reducible exact Nat.le_refl _) | (simp; done) | omega | (simp at *; omega))) : Below w.heap.size w _)).mono (by go_size))).mono ?_; rintro e w1 ⟨rfl, b1⟩
    rw [HG.out]
    obtain ⟨c1, f1⟩ := bcell b1
    have z1 : w.heap.size < w1.heap.size := by have := b1.size; simp at this; omega
    have B1 : Below w.heap.size w w1 := by (repeat' (first | (with_reducible exact Below.refl _ _) | (with_reducible assumption) | (with_reducible refine Below.alloc ?_ ?_ _) | (with_reducible refine Below.setCell ?_ ?_ _) | (with_reducible refine Below.drew ?_) | (with_reducible refine below_drewN ?_ _) | (with_reducible refine Below.trans ?_ (Below.mono (by assumption) ?_)) | (with_reducible exact Nat.le_refl _) | (simp; done) | omega | (simp at *; omega)))
    go_wp2_with fail
    refine (spec_boText _ _ _ _ _ l _ HG.out ((hr'.below B1).mono B1.size) hcap).mono ?_; rintro e w2 ⟨rfl, b2⟩
    go_wp2
    go_returns
    exact ⟨rfl, B1.trans (b2.mono B1.size)⟩
  · have HG := Lib.hid hg
    rw [hg]
    clear hg
    go_enter Try.func45, Try.ntmps45
    go_wp2_with fail
    refine (spec_boGood _ _ _ _ l _ hn ((hr.below (by (repeat' (first | (with_reducible exact Below.refl _ _) | (with_reducible assumption) | (with_reducible refine Below.alloc ?_ ?_ _) | (with_reducible refine Below.setCell ?_ ?_ _) | (with_reducible refine Below.drew ?_) | (with_reducible refine below_drewN ?_ _) | (with_reducible refine Below.trans ?_ (Below.mono (by assumption) ?_)) | (with_reducible exact Nat.le_refl _) | (simp; done) | omega | (simp at *; omega))) : Below w.heap.size w _)).mono (by go_size))).mono ?_; rintro e w1 ⟨rfl, b1⟩
    rw [HG.out]
    have B1 : Below w.heap.size w w1 := by (repeat' (first | (with_reducible exact Below.refl _ _) | (with_reducible assumption) | (with_reducible refine Below.alloc ?_ ?_ _) | (with_reducible refine Below.setCell ?_ ?_ _) | (with_reducible refine Below.drew ?_) | (with_reducible refine below_drewN ?_ _) | (with_reducible refine Below.trans ?_ (Below.mono (by assumption) ?_)) | (with_reducible exact Nat.le_refl _) | (simp; done) | omega | (simp at *; omega)))
    go_wp2
    go_returns
    exact ⟨rfl, B1⟩
theorem impl_BoardText (R C : Int) (A : Option Addr) (cap : Nat) (l : List (Int × Int)) (w : World) (hn : l.length ≤ 1048576) (hr : Rd w w.heap.size A (flat l)) (hcap : l.length ≤ cap) :
    Calls Try.prog 46 #[.agg #[.int .i64 R, .int .i64 C, .slice A l.length cap]] w fun e w' => e = .returned (.tuple #[.string ⟨(boardText R C l).toArray⟩, .bool (goodB R C l)]) ∧ Below w.heap.size w w' := by
  unfold boardText
  rcases Bool.eq_false_or_eq_true (goodB R C l) with hg | hg
  · have HG := Lib.hid hg
    obtain ⟨s1, s2, s3, s4⟩ := sizeB_iff.1 (goodB_iff.1 hg).1
    obtain ⟨_, hl90, hlp⟩ := goodB_parts hg
    obtain ⟨b, o, rfl, hbl, hc⟩ := hr (by rw [flat_length]; omega)
    have hr' : Rd w w.heap.size (some ⟨b, o, none⟩) (flat l) := fun _ => ⟨b, o, rfl, hbl, hc⟩
    rw [hg]
    clear hg hr hc
    go_enter Try.func46, Try.ntmps46
    go_wp2_with fail
    have X0 : Whole (w.alloc (.cells #[.int .i64 R, .int .i64 C, .slice (some ⟨b, o, none⟩) l.length cap] 29)) w.heap.size 29 [.int .i64 R, .int .i64 C, .slice (some ⟨b, o, none⟩) l.length cap] := heap_alloc_new w _
    have B0 : Below w.heap.size w (w.alloc (.cells #[.int .i64 R, .int .i64 C, .slice (some ⟨b, o, none⟩) l.length cap] 29)) := (Below.refl _ _).alloc (Nat.le_refl _) _
    generalize w.alloc (.cells #[.int .i64 R, .int .i64 C, .slice (some ⟨b, o, none⟩) l.length cap] 29) = v0 at *
    refine (impl_IsBoard _ _ _ _ l _ hn ((hr'.below B0).mono B0.size)).mono ?_; rintro e w1 ⟨rfl, b1⟩
    rw [HG.out]
    have X1 := X0.below b1 X0.lt
    have B1 := B0.trans (b1.mono B0.size)
    have hs1 := B1.size
    have k0 : w1.cell? ⟨w.heap.size, 0, none⟩ = some (.int .i64 R) := (X1.cell 0).trans rfl
    have hx1 := X1.lt
    clear b1 X0 B0
    go_wp2
    clear k0
    go_loopw [13] (fun i wr => ∃ k : Nat, (k : Int) ≤ R ∧ i = .int .i64 k ∧ Bld w1.heap.size w1.heap.size (rowsText C l k) wr ∧ Whole wr w.heap.size 29 [.int .i64 R, .int .i64 C, .slice (some ⟨b, o, none⟩) l.length cap] ∧ Below w1.heap.size w1 wr) (fun i _ => R.toNat - (intOf i).toNat)
    case atStart =>
      refine ⟨0, by omega, rfl, ?_, X1.alloc _, by (repeat' (first | (with_reducible exact Below.refl _ _) | (with_reducible assumption) | (with_reducible refine Below.alloc ?_ ?_ _) | (with_reducible refine Below.setCell ?_ ?_ _) | (with_reducible refine Below.drew ?_) | (with_reducible refine below_drewN ?_ _) | (with_reducible refine Below.trans ?_ (Below.mono (by assumption) ?_)) | (with_reducible exact Nat.le_refl _) | (simp; done) | omega | (simp at *; omega)))⟩
      exact .inl ⟨Nat.le_refl _, .slice none 0 0, heap_alloc_new w1 _, World.ownsRow_nil _ _ _ _, by simp [Value.ownBlock]⟩
    case round =>
      obtain ⟨k, hk, rfl, hbd, hw, hb⟩ := hrel
      by_cases hlt : (k : Int) < R
      · have k0 : wr.cell? ⟨w.heap.size, 0, none⟩ = some (.int .i64 R) := (hw.cell 0).trans rfl
        have k1 : wr.cell? ⟨w.heap.size, 1, none⟩ = some (.int .i64 C) := (hw.cell 1).trans rfl
        have k2 : wr.cell? ⟨w.heap.size, 2, none⟩ = some (.slice (some ⟨b, o, none⟩) l.length cap) := (hw.cell 2).trans rfl
        have HS := Lib.hid (rowsText_succ C l k)
        have hle := rowsText_le HG.out hk
        have hle1 : k ≤ 9 := (row_facts HG.out hlt).2.2.2.1
        have hle2 : (textOf (rowL C l k)).length = (rowL C l k).length := by simp [textOf]
        have hle3 : (rowL C l k).length ≤ 9 := by rw [rowL_len HG.out hlt]; exact (row_facts HG.out hlt).2.2.2.2.1
        have hgr := Lib.hid (rowL_good HG.out hlt)
        have hs := hb.size
        go_wp2_with fail
        refine (impl_rowCells _ _ _ _ _ l k _ HG.out hlt hcap).mono ?_; rintro e w2 ⟨rfl, b2⟩
        have B2 := hb.trans (b2.mono hs)
        have hw2 := hw.below b2 hw.lt
        have hbd2 := hbd.keep b2
        clear k0 k1 k2 b2 hbd hb hw
        go_wp2_with fail
        refine (impl_CellsText _ _ (rowL C l k) _ (by omega) (((rowL_rd HG.out hlt hr').below (B1.trans (B2.mono hs1))).mono (Nat.le_trans hs1 B2.size))).mono ?_; rintro e w3 ⟨rfl, b3⟩
        have B3 := B2.trans (b3.mono B2.size)
        have hw3 := hw2.below b3 hw2.lt
        have hbd3 := hbd2.keep b3
        have et : textOr (rowL C l k) = textOf (rowL C l k) := by unfold textOr; rw [hgr.out]; rfl
        rw [et, hgr.out]
        clear et b3 hbd2 B2 hw2
        have hz3 := B3.size
        go_wp2_with fail
        refine (WriteString_any _ _ _ _ _ hbd3 (by omega) (by show (textOf (rowL C l k)).toArray.size ≤ _; simp only [List.size_toArray]; omega) hz3).mono ?_; rintro e w4 ⟨rfl, hbd4, b4⟩
        have B4 := B3.trans b4
        have hz4 := B4.size
        have hw4 := hw3.below b4 (by have := hw3.lt; omega)
        clear b4 hbd3 B3 hw3
        go_wp2_with fail
        refine (WriteByte_any _ _ _ 10 _ hbd4 (by simp only [List.length_append]; show _ + (textOf (rowL C l k)).length ≤ _; omega) hz4).mono ?_; rintro e w5 ⟨rfl, hbd5, b5⟩
        have B5 := B4.trans b5
        have hz5 := B5.size
        have hw5 := hw4.below b5 (by have := hw4.lt; omega)
        clear b5 hbd4 B4 hw4
        rw [List.append_assoc, ← HS.out] at hbd5
        go_wp2
        go_roundw
        case rel => exact ⟨k + 1, by omega, by go_num, hbd5, hw5, B5⟩
        case measure => simp [intOf]; omega
      · obtain rfl : R = (k : Int) := by omega
        have hle := rowsText_le HG.out hk
        go_wp2_with fail
        refine (String_any _ _ _ _ hbd hb.size).mono ?_; rintro e w2 ⟨rfl, b2⟩
        go_wp2
        go_returns
        exact ⟨rfl, B1.trans ((hb.trans b2).mono hs1)⟩
  · have HG := Lib.hid hg
    rw [hg]
    clear hg
    go_enter Try.func46, Try.ntmps46
    go_wp2_with fail
    refine (impl_IsBoard _ _ _ _ l _ hn ((hr.below (by (repeat' (first | (with_reducible exact Below.refl _ _) | (with_reducible assumption) | (with_reducible refine Below.alloc ?_ ?_ _) | (with_reducible refine Below.setCell ?_ ?_ _) | (with_reducible refine Below.drew ?_) | (with_reducible refine below_drewN ?_ _) | (with_reducible refine Below.trans ?_ (Below.mono (by assumption) ?_)) | (with_reducible exact Nat.le_refl _) | (simp; done) | omega | (simp at *; omega))) : Below w.heap.size w _)).mono (by go_size))).mono ?_; rintro e w1 ⟨rfl, b1⟩
    rw [HG.out]
    have B1 : Below w.heap.size w w1 := by (repeat' (first | (with_reducible exact Below.refl _ _) | (with_reducible assumption) | (with_reducible refine Below.alloc ?_ ?_ _) | (with_reducible refine Below.setCell ?_ ?_ _) | (with_reducible refine Below.drew ?_) | (with_reducible refine below_drewN ?_ _) | (with_reducible refine Below.trans ?_ (Below.mono (by assumption) ?_)) | (with_reducible exact Nat.le_refl _) | (simp; done) | omega | (simp at *; omega)))
    go_wp2
    go_returns
    exact ⟨rfl, B1⟩
end Go.Proofs.Ytdeemhmllfoakaa
