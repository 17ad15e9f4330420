/- BoardText, program and model. -/
import Derived.Test.YtdcaohmcidmigaaText
import Derived.Test.YtdcaohmcidmigaaBuilder2
import Derived.Test.YtdcaohmcidmigaaRowOf
namespace Go.Proofs.Ytdcaohmcidmigaa
open Go.ChangeShapes Go.WideShapes Go.ChangeAt Go.RowKit Go.Joins Go.Deep
set_option linter.unusedSimpArgs false
set_option linter.unusedVariables false
set_option maxRecDepth 100000
set_option maxHeartbeats 1000000
def rowsText (C : Int) (l : List (Int × Int)) (k : Nat) : List UInt8 := (List.range k).flatMap fun i => textOf (rowL C l i) ++ [10]
def boardText (R C : Int) (l : List (Int × Int)) : List UInt8 := if goodB R C l then rowsText C l R.toNat else []
theorem rowsText_succ (C : Int) (l : List (Int × Int)) (k : Nat) : rowsText C l (k + 1) = rowsText C l k ++ (textOf (rowL C l k) ++ [10]) := by
  unfold rowsText
  rw [List.range_succ, List.flatMap_append]
  simp
theorem rowsText_le {R C : Int} {l : List (Int × Int)} (hg : goodB R C l = true) {k : Nat} (hk : (k : Int) ≤ R) : (rowsText C l k).length ≤ 10 * k := by
  induction k with
  | zero => exact Nat.le_refl 0
  | succ k ih =>
    have hk' : (k : Int) < R := by omega
    have h1 := ih (by omega)
    have h2 := rowL_len hg hk'
    have h3 := row_facts hg hk'
    rw [rowsText_succ, List.length_append, List.length_append]
    have h4 : (textOf (rowL C l k)).length = (rowL C l k).length := by simp [textOf]
    rw [h4, h2]
    simp only [List.length_singleton]
    omega
theorem bytes_app (a b : List UInt8) : (⟨a.toArray⟩ : ByteArray) ++ (⟨b.toArray⟩ : ByteArray) = ⟨(a ++ b).toArray⟩ := by
  apply ByteArray.ext
  simp
theorem spec_boText (R C : Int) (b o cap : Nat) (l : List (Int × Int)) (w : World) (hg : goodB R C l = true) (hr : Rd w w.heap.size (some ⟨b, o, none⟩) (flat l)) (hcap : l.length ≤ cap) :
    Calls Try.prog 59 #[.agg #[.int .i64 R, .int .i64 C, .slice (some ⟨b, o, none⟩) l.length cap]] w fun e w' => e = .returned (.string ⟨(rowsText C l R.toNat).toArray⟩) ∧ Below w.heap.size w w' := by
  obtain ⟨s1, s2, s3, s4⟩ := sizeB_iff.1 (goodB_iff.1 hg).1
  have HG := Lib.hid hg
  clear hg
  go_enter Try.func59, Try.ntmps59
  go_wp2
  go_loopw [3, 4] (fun t i wr => ∃ k : Nat, (k : Int) ≤ R ∧ i = .int .i64 k ∧ t = .string ⟨(rowsText C l k).toArray⟩ ∧ Whole wr w.heap.size 30 [.int .i64 R, .int .i64 C, .slice (some ⟨b, o, none⟩) l.length cap] ∧ Below w.heap.size w wr) (fun _ i _ => R.toNat - (intOf i).toNat)
  case atStart => exact ⟨0, by omega, rfl, rfl, heap_alloc_new w _, by (repeat' (first | (with_reducible exact Below.refl _ _) | (with_reducible assumption) | (with_reducible refine Below.alloc ?_ ?_ _) | (with_reducible refine Below.setCell ?_ ?_ _) | (with_reducible refine Below.drew ?_) | (with_reducible refine below_drewN ?_ _) | (with_reducible refine Below.trans ?_ (Below.mono (by assumption) ?_)) | (with_reducible exact Nat.le_refl _) | (simp; done) | omega | (simp at *; omega)))⟩
  case round =>
    obtain ⟨k, hk, rfl, rfl, hw, hb⟩ := hrel
    have k0 : wr.cell? ⟨w.heap.size, 0, none⟩ = some (.int .i64 R) := (hw.cell 0).trans rfl
    by_cases hlt : (k : Int) < R
    · have k1 : wr.cell? ⟨w.heap.size, 1, none⟩ = some (.int .i64 C) := (hw.cell 1).trans rfl
      have k2 : wr.cell? ⟨w.heap.size, 2, none⟩ = some (.slice (some ⟨b, o, none⟩) l.length cap) := (hw.cell 2).trans rfl
      have HS := Lib.hid (rowsText_succ C l k)
      have hle := rowsText_le HG.out hk
      have hle2 : (textOf (rowL C l k)).length = (rowL C l k).length := by simp [textOf]
      have hle3 : (rowL C l k).length ≤ 9 := by rw [rowL_len HG.out hlt]; exact (row_facts HG.out hlt).2.2.2.2.1
      have hgr := Lib.hid (rowL_good HG.out hlt)
      have hs := hb.size
      generalize hTX : rowsText C l k = tx at *
      have HT := Lib.hid hTX
      clear hTX
      go_wp2_with fail
      refine (spec_boRow _ _ _ _ _ l k _ HG.out hlt hcap).mono ?_; rintro e w1 ⟨rfl, b1⟩
      have B1 := hb.trans (b1.mono hs)
      have hw1 := hw.below b1 hw.lt
      clear k0 k1 k2
      go_wp2_with fail
      refine (spec_paText _ _ (rowL C l k) _ hgr.out (((rowL_rd HG.out hlt hr).below B1).mono B1.size)).mono ?_; rintro e w2 ⟨rfl, b2⟩
      have B2 := B1.trans (b2.mono B1.size)
      have hw2 := hw1.below b2 hw1.lt
      generalize textOf (rowL C l k) = ty at *
      go_wp2
      go_roundw
      case rel => exact ⟨k + 1, by omega, by go_num, by rw [HS.out, ← bytes_app, ← bytes_app], hw2, B2⟩
      case measure => simp [intOf]; omega
    · obtain rfl : R = (k : Int) := by omega
      go_wp2
      go_returns
      exact ⟨rfl, hb⟩
end Go.Proofs.Ytdcaohmcidmigaa
