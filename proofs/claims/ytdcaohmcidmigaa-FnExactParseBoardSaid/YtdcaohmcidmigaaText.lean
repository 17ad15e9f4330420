/- CellsText, program and model. -/
import Derived.Test.YtdcaohmcidmigaaList4
import Derived.Test.YtdcaohmcidmigaaBuilder
import Derived.Test.YtdcaohmcidmigaaLetter
namespace Go.Proofs.Ytdcaohmcidmigaa
open Go.ChangeShapes Go.WideShapes Go.ChangeAt Go.RowKit Go.Joins Go.Deep
set_option linter.unusedSimpArgs false
set_option linter.unusedVariables false
set_option maxRecDepth 100000
set_option maxHeartbeats 400000
def textOf (l : List (Int × Int)) : List UInt8 := l.map fun c => letB c.1 c.2
def textOr (l : List (Int × Int)) : List UInt8 := if goodL l then textOf l else []
theorem textOf_step {l : List (Int × Int)} {k : Nat} (h : k < l.length) : textOf (l.take (k + 1)) = textOf (l.take k) ++ [letB l[k].1 l[k].2] := by
  rw [List.take_succ_eq_append_getElem h, textOf, List.map_append]; rfl
theorem textOf_len {l : List (Int × Int)} {k : Nat} (h : k ≤ l.length) : (textOf (l.take k)).length = k := by
  rw [textOf, List.length_map, List.length_take]; omega
theorem good_of {l : List (Int × Int)} (hg : goodL l = true) {k : Nat} (h : k < l.length) : good l[k].1 l[k].2 = true := by
  unfold goodL at hg
  rw [Bool.and_eq_true, List.all_eq_true] at hg
  exact hg.2 _ (List.getElem_mem h)
theorem bytes_snoc (l : List UInt8) (b : UInt8) : (⟨l.toArray⟩ : ByteArray) ++ (⟨#[b]⟩ : ByteArray) = ⟨(l ++ [b]).toArray⟩ := by
  apply ByteArray.ext
  simp
theorem spec_paText (A : Option Addr) (cap : Nat) (l : List (Int × Int)) (w : World) (hg : goodL l = true) (hr : Rd w w.heap.size A (flat l)) :
    Calls Try.prog 70 #[.slice A l.length cap] w fun e w' => e = .returned (.string ⟨(textOf l).toArray⟩) ∧ Below w.heap.size w w' := by
  have h90 : l.length ≤ 90 := by unfold goodL at hg; simp at hg; exact hg.1
  have HG := Lib.hid hg
  clear hg
  go_enter Try.func70, Try.ntmps70
  go_wp2

  go_loopw [3, 8] (fun t i wr => ∃ k : Nat, k ≤ l.length ∧ i = .int .i64 k ∧ t = .string ⟨(textOf (l.take k)).toArray⟩ ∧ Below w.heap.size w wr) (fun _ i _ => l.length - (intOf i).toNat)
  case atStart => exact ⟨0, Nat.zero_le _, rfl, rfl, by (repeat' (first | (with_reducible exact Below.refl _ _) | (with_reducible assumption) | (with_reducible refine Below.alloc ?_ ?_ _) | (with_reducible refine Below.setCell ?_ ?_ _) | (with_reducible refine Below.drew ?_) | (with_reducible refine below_drewN ?_ _) | (with_reducible refine Below.trans ?_ (Below.mono (by assumption) ?_)) | (with_reducible exact Nat.le_refl _) | (simp; done) | omega | (simp at *; omega)))⟩
  case round =>
    obtain ⟨k, hk, rfl, rfl, hb⟩ := hrel
    by_cases hlt : k < l.length
    · obtain ⟨b, o, rfl, hbl, hc⟩ := hr (by rw [flat_length]; omega)
      have hc0 : wr.cell? ⟨b, o + k * 2, none⟩ = some (.int .i64 l[k].1) := (hb.cell (p := ⟨b, _, none⟩) hbl).trans (hc _ _ (flat_at l k hlt).1)
      have hc1 : wr.cell? ⟨b, o + k * 2 + 1, none⟩ = some (.int .i64 l[k].2) := (hb.cell (p := ⟨b, _, none⟩) hbl).trans (hc _ _ (flat_at l k hlt).2)
      have hgk := good_of HG.out hlt
      have HT := Lib.hid (textOf_step hlt)
      have hs := hb.size
      have hlen := textOf_len hk
      clear hr hc
      generalize l[k].1 = x at *
      generalize l[k].2 = y at *
      go_wp2_with fail
      refine (spec_paLetter _ _ hgk _).mono ?_; rintro e w1 ⟨rfl, b1⟩
      clear hc0 hc1
      generalize textOf (l.take k) = tx at *
      go_wp2
      go_roundw
      case rel => exact ⟨k + 1, by omega, by go_num, by rw [HT.out, bytes_snoc], (hb.trans ((Below.refl _ _).alloc hs _)).trans (b1.mono (by simp; omega))⟩
      case measure => simp [intOf]; omega
    · obtain rfl : k = l.length := by omega
      have ht : l.take l.length = l := List.take_length
      rw [ht]
      clear ht
      go_wp2
      go_returns
      exact ⟨rfl, hb⟩
theorem ret_strl {a c : List UInt8} {x y : Bool} (h : x = y) (h1 : a = c) : Ending.returned (.tuple #[.string ⟨a.toArray⟩, .bool x]) = .returned (.tuple #[.string ⟨c.toArray⟩, .bool y]) := by rw [h, h1]
theorem let_low (a b : Int) (h : good a b = true) : (letB a b).toNat < 128 :=
  good_cases (P := fun a b => (letB a b).toNat < 128) (by decide +kernel) (by decide +kernel) (by decide +kernel) (by decide +kernel) (by decide +kernel) (by decide +kernel) (by decide +kernel) (by decide +kernel) (by decide +kernel) (by decide +kernel) a b h
end Go.Proofs.Ytdcaohmcidmigaa
