/- CellsText, program and model. -/
import Derived.Test.YtgecihedocifjabList4
import Derived.Test.YtgecihedocifjabBuilder
import Derived.Test.YtgecihedocifjabLetter
namespace Go.Proofs.Ytgecihedocifjab
open Go.ChangeShapes Go.WideShapes Go.ChangeAt Go.RowKit Go.Joins Go.Deep
set_option linter.unusedSimpArgs false
set_option linter.unusedVariables false
set_option maxRecDepth 100000
set_option maxHeartbeats 400000
def textOf (l : List (Int × Int)) : List UInt8 := l.map fun c => letB c.1 c.2
def textOr (l : List (Int × Int)) : List UInt8 := if goodL l then textOf l else []
theorem textOf_step {l : List (Int × Int)} {k : Nat} (h : k < l.length) : textOf (l.take (k + 1)) = textOf (l.take k) ++ [letB l[k].1 l[k].2] := by
  rw [List.take_succ_eq_append_getElem h, textOf, List.map_append]; rfl
theorem textOf_len {l : List (Int × Int)} {k : Nat} (h : k ≤ l.length) : (textOf (l.take k)).length = k := by
  rw [textOf, List.length_map, List.length_take]; omega
theorem good_of {l : List (Int × Int)} (hg : goodL l = true) {k : Nat} (h : k < l.length) : good l[k].1 l[k].2 = true := by
  unfold goodL at hg
  rw [Bool.and_eq_true, List.all_eq_true] at hg
  exact hg.2 _ (List.getElem_mem h)
theorem bytes_snoc (l : List UInt8) (b : UInt8) : (⟨l.toArray⟩ : ByteArray) ++ (⟨#[b]⟩ : ByteArray) = ⟨(l ++ [b]).toArray⟩ := by
  apply ByteArray.ext
  simp
theorem spec_paText (A : Option Addr) (cap : Nat) (l : List (Int × Int)) (w : World) (hg : goodL l = true) (hr : Rd w w.heap.size A (flat l)) :
    Calls Try.prog 62 #[.slice A l.length cap] w fun e w' => e = .returned (.string ⟨(textOf l).toArray⟩) ∧ Below w.heap.size w w' := by
  have h90 : l.length ≤ 90 := by unfold goodL at hg; simp at hg; exact hg.1
  have HG := Lib.hid hg
  clear hg
  go_enter Try.func62, Try.ntmps62
  go_wp2

  go_loopw [3, 8] (fun t i wr => ∃ k : Nat, k ≤ l.length ∧ i = .int .i64 k ∧ t = .string ⟨(textOf (l.take k)).toArray⟩ ∧ Below w.heap.size w wr) (fun _ i _ => l.length - (intOf i).toNat)
  case atStart => exact ⟨0, Nat.zero_le _, rfl, rfl, by (repeat' (first | (with_reducible exact Below.refl _ _) | (with_reducible assumption) | (with_reducible refine Below.alloc ?_ ?_ _) | (with_reducible refine Below.setCell ?_ ?_ _) | (with_reducible refine Below.drew ?_) | (with_reducible refine below_drewN ?_ _) | (with_reducible refine Below.trans ?_ (Below.mono (by assumption) ?_)) | (with_reducible exact Nat.le_refl _) | (simp; done) | omega | (simp at *; omega)))⟩
  case round =>
    obtain ⟨k, hk, rfl, rfl, hb⟩ := hrel
    by_cases hlt : k < l.length
    · obtain ⟨b, o, rfl, hbl, hc⟩ := hr (by rw [flat_length]; omega)
      have hc0 : wr.cell? ⟨b, o + k * 2, none⟩ = some (.int .i64 l[k].1) := (hb.cell (p := ⟨b, _, none⟩) hbl).trans (hc _ _ (flat_at l k hlt).1)
      have hc1 : wr.cell? ⟨b, o + k * 2 + 1, none⟩ = some (.int .i64 l[k].2) := (hb.cell (p := ⟨b, _, none⟩) hbl).trans (hc _ _ (flat_at l k hlt).2)
      have hgk := good_of HG.out hlt
      have HT := Lib.hid (textOf_step hlt)
      have hs := hb.size
      have hlen := textOf_len hk
      clear hr hc
      generalize l[k].1 = x at *
      generalize l[k].2 = y at *
      go_wp2_with fail
      refine (spec_paLetter _ _ hgk _).mono ?_; rintro e w1 ⟨rfl, b1⟩
      clear hc0 hc1
      generalize textOf (l.take k) = tx at *
      go_wp2
      go_roundw
      case rel => exact ⟨k + 1, by omega, by go_num, by rw [HT.out, bytes_snoc], (hb.trans ((Below.refl _ _).alloc hs _)).trans (b1.mono (by simp; omega))⟩
      case measure => simp [intOf]; omega
    · obtain rfl : k = l.length := by omega
      have ht : l.take l.length = l := List.take_length
      rw [ht]
      clear ht
      go_wp2
      go_returns
      exact ⟨rfl, hb⟩
theorem ret_strl {a c : List UInt8} {x y : Bool} (h : x = y) (h1 : a = c) : Ending.returned (.tuple #[.string ⟨a.toArray⟩, .bool x]) = .returned (.tuple #[.string ⟨c.toArray⟩, .bool y]) := by rw [h, h1]
theorem spec_CellsText (A : Option Addr) (cap : Nat) (l : List (Int × Int)) (w : World) (hn : l.length ≤ 1048576) (hr : Rd w w.heap.size A (flat l)) :
    Calls Try.prog 31 #[.slice A l.length cap] w fun e w' => e = .returned (.tuple #[.string ⟨(textOr l).toArray⟩, .bool (goodL l)]) ∧ Below w.heap.size w w' := by
  rcases Bool.eq_false_or_eq_true (goodL l) with hg | hg
  · have HG := Lib.hid hg
    go_enter Try.func31, Try.ntmps31
    go_wp2_with fail
    refine (spec_paList _ _ _ _ hn hr).mono ?_; rintro e w1 ⟨rfl, b1⟩
    rw [hg]
    clear hg
    go_wp2_with fail
    refine (spec_paText _ _ l _ HG.out ((hr.below b1).mono b1.size)).mono ?_; rintro e w2 ⟨rfl, b2⟩
    have s1 := b1.size
    go_wp2
    go_returns
    exact ⟨ret_strl HG.out.symm (by simp [textOr, HG.out]), by (repeat' (first | (with_reducible exact Below.refl _ _) | (with_reducible assumption) | (with_reducible refine Below.alloc ?_ ?_ _) | (with_reducible refine Below.setCell ?_ ?_ _) | (with_reducible refine Below.drew ?_) | (with_reducible refine below_drewN ?_ _) | (with_reducible refine Below.trans ?_ (Below.mono (by assumption) ?_)) | (with_reducible exact Nat.le_refl _) | (simp; done) | omega | (simp at *; omega)))⟩
  · have HG := Lib.hid hg
    go_enter Try.func31, Try.ntmps31
    go_wp2_with fail
    refine (spec_paList _ _ _ _ hn hr).mono ?_; rintro e w1 ⟨rfl, b1⟩
    rw [hg]
    clear hg
    go_wp2
    go_returns
    exact ⟨ret_strl (a := []) HG.out.symm (by simp [textOr, HG.out]), b1⟩
theorem let_low (a b : Int) (h : good a b = true) : (letB a b).toNat < 128 :=
  good_cases (P := fun a b => (letB a b).toNat < 128) (by decide +kernel) (by decide +kernel) (by decide +kernel) (by decide +kernel) (by decide +kernel) (by decide +kernel) (by decide +kernel) (by decide +kernel) (by decide +kernel) (by decide +kernel) a b h
theorem impl_CellsText (A : Option Addr) (cap : Nat) (l : List (Int × Int)) (w : World) (hn : l.length ≤ 1048576) (hr : Rd w w.heap.size A (flat l)) :
    Calls Try.prog 33 #[.slice A l.length cap] w fun e w' => e = .returned (.tuple #[.string ⟨(textOr l).toArray⟩, .bool (goodL l)]) ∧ Below w.heap.size w w' := by
  rcases Bool.eq_false_or_eq_true (goodL l) with hg | hg
  · have HG := Lib.hid hg
    have h90 : l.length ≤ 90 := by unfold goodL at hg; simp at hg; exact hg.1
    go_enter Try.func33, Try.ntmps33
    go_wp2_with fail
    refine (impl_areCells _ _ _ _ hn hr).mono ?_; rintro e w1 ⟨rfl, b1⟩
    rw [hg]
    clear hg
    have hr1 := hr.below b1
    have hs1 := b1.size
    clear hr
    go_wp2
    go_loopw [12] (fun i wr => ∃ k : Nat, k ≤ l.length ∧ i = .int .i64 k ∧ Bld w1.heap.size w1.heap.size (textOf (l.take k)) wr ∧ Below w1.heap.size w1 wr ∧ w1.heap.size < wr.heap.size) (fun i _ => l.length - (intOf i).toNat)
    case atStart =>
      refine ⟨0, Nat.zero_le _, rfl, ?_, by (repeat' (first | (with_reducible exact Below.refl _ _) | (with_reducible assumption) | (with_reducible refine Below.alloc ?_ ?_ _) | (with_reducible refine Below.setCell ?_ ?_ _) | (with_reducible refine Below.drew ?_) | (with_reducible refine below_drewN ?_ _) | (with_reducible refine Below.trans ?_ (Below.mono (by assumption) ?_)) | (with_reducible exact Nat.le_refl _) | (simp; done) | omega | (simp at *; omega))), by simp⟩
      exact .inl ⟨Nat.le_refl _, .slice none 0 0, heap_alloc_new w1 _, World.ownsRow_nil _ _ _ _, by simp [Value.ownBlock]⟩
    case round =>
      obtain ⟨k, hk, rfl, hbd, hb, hz⟩ := hrel
      by_cases hlt : k < l.length
      · obtain ⟨b, o, rfl, hbl, hc⟩ := hr1 (by rw [flat_length]; omega)
        have hbl1 : b < w1.heap.size := Nat.lt_of_lt_of_le hbl hs1
        have hc0 : wr.cell? ⟨b, o + k * 2, none⟩ = some (.int .i64 l[k].1) := (hb.cell (p := ⟨b, _, none⟩) hbl1).trans (hc _ _ (flat_at l k hlt).1)
        have hc1 : wr.cell? ⟨b, o + k * 2 + 1, none⟩ = some (.int .i64 l[k].2) := (hb.cell (p := ⟨b, _, none⟩) hbl1).trans (hc _ _ (flat_at l k hlt).2)
        have hgk := good_of HG.out hlt
        have HT := Lib.hid (textOf_step hlt)
        have hlen := textOf_len hk
        clear hr1 hc
        generalize l[k].1 = x at *
        generalize l[k].2 = y at *
        go_wp2_with fail
        refine (impl_letterOf _ _ hgk _).mono ?_; rintro e w2 ⟨rfl, b2⟩
        have hbd2 : Bld w1.heap.size w1.heap.size (textOf (l.take k)) w2 := (bld_alloc hbd _).keep b2
        have hz2 : w1.heap.size < w2.heap.size := by have := b2.size; simp at this; omega
        have hb2 : Below w1.heap.size w1 w2 := (hb.alloc (by omega) _).trans (b2.mono (by simp; omega))
        clear hc0 hc1 b2 hbd hb
        generalize textOf (l.take k) = tx at *
        go_wp2_with fail
        refine (WriteRune_any _ _ _ _ (let_low _ _ hgk) _ hbd2 (by omega) (by omega)).mono ?_; rintro e w3 ⟨⟨n, rfl⟩, hbd3, b3⟩
        have hb3 := hb2.trans b3
        have hz3 := Nat.lt_of_lt_of_le hz2 b3.size
        clear b3 hbd2 hb2
        go_wp2
        go_roundw
        case rel => exact ⟨k + 1, by omega, by go_num, by rw [HT.out]; exact hbd3, hb3, hz3⟩
        case measure => simp [intOf]; omega
      · obtain rfl : k = l.length := by omega
        have ht : l.take l.length = l := List.take_length
        rw [ht] at hbd
        clear ht
        go_wp2_with fail
        refine (String_any _ _ _ _ hbd (by omega)).mono ?_; rintro e w2 ⟨rfl, b2⟩
        go_wp2
        go_returns
        exact ⟨ret_strl HG.out.symm (by simp [textOr, HG.out]), b1.trans ((hb.trans b2).mono hs1)⟩
  · have HG := Lib.hid hg
    go_enter Try.func33, Try.ntmps33
    go_wp2_with fail
    refine (impl_areCells _ _ _ _ hn hr).mono ?_; rintro e w1 ⟨rfl, b1⟩
    rw [hg]
    clear hg
    go_wp2
    go_returns
    exact ⟨ret_strl (a := []) HG.out.symm (by simp [textOr, HG.out]), b1⟩
end Go.Proofs.Ytgecihedocifjab
