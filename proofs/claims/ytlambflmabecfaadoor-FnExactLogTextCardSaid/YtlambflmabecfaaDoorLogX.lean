/- LogText: the model's. -/
import Derived.Deep.RegionHeld3
import Derived.Deep.Cut
import Derived.Test.YtlambflmabecfaaDoorNum
import Derived.Test.YtlambflmabecfaaDoorLogG
namespace Go.Proofs.YtlambflmabecfaaDoor
open Go.ChangeShapes Go.WideShapes Go.ChangeAt Go.RowKit Go.Joins Go.Deep
set_option linter.unusedSimpArgs false
set_option linter.unusedVariables false
set_option maxRecDepth 100000
set_option maxHeartbeats 4000000
def nmC (k : Nat) : List UInt8 := match k with | 0 => [98, 108, 117, 101] | 1 => [114, 101, 100] | _ => []
def nmE (k : Nat) : List UInt8 := match k with | 1 => [98, 111, 116, 116, 111, 109] | 2 => [115, 116, 111, 112] | 3 => [108, 111, 115, 116] | _ => []
def colT (u : Int) : List UInt8 := if u < 0 then [45] else Lib.decDigits u.toNat
/-- An entry's words, and its line. -/
def headE (x y z : Nat) : List UInt8 := nmC x ++ [32] ++ nmE y ++ [32] ++ Lib.decDigits z ++ [32]
def lineE (e : LE) : List UInt8 := headE e.1.toNat e.2.1.toNat e.2.2.1.toNat ++ (colT e.2.2.2 ++ [10])
def textL (l : List LE) : List UInt8 := l.flatMap lineE
def textO (l : List LE) : List UInt8 := if okLog l then textL l else []
theorem nmC_len (k : Nat) : (nmC k).length ≤ 4 := by
  unfold nmC
  split <;> decide
theorem nmE_len (k : Nat) : (nmE k).length ≤ 6 := by
  unfold nmE
  split <;> decide
theorem dec_lenX {n : Nat} (h : n < 100) : (Lib.decDigits n).length ≤ 2 := by
  by_cases h1 : n < 10
  · rw [Lib.decDigits_one h1]; exact Nat.le_succ 1
  · rw [Lib.decDigits_two h1 h]; exact Nat.le_refl 2
theorem colT_len {u : Int} (h : u < 100) : (colT u).length ≤ 2 := by
  unfold colT
  split
  · decide
  · exact dec_lenX (by omega)
theorem headE_len {x y z : Nat} (h : z < 100) : (headE x y z).length ≤ 15 := by
  unfold headE
  have h1 := nmC_len x
  have h2 := nmE_len y
  have h3 := dec_lenX h
  simp only [List.length_append, List.length_singleton]
  omega
theorem lineE_len {e : LE} (h : okE1 e = true) : (lineE e).length ≤ 20 := by
  obtain ⟨h1, h2, h3, h4⟩ := okE1_parts h
  unfold lineE
  have h5 := headE_len (x := e.1.toNat) (y := e.2.1.toNat) (z := e.2.2.1.toNat) (by omega)
  have h6 := colT_len (u := e.2.2.2) (by omega)
  simp only [List.length_append, List.length_singleton]
  omega
theorem textL_take {l : List LE} {k : Nat} (h : k < l.length) : textL (l.take (k + 1)) = textL (l.take k) ++ lineE (l[k].1, l[k].2.1, l[k].2.2.1, l[k].2.2.2) := by
  unfold textL
  rw [List.take_succ_eq_append_getElem h, List.flatMap_append]
  simp
theorem textL_le {l : List LE} (h : ∀ e ∈ l, okE1 e = true) (k : Nat) : (textL (l.take k)).length ≤ 20 * k := by
  induction k with
  | zero => simp [textL]
  | succ k ih =>
    by_cases hk : k < l.length
    · rw [textL_take hk, List.length_append]
      have := lineE_len (h l[k] (List.getElem_mem hk))
      have e : (lineE (l[k].1, l[k].2.1, l[k].2.2.1, l[k].2.2.2)).length ≤ 20 := this
      omega
    · rw [List.take_of_length_le (by omega)]
      rw [List.take_of_length_le (by omega)] at ih
      omega
theorem spec_loColours (w : World) : Calls Tryd.prog 24 #[] w fun e w' => ∃ g, e = .returned (.slice (some ⟨g, 0, none⟩) 2 2) ∧ (∀ k, k < 2 → w'.cell? ⟨g, k, none⟩ = some (.string ⟨(nmC k).toArray⟩)) ∧ g < w'.heap.size ∧ Below w.heap.size w w' := by
  go_enter Tryd.func24, Tryd.ntmps24
  go_wp2
  go_returns
  refine ⟨w.heap.size, rfl, fun k hk => ?_, by rw [World.size_alloc]; omega, by (repeat' (first | (with_reducible exact Below.refl _ _) | (with_reducible assumption) | (with_reducible refine Below.alloc ?_ ?_ _) | (with_reducible refine Below.setCell ?_ ?_ _) | (with_reducible refine Below.drew ?_) | (with_reducible refine below_drewN ?_ _) | (with_reducible refine Below.trans ?_ (Below.mono (by assumption) ?_)) | (with_reducible exact Nat.le_refl _) | (simp; done) | omega | (simp at *; omega)))⟩
  have h : Whole (w.alloc (.cells #[.string ⟨#[98, 108, 117, 101]⟩, .string ⟨#[114, 101, 100]⟩] 9)) w.heap.size 9 [.string ⟨#[98, 108, 117, 101]⟩, .string ⟨#[114, 101, 100]⟩] := heap_alloc_new w _
  rw [h.cell]
  rcases (show k = 0 ∨ k = 1 by omega) with rfl | rfl <;> rfl
theorem spec_loEnds (w : World) : Calls Tryd.prog 25 #[] w fun e w' => ∃ g, e = .returned (.slice (some ⟨g, 0, none⟩) 4 4) ∧ (∀ k, k < 4 → w'.cell? ⟨g, k, none⟩ = some (.string ⟨(nmE k).toArray⟩)) ∧ g < w'.heap.size ∧ Below w.heap.size w w' := by
  go_enter Tryd.func25, Tryd.ntmps25
  go_wp2
  go_returns
  refine ⟨w.heap.size, rfl, fun k hk => ?_, by rw [World.size_alloc]; omega, by (repeat' (first | (with_reducible exact Below.refl _ _) | (with_reducible assumption) | (with_reducible refine Below.alloc ?_ ?_ _) | (with_reducible refine Below.setCell ?_ ?_ _) | (with_reducible refine Below.drew ?_) | (with_reducible refine below_drewN ?_ _) | (with_reducible refine Below.trans ?_ (Below.mono (by assumption) ?_)) | (with_reducible exact Nat.le_refl _) | (simp; done) | omega | (simp at *; omega)))⟩
  have h : Whole (w.alloc (.cells #[.string ⟨#[]⟩, .string ⟨#[98, 111, 116, 116, 111, 109]⟩, .string ⟨#[115, 116, 111, 112]⟩, .string ⟨#[108, 111, 115, 116]⟩] 9)) w.heap.size 9 [.string ⟨#[]⟩, .string ⟨#[98, 111, 116, 116, 111, 109]⟩, .string ⟨#[115, 116, 111, 112]⟩, .string ⟨#[108, 111, 115, 116]⟩] := heap_alloc_new w _
  rw [h.cell]
  rcases (show k = 0 ∨ k = 1 ∨ k = 2 ∨ k = 3 by omega) with rfl | rfl | rfl | rfl <;> rfl
end Go.Proofs.YtlambflmabecfaaDoor
