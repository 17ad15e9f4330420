/- PutCell, program and model; clones. -/
import Derived.Test.YtlambflmabecfaaDoorCellAt
import Derived.Deep.RegionHeld3
import Derived.Deep.AppendLies
import Derived.Lib.BufferMore
import Derived.Deep.DeepCutAuto
import Derived.Test.YtlambflmabecfaaDoorRows2
namespace Go.Proofs.YtlambflmabecfaaDoor
open Go.ChangeShapes Go.WideShapes Go.ChangeAt Go.RowKit Go.Joins Go.Deep
set_option linter.unusedSimpArgs false
set_option linter.unusedVariables false
set_option maxRecDepth 100000
set_option maxHeartbeats 1000000
theorem row_empty (w : World) (e : TypeId) (size : Nat) : (w.alloc (.cells #[] e)).ownsRow w.heap.size e size (.slice (some ⟨w.heap.size, 0, none⟩) 0 0) 0 [] :=
  ⟨by simp, .inr ⟨w.heap.size, 0, #[], rfl, Nat.le_refl _, heap_alloc_new w _, Nat.le_refl _, Nat.zero_le _, by simp, by simp⟩⟩
theorem rd_news {w w' : World} {B b o : Nat} {xs : List Value} (hr : Rd w B (some ⟨b, o, none⟩) xs) (hb : Below B w w') : ∀ j u, xs[j]? = some u → w'.cell? ((⟨b, o, none⟩ : Addr).add j) = some u := by
  intro j u hj
  obtain ⟨b', o', e, hlt, hc⟩ := hr (by have := (List.getElem?_eq_some_iff.1 hj).1; omega)
  cases e
  rw [add_plain]
  exact (hb.cell (p := ⟨b, o + j, none⟩) hlt).trans (hc j u hj)
theorem Own.set_far {w : World} {A : Option Addr} {t : TypeId} {xs : List Value} (h : Own w A t xs) (p : Addr) (u : Value) (hne : ∀ a, A = some a → p.block ≠ a.block) : Own (w.setCell p u) A t xs := fun hx => by
  obtain ⟨g, rest, rfl, hw⟩ := h hx
  exact ⟨g, rest, rfl, hw.set_far p u (hne _ rfl)⟩
theorem flat_set (l : List (Int × Int)) (n : Nat) (x y : Int) (h : n < l.length) (rest : List Value) : ((flat l ++ rest).set (n * 2) (.int .i64 x)).set (n * 2 + 1) (.int .i64 y) = flat (l.set n (x, y)) ++ rest := by
  have hl := flat_length l
  rw [List.set_append_left _ _ (by omega), List.set_append_left _ _ (by rw [List.length_set]; omega)]
  congr 1
  clear hl
  induction l generalizing n with
  | nil => simp at h
  | cons c l ih =>
    cases n with
    | zero => rfl
    | succ n =>
      have := ih n (by simpa using h)
      rw [show (n + 1) * 2 = n * 2 + 1 + 1 by omega]
      show ((Value.int .i64 c.1 :: Value.int .i64 c.2 :: flat l).set (n * 2 + 1 + 1) (Value.int .i64 x)).set (n * 2 + 1 + 1 + 1) (Value.int .i64 y) = Value.int .i64 c.1 :: Value.int .i64 c.2 :: flat (l.set n (x, y))
      rw [← this]
      rfl
def okPut (R C : Int) (l : List (Int × Int)) (i j x y : Int) : Bool := hasB R C l i j && good x y
def putL (R C : Int) (l : List (Int × Int)) (i j x y : Int) : List (Int × Int) := if okPut R C l i j x y then l.set (atI C i j) (x, y) else []
theorem putL_len (R C : Int) (l : List (Int × Int)) (i j x y : Int) (h : l.length ≤ 1048576) : (putL R C l i j x y).length ≤ 1048576 := by
  unfold putL
  split
  · rw [List.length_set]; exact h
  · simp
end Go.Proofs.YtlambflmabecfaaDoor
