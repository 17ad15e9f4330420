/- GroupOf, program and model. -/
import Derived.Test.YtdpgbgniejlilaaJoin
namespace Go.Proofs.Ytdpgbgniejlilaa
open Go.ChangeShapes Go.WideShapes Go.ChangeAt Go.RowKit Go.Joins Go.Deep
set_option linter.unusedSimpArgs false
set_option linter.unusedVariables false
set_option maxRecDepth 100000
set_option maxHeartbeats 2000000
def groupB (R C : Int) (l : List (Int × Int)) (i j : Int) : List Int := if okJ R C l i j then nI (grpL C l (atI C i j)) else []
theorem grpL_len (C : Int) (l : List (Int × Int)) (k : Nat) : (grpL C l k).length ≤ l.length := by
  unfold grpL
  have := List.length_filter_le (fun x => decide (nmb C l x = nmb C l k)) (List.range l.length)
  rwa [List.length_range] at this
theorem groupB_len (R C : Int) (l : List (Int × Int)) (i j : Int) (h : l.length ≤ 1048576) : (groupB R C l i j).length ≤ 1048576 := by
  unfold groupB
  split
  · rw [nI_length]
    have := grpL_len C l (atI C i j)
    omega
  · simp
theorem PostL.of_irow {w w' : World} {l : List Int} {v : Value} {base : Nat} (h : IRow w' base v l) (hbase : w.heap.size ≤ base) (hb : Below w.heap.size w w') (ok : Bool) : PostL w l ok (.returned (.tuple #[v, .bool ok])) w' := by
  obtain ⟨A', cap', rfl, ho, hn⟩ := h.shape
  exact PostL.mk ho (fun a ha => Nat.le_trans hbase (hn a ha)) hb
theorem PostL.of_post {w w1 w' : World} {l : List Int} {v : Value} (h : PostI w1 l (.returned v) w') (hb : Below w.heap.size w w1) (ok : Bool) : PostL w l ok (.returned (.tuple #[v, .bool ok])) w' := by
  obtain ⟨A', cap', e, ho, hn, hb'⟩ := h
  cases e
  exact PostL.mk ho (hn.mono hb.size) (hb.trans (hb'.mono hb.size))
theorem PostI.value {w w' : World} {l : List Int} {e : Ending} (h : PostI w l e w') : ∃ A cap, e = .returned (.slice A l.length cap) ∧ Own w' A 3 (ints l) ∧ New w A ∧ Below w.heap.size w w' := h
def numsTo (C : Int) (l : List (Int × Int)) (k m : Nat) : List Nat := (List.range m).filter fun x => decide (nmb C l x = nmb C l k)
theorem numsTo_yes {C : Int} {l : List (Int × Int)} {k m : Nat} (h : nmb C l m = nmb C l k) : numsTo C l k (m + 1) = numsTo C l k m ++ [m] := by
  unfold numsTo
  rw [List.range_succ, List.filter_append]
  simp [h]
theorem numsTo_no {C : Int} {l : List (Int × Int)} {k m : Nat} (h : ¬ nmb C l m = nmb C l k) : numsTo C l k (m + 1) = numsTo C l k m := by
  unfold numsTo
  rw [List.range_succ, List.filter_append]
  simp [h]
theorem numsTo_len (C : Int) (l : List (Int × Int)) (k m : Nat) : (numsTo C l k m).length ≤ m := by
  unfold numsTo
  have := List.length_filter_le (fun x => decide (nmb C l x = nmb C l k)) (List.range m)
  rwa [List.length_range] at this
theorem numL_at {c : Nat} {l : List (Int × Int)} {x : Nat} (h : x < l.length) : (ints (numL c l))[x]? = some (.int .i64 (nmb (c : Int) l x)) := by
  unfold numL nmb GG
  rw [Int.toNat_natCast]
  exact numV_at h
theorem numL_len (c : Nat) (l : List (Int × Int)) : (numL c l).length = l.length := numV_len _ _
end Go.Proofs.Ytdpgbgniejlilaa
