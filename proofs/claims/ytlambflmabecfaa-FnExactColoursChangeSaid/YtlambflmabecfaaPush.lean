/- A list of numbers that grows: one number behind it, as one law. -/
import Derived.Deep.RegionHeld3
import Derived.Deep.RegionLaw
import Derived.Deep.AppendLies
import Derived.BigQuiet
import Derived.Deep.DeepCutAuto
import Derived.Maps.AppendAt
import Derived.Test.YtlambflmabecfaaRows2
namespace Go.Proofs.Ytlambflmabecfaa
open Go.ChangeShapes Go.WideShapes Go.ChangeAt Go.RowKit Go.Joins Go.Deep
set_option linter.unusedSimpArgs false
set_option linter.unusedVariables false
set_option maxRecDepth 100000
set_option maxHeartbeats 1000000
/-- The value v is a list of numbers whose memory lies from block base on and is the call's own. -/
def IRow (w : World) (base : Nat) (v : Value) (l : List Int) : Prop := w.ownsRow base 3 1 v l.length (ints l)
theorem IRow.nil {w : World} {base : Nat} : IRow w base (.slice none 0 0) [] := World.ownsRow_nil _ _ _ _
theorem IRow.keep {w w' : World} {base : Nat} {v : Value} {l : List Int} (h : IRow w base v l) (hb : Below w.heap.size w w') : IRow w' base v l := row_keep h hb
theorem IRow.alloc {w : World} {base : Nat} {v : Value} {l : List Int} (h : IRow w base v l) (o : Obj) : IRow (w.alloc o) base v l := World.ownsRow.alloc h o
theorem IRow.grown {w w' : World} {base : Nat} {v : Value} {l : List Int} {row : Option Nat} (h : IRow w base v l) (hg : w.grownBy w' row) (hne : v.ownBlock = none ∨ v.ownBlock ≠ row) : IRow w' base v l := World.ownsRow.kept h hg hne
theorem IRow.shape {w : World} {base : Nat} {v : Value} {l : List Int} (h : IRow w base v l) : ∃ A cap, v = .slice A l.length cap ∧ Own w A 3 (ints l) ∧ ∀ a, A = some a → base ≤ a.block := by
  have h' : w.ownsRow base 3 1 v l.length (ints l) := h
  obtain ⟨A, cap, rfl⟩ := slice_of_row h'
  exact ⟨A, cap, rfl, (own_of_row h').1, (own_of_row h').2⟩
theorem PostI.of_irow {w w' : World} {l : List Int} {v : Value} {base : Nat} (h : IRow w' base v l) (hbase : w.heap.size ≤ base) (hb : Below w.heap.size w w') : PostI w l (.returned v) w' := by
  obtain ⟨A', cap', rfl, ho, hn⟩ := h.shape
  exact PostI.mk ho (fun a ha => Nat.le_trans hbase (hn a ha)) hb
/-- 'l = append(l, x)': the literal slice of x is the heap's last block. -/
theorem wpList_push {w : World} {ops : Array Oper} {rest : List Oper} {o : Oper} {a : Act} {Q : Exit → Act → World → Prop} {base : Nat} {v : Value} {l : List Int} {x0 : Int} (hrow : IRow w base v l) (hn : l.length ≤ 1048576) (hbase : base ≤ w.heap.size)
    (hgd : o.guard = none) (s x : Operand) (ho : o.op = .call { callee := .builtin .append, args := #[s, x], argTypes := #[47, 47] })
    (hs : a.eval s = v) (hx : a.eval x = .slice (some ⟨w.heap.size, 0, none⟩) 1 1)
    (h : ∀ v' w', IRow w' base v' (l ++ [x0]) → (w.alloc (.cells #[.int .i64 x0] 3)).grownBy w' v.ownBlock → Below base w w' → (v'.ownBlock = v.ownBlock ∨ v'.ownBlock = some (w.heap.size + 1)) → wpList Try.prog ops Q rest (a.put o.dst v') w') :
    wpList Try.prog ops Q (o :: rest) a (w.alloc (.cells #[.int .i64 x0] 3)) := by
  obtain ⟨i0, hi, hz0, hz1, hz2⟩ := info_parts intInfo
  refine wpList_append_own_at _ hgd s x 47 ho base 3 i0 _ 1 8 Try.underlying47 hi hz0 hz1 hz2 rfl (by omega) v l.length (ints l) hs (World.ownsRow.alloc hrow _) ⟨w.heap.size, 0, none⟩ 1 1 [.int .i64 x0] hx rfl one_cellI one_oneI (by unfold maxLen; omega) (by omega) (by simp; omega) ?_
  intro v' w' h1 h2 _ h4
  refine h v' w' ?_ h2 ?_ (by simpa using h4)
  · unfold IRow
    rw [List.length_append, List.length_singleton]
    simpa [ints] using h1
  · exact row_below (World.ownsRow.alloc hrow _) ((Below.refl base w).alloc hbase _) (by simp; omega) h2
end Go.Proofs.Ytlambflmabecfaa
