/- ReadCells, program and model: the whole functions. -/
import Derived.Test.YtdcaohmcidmigaaReadCells
namespace Go.Proofs.Ytdcaohmcidmigaa
open Go.ChangeShapes Go.WideShapes Go.ChangeAt Go.RowKit Go.Joins Go.Deep
set_option linter.unusedSimpArgs false
set_option linter.unusedVariables false
set_option maxRecDepth 100000
set_option maxHeartbeats 400000
def okT (s : ByteArray) : Bool := decide (s.size ≤ 90) && allB s
def readT (s : ByteArray) : List (Int × Int) := cellsOr (okT s) s.data.toList
theorem run_make_cells0 (n : Nat) (hn : n ≤ 1048576) (w : World) :
    (Instr.makeSlice 28 (.int .i64 0) (.int .i64 (n : Int))).run Try.prog w = .ok (.slice (some ⟨w.heap.size, 0, none⟩) 0 n) (w.alloc (.cells (zrow (2 * n)).toArray 45)) := by
  obtain ⟨i0, hi, hz0, hz1, hz2⟩ := info_parts cellInfo
  have h := run_make (P := Try.prog) w 28 45 i0 _ Try.underlying28 hi hz0 .i64 .i64 0 (n : Int) (by omega) (by omega) (by rw [hz2]; omega) (by omega)
  rw [hz1] at h
  simp only [Int.toNat_natCast] at h
  rw [h, made_cells]
  rfl
theorem row_iter {w : World} {base : Nat} {e : TypeId} {size n k : Nat} {v : Value} {xs : List Value} {s : ByteArray} {p : Nat} (h : w.ownsRow base e size v n xs) (hit : w.heap[k]? = some (.stringIter s p)) : v.ownBlock ≠ some k := by
  rcases h.2 with ⟨rfl, _⟩ | ⟨g, cap, cur, rfl, _, hh, _⟩
  · intro h; cases h
  · intro he
    have : g = k := by simpa [Value.ownBlock] using he
    subst this
    rw [hit] at hh
    cases hh
theorem row_iterAt {w : World} {base : Nat} {e : TypeId} {size n k : Nat} {v : Value} {xs : List Value} {s : ByteArray} {p : Nat} (h : w.ownsRow base e size v n xs) (hit : w.heap[k]? = some (.stringIter s p)) (p' : Nat) : (w.iterAt k s p').ownsRow base e size v n xs := by
  refine ⟨h.1, ?_⟩
  rcases h.2 with h2 | ⟨g, cap, cur, rfl, h2, hh, h3⟩
  · exact .inl h2
  · have hne : g ≠ k := fun e => by subst e; rw [hit] at hh; cases hh
    exact .inr ⟨g, cap, cur, rfl, h2, (Lib.iterAt_other w k g s p' hne).trans hh, h3⟩
end Go.Proofs.Ytdcaohmcidmigaa
