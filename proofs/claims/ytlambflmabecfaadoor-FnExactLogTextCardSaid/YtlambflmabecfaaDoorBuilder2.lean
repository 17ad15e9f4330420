/- A strings.Builder: WriteString, WriteByte. -/
import Derived.Lib.AppendStr
import Derived.Test.YtlambflmabecfaaDoorBuilder
import Derived.Test.YtlambflmabecfaaDoorMark
namespace Go.Proofs.YtlambflmabecfaaDoor
open Go.ChangeShapes Go.WideShapes Go.ChangeAt Go.RowKit Go.Joins Go.Deep
set_option linter.unusedSimpArgs false
set_option linter.unusedVariables false
set_option maxRecDepth 100000
open Go.Shelf
set_option maxHeartbeats 1000000
def Wrote (B b : Nat) (l : List UInt8) (w : World) (e : Ending) (w' : World) : Prop := (∃ v, e = .returned v) ∧ Bld B b l w' ∧ Below B w w'
theorem strCells_bytes (s : ByteArray) : Lib.strCells s = Lib.byteCells s.data.toList := by simp [Lib.strCells, Lib.byteCells]
theorem slice_of_row0 {w : World} {base : Nat} {e : TypeId} {size n : Nat} {v : Value} {xs : List Value} (h : w.ownsRow base e size v n xs) : ∃ A cap, v = .slice A n cap := by
  rcases h.2 with ⟨rfl, h0⟩ | ⟨g, cap, _, rfl, _⟩
  · exact ⟨none, 0, by rw [h0]⟩
  · exact ⟨_, _, rfl⟩
theorem WriteString_any (B b : Nat) (l : List UInt8) (s : ByteArray) (w : World) (h : Bld B b l w) (hlen : l.length ≤ 1048576) (hs : s.size ≤ 1048576) (hBw : B ≤ w.heap.size) :
    Calls Tryd.prog 18 #[.pointer (some ⟨b, 0, none⟩), .string s] w fun e w' => e = .returned (.tuple #[.int .i64 s.size, .nilIface]) ∧ Bld B b (l ++ s.data.toList) w' ∧ Below B w w' := by
  obtain ⟨i0, hi, hz0, hz1, hz2⟩ := info_parts byteInfo
  go_enter Tryd.func18, Tryd.ntmps18
  go_wp2_with fail
  refine (copyCheck_any B b l w h).mono ?_; rintro e w1 ⟨rfl, h1, hb1⟩
  obtain ⟨hB, v, hbk, hown, hne⟩ := h1
  have c0 : w1.cell? ⟨b, 0, none⟩ = some (.pointer (some ⟨b, 0, none⟩)) := by rw [Lib.cell_of_heap hbk]; rfl
  have c1 : w1.cell? ⟨b, 1, none⟩ = some v := by rw [Lib.cell_of_heap hbk]; rfl
  have hv : ∃ A cap, v = .slice A l.length cap := by
    rcases hown.2 with ⟨rfl, h0⟩ | ⟨g, cap, _, rfl, _⟩
    · exact ⟨none, 0, by rw [Lib.byteCells_length] at h0; rw [h0]⟩
    · exact ⟨_, cap, by rw [Lib.byteCells_length]⟩
  obtain ⟨A, cap, rfl⟩ := hv
  rw [Lib.byteCells_length] at hown
  have hs1 := hb1.size
  go_wp2_with (first | (at_builtin; refine Lib.wpList_append_own_string _ rfl (.tmp 12) (.tmp 13) 45 9 rfl B 5 i0 Tryd.underlying45 Tryd.underlying9 hi hz0 hz1 hz2 (.slice A l.length cap) l.length (Lib.byteCells l) rfl hown s rfl (by unfold maxLen; omega) (by omega) (by omega) ?_) | fail)
  intro v' w2 hown' hgrow _
  have hlt : b < w1.heap.size := (Array.getElem?_eq_some_iff.1 hbk).1
  have hb2 : w2.heap[b]? = some (.cells #[.pointer (some ⟨b, 0, none⟩), .slice A l.length cap] 47 (0, 0)) := by
    rw [hgrow.block b hlt (fun e => hne e.symm)]
    exact hbk
  have d0 : w2.cell? ⟨b, 0, none⟩ = some (.pointer (some ⟨b, 0, none⟩)) := by rw [Lib.cell_of_heap hb2]; rfl
  have d1 : w2.cell? ⟨b, 1, none⟩ = some (.slice A l.length cap) := by rw [Lib.cell_of_heap hb2]; rfl
  have f1 : w2.frozen? ⟨b, 1, none⟩ = false := Lib.frozen_of_heap hb2 1
  obtain ⟨A2, cap2, rfl⟩ := slice_of_row0 hown'
  have hBld : Bld B b (l ++ s.data.toList) (w2.setCell ⟨b, 1, none⟩ (.slice A2 (l.length + s.size) cap2)) := by
    have e1 : Lib.byteCells (l ++ s.data.toList) = Lib.byteCells l ++ Lib.strCells s := by simp [Lib.byteCells, Lib.strCells]
    refine .inr ?_
    rw [e1]
    exact Lib.BuilderAt.put (T := 47) (e := 5) hB hb2 (by simpa [Lib.byteCells_length, Lib.strCells_length] using hown') (by decide)
  have hbel : Below B w (w2.setCell ⟨b, 1, none⟩ (.slice A2 (l.length + s.size) cap2)) := (row_below0 hown hb1 (by omega) hgrow).setCell (p := ⟨b, 1, none⟩) hB _
  have HB := Lib.hid hBld
  have HL := Lib.hid hbel
  clear hBld hbel hown' hgrow hown hb1 hbk hb2 c0 c1 hne
  go_wp2
  go_returns
  exact ⟨rfl, HB.out, HL.out⟩
end Go.Proofs.YtlambflmabecfaaDoor
