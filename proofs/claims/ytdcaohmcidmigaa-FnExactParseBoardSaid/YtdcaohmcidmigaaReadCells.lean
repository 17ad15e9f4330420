/- ReadCells, program and model: a text read letter by letter. -/
import Derived.Lib.OthersKept
import Derived.Test.YtdcaohmcidmigaaReadCell
namespace Go.Proofs.Ytdcaohmcidmigaa
open Go.ChangeShapes Go.WideShapes Go.ChangeAt Go.RowKit Go.Joins Go.Deep
set_option linter.unusedSimpArgs false
set_option linter.unusedVariables false
set_option maxRecDepth 100000
set_option maxHeartbeats 400000
/-- A byte that is a letter; its cell. -/
def okB (b : UInt8) : Bool := (rrC (b.toNat : Int)).isSome
def cellB (b : UInt8) : Int × Int := (rrC (b.toNat : Int)).getD (0, 0)
def cellsB (l : List UInt8) : List (Int × Int) := l.map cellB
def cellsOr (ok : Bool) (l : List UInt8) : List (Int × Int) := if ok then cellsB l else []
theorem rr_high {r : Int} (h : 128 ≤ r) : rrC r = none := by
  unfold rrC
  rw [List.find?_eq_none]
  intro c hc hr
  have : ∀ c ∈ allTo 8, (letB c.1 c.2).toNat < 128 := by decide +kernel
  have h1 := this c hc
  simp only [isR, beq_iff_eq] at hr
  omega
theorem okB_high {b : UInt8} (h : 128 ≤ b.toNat) : okB b = false := by unfold okB; rw [rr_high (by omega)]; rfl
theorem bytes_at (s : ByteArray) (k : Nat) (h : k < s.size) : s.data.toList[k]? = some s[k] := by
  have : s.data.toList[k]? = s.data[k]? := by simp
  rw [this]
  exact Array.getElem?_eq_getElem (by simpa using h)
theorem all_step {s : ByteArray} {k : Nat} (h : k < s.size) (hk : (s.data.toList.take k).all okB = true) (hb : okB s[k] = true) : (s.data.toList.take (k + 1)).all okB = true := by
  have hl : k < s.data.toList.length := by simpa using h
  have e : s.data.toList[k] = s[k] := by
    have h1 := bytes_at s k h
    rw [List.getElem?_eq_getElem hl] at h1
    exact Option.some.inj h1
  rw [List.take_succ_eq_append_getElem hl, List.all_append, hk, e]
  simp [hb]
theorem all_bad {s : ByteArray} {k : Nat} (h : k < s.size) (hb : okB s[k] = false) : s.data.toList.all okB = false := by
  rw [List.all_eq_false]
  have h1 := bytes_at s k h
  exact ⟨s[k], List.mem_of_getElem? h1, by rw [hb]; simp⟩
theorem cells_step {s : ByteArray} {k : Nat} (h : k < s.size) : flat (cellsB (s.data.toList.take (k + 1))) = flat (cellsB (s.data.toList.take k)) ++ [.int .i64 (cellB s[k]).1, .int .i64 (cellB s[k]).2] := by
  have hl : k < s.data.toList.length := by simpa using h
  have e : s.data.toList[k] = s[k] := by
    have h1 := bytes_at s k h
    rw [List.getElem?_eq_getElem hl] at h1
    exact Option.some.inj h1
  rw [List.take_succ_eq_append_getElem hl, cellsB, List.map_append, flat_append, e]
  rfl
theorem take_len {s : ByteArray} {k : Nat} (h : k ≤ s.size) : (s.data.toList.take k).length = k := by
  rw [List.length_take]
  have : s.data.toList.length = s.size := by simp
  omega
theorem rd_piece {s : ByteArray} {k : Nat} (h : k < s.size) : rdC (s.extract k (k + 1)) = rrC (s[k].toNat : Int) := by
  have hsz : (s.extract k (k + 1)).size = 1 := by rw [ByteArray.size_extract]; omega
  have h0 : 0 < (s.extract k (k + 1)).size := by omega
  rw [rd_one hsz h0]
  congr 3
  simp [ByteArray.getElem_extract]
theorem two_cells2 {w : World} {x y : Value} {t : TypeId} {o : Obj} : ∀ j u, [x, y][j]? = some u → ((w.alloc o).alloc (.cells #[x, y] t)).cell? ((⟨w.heap.size + 1, 0, none⟩ : Addr).add j) = some u := by
  have := two_cells (w := w.alloc o) (x := x) (y := y) (t := t)
  simpa using this
/-- All bytes are letters. -/
def allB (s : ByteArray) : Bool := s.data.toList.all okB
theorem spec_paCellsN (s : ByteArray) (w : World) (hn : s.size ≤ 1048576) :
    Calls Try.prog 58 #[.string s] w fun e w' => ∃ A' cap', e = .returned (.tuple #[.slice A' (cellsOr (allB s) s.data.toList).length cap', .bool (allB s)]) ∧ Own w' A' 45 (flat (cellsOr (allB s) s.data.toList)) ∧ New w A' ∧ Below w.heap.size w w' ∧ (A' = none → cap' = 0) := by
  obtain ⟨i0, hi, hz0, hz1, hz2⟩ := info_parts cellInfo
  go_enter Try.func58, Try.ntmps58
  go_wp2
  go_loopw [4, 5] (fun v i wr => ∃ k : Nat, k ≤ s.size ∧ i = .int .i64 k ∧ (s.data.toList.take k).all okB = true ∧ wr.ownsRow w.heap.size 45 2 v k (flat (cellsB (s.data.toList.take k))) ∧ Below w.heap.size w wr) (fun _ i _ => s.size - (intOf i).toNat)
  case atStart => exact ⟨0, Nat.zero_le _, rfl, rfl, World.ownsRow_nil _ _ _ _, Below.refl _ _⟩
  case round =>
    obtain ⟨k, hk, rfl, hall, hown, hb⟩ := hrel
    by_cases hlt : k < s.size
    · have HP := Lib.hid (rd_piece hlt)
      have HC := Lib.hid (cells_step hlt)
      have HA := Lib.hid (all_step hlt hall)
      have HB := Lib.hid (all_bad hlt)
      have hs := hb.size
      clear hall
      go_wp2_with fail
      refine (spec_paRead _ _).mono ?_; rintro e w1 ⟨rfl, b1⟩
      have e1 : rdK (s.extract k (k + 1)) = (cellB s[k]).1 := by unfold rdK cellB; rw [HP.out]
      have e2 : rdS (s.extract k (k + 1)) = (cellB s[k]).2 := by unfold rdS cellB; rw [HP.out]
      have e3 : (rdC (s.extract k (k + 1))).isSome = okB s[k] := by unfold okB; rw [HP.out]
      rw [e1, e2, e3]
      have hb1 : Below w.heap.size w w1 := hb.trans (b1.mono hs)
      have hs1 := hb1.size
      have hown1 := row_keep hown b1
      clear e1 e2 e3 b1 hown hb
      rcases Bool.eq_false_or_eq_true (okB s[k]) with ho | ho
      · rw [ho]
        have HO := Lib.hid ho
        clear ho
        generalize (cellB s[k]).1 = x at *
        generalize (cellB s[k]).2 = y at *
        go_wp2_with (first | (at_builtin; refine wpList_append_own _ rfl (.tmp 25) (.tmp 27) 28 rfl w.heap.size 45 i0 _ 2 16 Try.underlying28 hi hz0 hz1 hz2 rfl (by omega) u4 k _ rfl ((hown1.alloc _).alloc _) ⟨w1.heap.size + 1, 0, none⟩ 1 1 [.int .i64 x, .int .i64 y] rfl rfl two_cells2 two_one (by unfold maxLen; omega) (by omega) (by simp; omega) ?_; intro v3 w3 hown3 hg3 _) | fail)
        have hb3 : Below w.heap.size w w3 := row_below ((hown1.alloc _).alloc _) ((hb1.alloc (by omega) _).alloc (by simp; omega) _) (by simp; omega) hg3
        rw [← HC.out] at hown3
        clear hg3 hown1 hb1
        go_roundw
        case rel => exact ⟨k + 1, by omega, by go_num, HA.out HO.out, hown3, hb3⟩
        case measure => simp [intOf]; omega
      · rw [ho]
        have HO := Lib.hid ho
        clear ho
        go_wp2
        go_returns
        have HB' : allB s = false := HB.out HO.out
        refine ⟨none, 0, ret_eq ?_, ?_, New.none_, by (repeat' (first | (with_reducible exact Below.refl _ _) | (with_reducible assumption) | (with_reducible refine Below.alloc ?_ ?_ _) | (with_reducible refine Below.setCell ?_ ?_ _) | (with_reducible refine Below.drew ?_) | (with_reducible refine below_drewN ?_ _) | (with_reducible refine Below.trans ?_ (Below.mono (by assumption) ?_)) | (with_reducible exact Nat.le_refl _) | (simp; done) | omega | (simp at *; omega))), fun _ => rfl⟩
        · rw [HB']; rfl
        · rw [HB']; exact Own.none_
    · obtain rfl : k = s.size := by omega
      have ht : s.data.toList.take s.size = s.data.toList := List.take_of_length_le (by simp)
      rw [ht] at hall hown
      have hv : ∃ A cap, u4 = .slice A s.size cap ∧ (A = none → cap = 0) := by
        rcases hown.2 with ⟨rfl, h0⟩ | ⟨g, cap, _, rfl, _⟩
        · exact ⟨none, 0, by rw [h0], fun _ => rfl⟩
        · exact ⟨_, _, rfl, fun h => by cases h⟩
      obtain ⟨A, cap, rfl, hAc⟩ := hv
      have ho := own_of_row hown
      have HA := Lib.hid (show allB s = true from hall)
      clear ht hown hall
      go_wp2
      go_returns
      refine ⟨A, cap, ret_eq ?_, ?_, ho.2, hb, hAc⟩
      · rw [HA.out]; simp [cellsOr, cellsB]
      · rw [HA.out]; exact ho.1
theorem spec_paCells (s : ByteArray) (w : World) (hn : s.size ≤ 1048576) :
    Calls Try.prog 58 #[.string s] w fun e w' => ∃ A' cap', e = .returned (.tuple #[.slice A' (cellsOr (allB s) s.data.toList).length cap', .bool (allB s)]) ∧ Own w' A' 45 (flat (cellsOr (allB s) s.data.toList)) ∧ New w A' ∧ Below w.heap.size w w' :=
  (spec_paCellsN s w hn).mono fun _ _ ⟨A, c, h1, h2, h3, h4, _⟩ => ⟨A, c, h1, h2, h3, h4⟩
end Go.Proofs.Ytdcaohmcidmigaa
