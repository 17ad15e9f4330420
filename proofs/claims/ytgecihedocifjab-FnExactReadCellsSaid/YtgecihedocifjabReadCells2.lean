/- ReadCells, program and model: the whole functions. -/
import Derived.Test.YtgecihedocifjabReadCells
namespace Go.Proofs.Ytgecihedocifjab
open Go.ChangeShapes Go.WideShapes Go.ChangeAt Go.RowKit Go.Joins Go.Deep
set_option linter.unusedSimpArgs false
set_option linter.unusedVariables false
set_option maxRecDepth 100000
set_option maxHeartbeats 400000
def okT (s : ByteArray) : Bool := decide (s.size ≤ 90) && allB s
def readT (s : ByteArray) : List (Int × Int) := cellsOr (okT s) s.data.toList
theorem spec_ReadCells (s : ByteArray) (w : World) (hn : s.size ≤ 1048576) :
    Calls Try.prog 35 #[.string s] w fun e w' => ∃ A' cap', e = .returned (.tuple #[.slice A' (readT s).length cap', .bool (okT s)]) ∧ Own w' A' 25 (flat (readT s)) ∧ New w A' ∧ Below w.heap.size w w' := by
  by_cases h90 : s.size ≤ 90
  · have e : okT s = allB s := by unfold okT; rw [decide_eq_true h90, Bool.true_and]
    have hb : decide ((90 : Int) < (s.size : Int)) = false := by simp; omega
    unfold readT
    rw [e]
    clear e
    go_enter Try.func35, Try.ntmps35
    go_wp2_with fail
    refine (spec_paCells s _ hn).mono ?_; rintro e w1 ⟨A1, c1, rfl, o1, n1, b1⟩
    go_wp2
    go_returns
    exact ⟨A1, c1, rfl, o1, n1, b1⟩
  · have e : okT s = false := by unfold okT; rw [decide_eq_false h90, Bool.false_and]
    have hb : decide ((90 : Int) < (s.size : Int)) = true := by simp; omega
    unfold readT
    rw [e]
    clear e
    go_enter Try.func35, Try.ntmps35
    go_wp2
    go_returns
    exact ⟨none, 0, rfl, Own.none_, New.none_, by (repeat' (first | (with_reducible exact Below.refl _ _) | (with_reducible assumption) | (with_reducible refine Below.alloc ?_ ?_ _) | (with_reducible refine Below.setCell ?_ ?_ _) | (with_reducible refine Below.drew ?_) | (with_reducible refine below_drewN ?_ _) | (with_reducible refine Below.trans ?_ (Below.mono (by assumption) ?_)) | (with_reducible exact Nat.le_refl _) | (simp; done) | omega | (simp at *; omega)))⟩
theorem run_make_cells0 (n : Nat) (hn : n ≤ 1048576) (w : World) :
    (Instr.makeSlice 41 (.int .i64 0) (.int .i64 (n : Int))).run Try.prog w = .ok (.slice (some ⟨w.heap.size, 0, none⟩) 0 n) (w.alloc (.cells (zrow (2 * n)).toArray 25)) := by
  obtain ⟨i0, hi, hz0, hz1, hz2⟩ := info_parts cellInfo
  have h := run_make (P := Try.prog) w 41 25 i0 _ Try.underlying41 hi hz0 .i64 .i64 0 (n : Int) (by omega) (by omega) (by rw [hz2]; omega) (by omega)
  rw [hz1] at h
  simp only [Int.toNat_natCast] at h
  rw [h, made_cells]
  rfl
theorem row_iter {w : World} {base : Nat} {e : TypeId} {size n k : Nat} {v : Value} {xs : List Value} {s : ByteArray} {p : Nat} (h : w.ownsRow base e size v n xs) (hit : w.heap[k]? = some (.stringIter s p)) : v.ownBlock ≠ some k := by
  rcases h.2 with ⟨rfl, _⟩ | ⟨g, cap, cur, rfl, _, hh, _⟩
  · intro h; cases h
  · intro he
    have : g = k := by simpa [Value.ownBlock] using he
    subst this
    rw [hit] at hh
    cases hh
theorem row_iterAt {w : World} {base : Nat} {e : TypeId} {size n k : Nat} {v : Value} {xs : List Value} {s : ByteArray} {p : Nat} (h : w.ownsRow base e size v n xs) (hit : w.heap[k]? = some (.stringIter s p)) (p' : Nat) : (w.iterAt k s p').ownsRow base e size v n xs := by
  refine ⟨h.1, ?_⟩
  rcases h.2 with h2 | ⟨g, cap, cur, rfl, h2, hh, h3⟩
  · exact .inl h2
  · have hne : g ≠ k := fun e => by subst e; rw [hit] at hh; cases hh
    exact .inr ⟨g, cap, cur, rfl, h2, (Lib.iterAt_other w k g s p' hne).trans hh, h3⟩
theorem impl_ReadCells (s : ByteArray) (w : World) (hn : s.size ≤ 1048576) :
    Calls Try.prog 36 #[.string s] w fun e w' => ∃ A' cap', e = .returned (.tuple #[.slice A' (readT s).length cap', .bool (okT s)]) ∧ Own w' A' 25 (flat (readT s)) ∧ New w A' ∧ Below w.heap.size w w' := by
  by_cases h90 : s.size ≤ 90
  · have e : okT s = allB s := by unfold okT; rw [decide_eq_true h90, Bool.true_and]
    have hb : decide ((90 : Int) < (s.size : Int)) = false := by simp; omega
    have hmk := run_make_cells0 s.size hn
    obtain ⟨i0, hi, hz0, hz1, hz2⟩ := info_parts cellInfo
    unfold readT
    rw [e]
    clear e
    go_enter Try.func36, Try.ntmps36
    go_wp2
    go_loopw [4] (fun v wr => ∃ p : Nat, p ≤ s.size ∧ (s.data.toList.take p).all okB = true ∧ wr.ownsRow w.heap.size 25 2 v p (flat (cellsB (s.data.toList.take p))) ∧ wr.heap[w.heap.size + 1]? = some (.stringIter s p) ∧ Below w.heap.size w wr) (fun _ wr => s.size - wr.iterPos (w.heap.size + 1))
    case atStart =>
      refine ⟨0, Nat.zero_le _, rfl, ?_, ?_, ?_⟩
      · refine ⟨rfl, .inr ⟨w.heap.size, s.size, (zrow (2 * s.size)).toArray, rfl, Nat.le_refl _, ?_, Nat.zero_le _, by unfold maxLen; omega, by simp [zrow]; omega, by rw [Nat.zero_mul, List.take_zero]; rfl⟩⟩
        show ((w.alloc _).alloc _).heap[w.heap.size]? = _
        rw [Below.heap_alloc _ _ _ (by simp)]
        exact heap_alloc_new w _
      · have := World.iter_heap (w.alloc (.cells (zrow (2 * s.size)).toArray 25)) s 0
        simpa using this
      · exact ((Below.refl _ _).alloc (Nat.le_refl _) _).alloc (by simp) _
    case round =>
      obtain ⟨p, hp, hall, hown, hit, hb⟩ := hrel
      have hpos : wr.iterPos (w.heap.size + 1) = p := by simp [World.iterPos, hit]
      have hzi : w.heap.size + 1 < wr.heap.size := (Array.getElem?_eq_some_iff.1 hit).1
      by_cases hlt : p < s.size
      · have HC := Lib.hid (cells_step hlt)
        have HA := Lib.hid (all_step hlt hall)
        have HB := Lib.hid (all_bad hlt)
        by_cases h128 : (s[p]'hlt).toNat < 128
        · have hnx := fun ty => Lib.run_next_ascii_at (P := Try.prog) wr (w.heap.size + 1) s p ty hit hlt h128
          have own2 := row_iterAt hown hit (p + 1)
          have it2 := Lib.iterAt_heap wr (w.heap.size + 1) s p (p + 1) hit
          have b2 : Below w.heap.size w (wr.iterAt (w.heap.size + 1) s (p + 1)) := Lib.below_iterAt hb (by omega) s (p + 1)
          have sz2 := Lib.iterAt_size wr (w.heap.size + 1) s (p + 1)
          have HS := Lib.hid sz2
          have HP := Lib.hid hpos
          clear hown hall hb hit hpos sz2
          generalize wr.iterAt (w.heap.size + 1) s (p + 1) = wi at *
          have szi : w.heap.size + 1 < wi.heap.size := by have := HS.out; omega
          go_wp2_with fail
          refine (impl_cellWith _ _).mono ?_; rintro e w1 ⟨rfl, b1⟩
          have hb1 : Below w.heap.size w w1 := b2.trans (b1.mono (by omega))
          have own1 := row_keep own2 b1
          have it1 : w1.heap[w.heap.size + 1]? = some (.stringIter s (p + 1)) := (b1.block _ szi).trans it2
          have hs1 : w.heap.size + 1 < w1.heap.size := Nat.lt_of_lt_of_le szi b1.size
          clear b1 own2 it2 b2
          rcases Bool.eq_false_or_eq_true (okB (s[p]'hlt)) with ho | ho
          · have e1 : rrK ((s[p]'hlt).toNat : Int) = (cellB (s[p]'hlt)).1 := rfl
            have e2 : rrS ((s[p]'hlt).toNat : Int) = (cellB (s[p]'hlt)).2 := rfl
            have e3 : (rrC ((s[p]'hlt).toNat : Int)).isSome = true := ho
            have HO := Lib.hid ho
            rw [e1, e2, e3]
            clear e1 e2 e3 ho
            generalize (cellB (s[p]'hlt)).1 = x at *
            generalize (cellB (s[p]'hlt)).2 = y at *
            go_wp2_with (first | (at_builtin; refine wpList_append_own _ rfl (.tmp 27) (.tmp 29) 41 rfl w.heap.size 25 i0 _ 2 16 Try.underlying41 hi hz0 hz1 hz2 rfl (by omega) u4 p _ rfl ((own1.alloc _).alloc _) ⟨w1.heap.size + 1, 0, none⟩ 1 1 [.int .i64 x, .int .i64 y] rfl rfl two_cells2 two_one (by unfold maxLen; omega) (by omega) (by simp; omega) ?_; intro v3 w3 hown3 hg3 _) | fail)
            have hb3 : Below w.heap.size w w3 := row_below ((own1.alloc _).alloc _) ((hb1.alloc (by omega) _).alloc (by simp; omega) _) (by simp; omega) hg3
            have it3 : w3.heap[w.heap.size + 1]? = some (.stringIter s (p + 1)) := by
              refine (hg3.block _ (by simp; omega) (fun h => row_iter own1 it1 h.symm)).trans ?_
              rw [Below.heap_alloc _ _ _ (by simp; omega), Below.heap_alloc _ _ _ (by omega)]
              exact it1
            rw [← HC.out] at hown3
            refine ⟨⟨p + 1, by omega, HA.out HO.out, hown3, it3, hb3⟩, ?_⟩
            rw [show w3.iterPos (w.heap.size + 1) = p + 1 by simp [World.iterPos, it3], HP.out]
            omega
          · have e3 : (rrC ((s[p]'hlt).toNat : Int)).isSome = false := ho
            have HO := Lib.hid ho
            rw [e3]
            clear e3 ho
            go_wp2
            go_returns
            have HB' : allB s = false := HB.out HO.out
            refine ⟨none, 0, ret_eq ?_, ?_, New.none_, by (repeat' (first | (with_reducible exact Below.refl _ _) | (with_reducible assumption) | (with_reducible refine Below.alloc ?_ ?_ _) | (with_reducible refine Below.setCell ?_ ?_ _) | (with_reducible refine Below.drew ?_) | (with_reducible refine below_drewN ?_ _) | (with_reducible refine Below.trans ?_ (Below.mono (by assumption) ?_)) | (with_reducible exact Nat.le_refl _) | (simp; done) | omega | (simp at *; omega)))⟩
            · rw [HB']; rfl
            · rw [HB']; exact Own.none_
        · have hnx := fun ty => Lib.run_next_any_at (P := Try.prog) wr (w.heap.size + 1) s p ty hit hlt
          have hd := (decode_high s p hlt (by omega)).1
          have b2 : Below w.heap.size w (wr.iterAt (w.heap.size + 1) s (p + (Utf8.decode s p).2)) := Lib.below_iterAt hb (by omega) s _
          have sz2 := Lib.iterAt_size wr (w.heap.size + 1) s (p + (Utf8.decode s p).2)
          have HS := Lib.hid sz2
          have HB' := Lib.hid (show allB s = false from HB.out (okB_high (by omega)))
          clear hown hall hb hit hpos sz2
          generalize wr.iterAt (w.heap.size + 1) s (p + (Utf8.decode s p).2) = wi at *
          have szi : w.heap.size + 1 < wi.heap.size := by have := HS.out; omega
          generalize (Utf8.decode s p).1 = r at *
          go_wp2_with fail
          refine (impl_cellWith _ _).mono ?_; rintro e w1 ⟨rfl, b1⟩
          have e3 : (rrC (r : Int)).isSome = false := by rw [rr_high (by omega)]; rfl
          rw [e3]
          have hb1 : Below w.heap.size w w1 := b2.trans (b1.mono (by omega))
          have hs1 : w.heap.size + 1 < w1.heap.size := Nat.lt_of_lt_of_le szi b1.size
          clear b1 b2 e3
          go_wp2
          go_returns
          refine ⟨none, 0, ret_eq ?_, ?_, New.none_, by (repeat' (first | (with_reducible exact Below.refl _ _) | (with_reducible assumption) | (with_reducible refine Below.alloc ?_ ?_ _) | (with_reducible refine Below.setCell ?_ ?_ _) | (with_reducible refine Below.drew ?_) | (with_reducible refine below_drewN ?_ _) | (with_reducible refine Below.trans ?_ (Below.mono (by assumption) ?_)) | (with_reducible exact Nat.le_refl _) | (simp; done) | omega | (simp at *; omega)))⟩
          · rw [HB'.out]; rfl
          · rw [HB'.out]; exact Own.none_
      · have hnx := fun ty => Lib.run_next_end_at (P := Try.prog) wr (w.heap.size + 1) s p ty hit hlt
        obtain rfl : p = s.size := by omega
        have ht : s.data.toList.take s.size = s.data.toList := List.take_of_length_le (by simp)
        rw [ht] at hall hown
        have hv : ∃ A cap, u4 = .slice A s.size cap := by
          rcases hown.2 with ⟨rfl, h0⟩ | ⟨g, cap, _, rfl, _⟩
          · exact ⟨none, 0, by rw [h0]⟩
          · exact ⟨_, _, rfl⟩
        obtain ⟨A, cap, rfl⟩ := hv
        have ho := own_of_row hown
        have HA := Lib.hid (show allB s = true from hall)
        clear ht hown hall hit hpos
        go_wp2
        go_returns
        refine ⟨A, cap, ret_eq ?_, ?_, ho.2, hb⟩
        · rw [HA.out]; simp [cellsOr, cellsB]
        · rw [HA.out]; exact ho.1
  · have e : okT s = false := by unfold okT; rw [decide_eq_false h90, Bool.false_and]
    have hb : decide ((90 : Int) < (s.size : Int)) = true := by simp; omega
    unfold readT
    rw [e]
    clear e
    go_enter Try.func36, Try.ntmps36
    go_wp2
    go_returns
    exact ⟨none, 0, rfl, Own.none_, New.none_, by (repeat' (first | (with_reducible exact Below.refl _ _) | (with_reducible assumption) | (with_reducible refine Below.alloc ?_ ?_ _) | (with_reducible refine Below.setCell ?_ ?_ _) | (with_reducible refine Below.drew ?_) | (with_reducible refine below_drewN ?_ _) | (with_reducible refine Below.trans ?_ (Below.mono (by assumption) ?_)) | (with_reducible exact Nat.le_refl _) | (simp; done) | omega | (simp at *; omega)))⟩
end Go.Proofs.Ytgecihedocifjab
