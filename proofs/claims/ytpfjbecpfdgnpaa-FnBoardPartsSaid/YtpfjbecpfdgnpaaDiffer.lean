/- DifferentCells, program and model. -/
import Derived.Test.YtpfjbecpfdgnpaaRows2
namespace Go.Proofs.Ytpfjbecpfdgnpaa
open Go.ChangeShapes Go.WideShapes Go.ChangeAt Go.RowKit Go.Joins Go.Deep
set_option linter.unusedSimpArgs false
set_option linter.unusedVariables false
set_option maxRecDepth 100000
set_option maxHeartbeats 1000000
theorem heldCell : Try.prog.stoodInHeld 27 = false := by kernel_rfl
theorem guardCell : Try.prog.eqGuardType Try.prog.depth 27 = false := by kernel_rfl
def diffTo (l m : List (Int × Int)) : Nat → List Int
  | 0 => []
  | k + 1 => if l.getD k (0, 0) = m.getD k (0, 0) then diffTo l m k else diffTo l m k ++ [(k : Int)]
theorem diffTo_le (l m : List (Int × Int)) (k : Nat) : (diffTo l m k).length ≤ k := by
  induction k with
  | zero => exact Nat.le_refl 0
  | succ k ih =>
    show (if l.getD k (0, 0) = m.getD k (0, 0) then diffTo l m k else diffTo l m k ++ [(k : Int)]).length ≤ k + 1
    split
    · omega
    · rw [List.length_append, List.length_singleton]; omega
def sameB (R C : Int) (l : List (Int × Int)) (R' C' : Int) (m : List (Int × Int)) : Bool := goodB R C l && goodB R' C' m && decide (R = R' ∧ C = C')
def diffB (R C : Int) (l : List (Int × Int)) (R' C' : Int) (m : List (Int × Int)) : List Int := if sameB R C l R' C' m then diffTo l m l.length else []
theorem diffB_len (R C : Int) (l : List (Int × Int)) (R' C' : Int) (m : List (Int × Int)) (h : l.length ≤ 1048576) : (diffB R C l R' C' m).length ≤ 1048576 := by
  unfold diffB
  have := diffTo_le l m l.length
  split
  · omega
  · simp
theorem getD_at {l : List (Int × Int)} {k : Nat} (h : k < l.length) : l.getD k (0, 0) = l[k] := by rw [List.getD_eq_getElem?_getD, List.getElem?_eq_getElem h]; rfl
theorem diffTo_no {l m : List (Int × Int)} {k : Nat} (h : k < l.length) (h' : k < m.length) (e : l[k].1 = m[k].1 ∧ l[k].2 = m[k].2) : diffTo l m (k + 1) = diffTo l m k := by
  show (if l.getD k (0, 0) = m.getD k (0, 0) then _ else _) = _
  rw [getD_at h, getD_at h', if_pos (Prod.ext e.1 e.2)]
theorem diffTo_yes {l m : List (Int × Int)} {k : Nat} (h : k < l.length) (h' : k < m.length) (e : ¬ (l[k].1 = m[k].1 ∧ l[k].2 = m[k].2)) : ints (diffTo l m (k + 1)) = ints (diffTo l m k) ++ [.int .i64 (k : Int)] ∧ (diffTo l m (k + 1)).length = (diffTo l m k).length + 1 := by
  have h2 : diffTo l m (k + 1) = diffTo l m k ++ [(k : Int)] := by
    show (if l.getD k (0, 0) = m.getD k (0, 0) then _ else _) = _
    rw [getD_at h, getD_at h', if_neg (fun x => e (by rw [x]; exact ⟨rfl, rfl⟩))]
  rw [h2]
  simp [ints]
theorem sameB_iff {R C : Int} {l : List (Int × Int)} {R' C' : Int} {m : List (Int × Int)} : sameB R C l R' C' m = true ↔ goodB R C l = true ∧ goodB R' C' m = true ∧ R = R' ∧ C = C' := by
  unfold sameB
  rw [Bool.and_eq_true, Bool.and_eq_true, decide_eq_true_eq, and_assoc]
theorem spec_boSize (R C : Int) (A : Option Addr) (cap : Nat) (l : List (Int × Int)) (R' C' : Int) (A' : Option Addr) (cap' : Nat) (m : List (Int × Int)) (w : World) (hn : l.length ≤ 1048576) (hr : Rd w w.heap.size A (flat l)) (hm : m.length ≤ 1048576) (hr' : Rd w w.heap.size A' (flat m)) :
    Calls Try.prog 86 #[.agg #[.int .i64 R, .int .i64 C, .slice A l.length cap], .agg #[.int .i64 R', .int .i64 C', .slice A' m.length cap']] w fun e w' => e = .returned (.bool (sameB R C l R' C' m)) ∧ Below w.heap.size w w' := by
  rcases Bool.eq_false_or_eq_true (goodB R C l) with hg | hg
  · have HG := Lib.hid hg
    rcases Bool.eq_false_or_eq_true (goodB R' C' m) with hg' | hg'
    · have HG' := Lib.hid hg'
      have e : sameB R C l R' C' m = (decide (R = R') && decide (C = C')) := by unfold sameB; rw [hg, hg', Bool.true_and, Bool.true_and, Bool.decide_and]
      rw [e]
      clear hg hg' e
      by_cases h1 : R = R'
      · subst h1
        by_cases h2 : C = C'
        · subst h2
          go_enter Try.func86, Try.ntmps86
          go_wp2_with fail
          refine (spec_boGood _ _ _ _ l _ hn ((hr.below (by (repeat' (first | (with_reducible exact Below.refl _ _) | (with_reducible assumption) | (with_reducible refine Below.alloc ?_ ?_ _) | (with_reducible refine Below.setCell ?_ ?_ _) | (with_reducible refine Below.drew ?_) | (with_reducible refine below_drewN ?_ _) | (with_reducible refine Below.trans ?_ (Below.mono (by assumption) ?_)) | (with_reducible exact Nat.le_refl _) | (simp; done) | omega | (simp at *; omega))) : Below w.heap.size w _)).mono (by go_size))).mono ?_; rintro e w1 ⟨rfl, b1⟩
          obtain ⟨c1, f1⟩ := bcell b1
          have z1 : w.heap.size + 1 < w1.heap.size := by have := b1.size; simp at this; omega
          have y1 : w.heap.size < w1.heap.size := by omega
          have B1 : Below w.heap.size w w1 := by (repeat' (first | (with_reducible exact Below.refl _ _) | (with_reducible assumption) | (with_reducible refine Below.alloc ?_ ?_ _) | (with_reducible refine Below.setCell ?_ ?_ _) | (with_reducible refine Below.drew ?_) | (with_reducible refine below_drewN ?_ _) | (with_reducible refine Below.trans ?_ (Below.mono (by assumption) ?_)) | (with_reducible exact Nat.le_refl _) | (simp; done) | omega | (simp at *; omega)))
          rw [HG.out]
          go_wp2_with fail
          refine (spec_boGood _ _ _ _ m _ hm ((hr'.below B1).mono B1.size)).mono ?_; rintro e w2 ⟨rfl, b2⟩
          obtain ⟨c2, f2⟩ := bcell b2
          have z2 : w.heap.size + 1 < w2.heap.size := by have := b2.size; omega
          have y2 : w.heap.size < w2.heap.size := by omega
          rw [HG'.out]
          go_wp2
          go_returns
          exact ⟨ret_bool (by first | rfl | (simp; done) | (simp [H1.out]; done) | (simp [H2.out]; done)), B1.trans (b2.mono B1.size)⟩
        · have h2b : (C == C') = false := by simpa using h2
          have H2 := Lib.hid h2
          clear h2
          go_enter Try.func86, Try.ntmps86
          go_wp2_with fail
          refine (spec_boGood _ _ _ _ l _ hn ((hr.below (by (repeat' (first | (with_reducible exact Below.refl _ _) | (with_reducible assumption) | (with_reducible refine Below.alloc ?_ ?_ _) | (with_reducible refine Below.setCell ?_ ?_ _) | (with_reducible refine Below.drew ?_) | (with_reducible refine below_drewN ?_ _) | (with_reducible refine Below.trans ?_ (Below.mono (by assumption) ?_)) | (with_reducible exact Nat.le_refl _) | (simp; done) | omega | (simp at *; omega))) : Below w.heap.size w _)).mono (by go_size))).mono ?_; rintro e w1 ⟨rfl, b1⟩
          obtain ⟨c1, f1⟩ := bcell b1
          have z1 : w.heap.size + 1 < w1.heap.size := by have := b1.size; simp at this; omega
          have y1 : w.heap.size < w1.heap.size := by omega
          have B1 : Below w.heap.size w w1 := by (repeat' (first | (with_reducible exact Below.refl _ _) | (with_reducible assumption) | (with_reducible refine Below.alloc ?_ ?_ _) | (with_reducible refine Below.setCell ?_ ?_ _) | (with_reducible refine Below.drew ?_) | (with_reducible refine below_drewN ?_ _) | (with_reducible refine Below.trans ?_ (Below.mono (by assumption) ?_)) | (with_reducible exact Nat.le_refl _) | (simp; done) | omega | (simp at *; omega)))
          rw [HG.out]
          go_wp2_with fail
          refine (spec_boGood _ _ _ _ m _ hm ((hr'.below B1).mono B1.size)).mono ?_; rintro e w2 ⟨rfl, b2⟩
          obtain ⟨c2, f2⟩ := bcell b2
          have z2 : w.heap.size + 1 < w2.heap.size := by have := b2.size; omega
          have y2 : w.heap.size < w2.heap.size := by omega
          rw [HG'.out]
          go_wp2
          go_returns
          exact ⟨ret_bool (by first | rfl | (simp; done) | (simp [H1.out]; done) | (simp [H2.out]; done)), B1.trans (b2.mono B1.size)⟩
      · have h1b : (R == R') = false := by simpa using h1
        have H1 := Lib.hid h1
        clear h1
        · skip
          go_enter Try.func86, Try.ntmps86
          go_wp2_with fail
          refine (spec_boGood _ _ _ _ l _ hn ((hr.below (by (repeat' (first | (with_reducible exact Below.refl _ _) | (with_reducible assumption) | (with_reducible refine Below.alloc ?_ ?_ _) | (with_reducible refine Below.setCell ?_ ?_ _) | (with_reducible refine Below.drew ?_) | (with_reducible refine below_drewN ?_ _) | (with_reducible refine Below.trans ?_ (Below.mono (by assumption) ?_)) | (with_reducible exact Nat.le_refl _) | (simp; done) | omega | (simp at *; omega))) : Below w.heap.size w _)).mono (by go_size))).mono ?_; rintro e w1 ⟨rfl, b1⟩
          obtain ⟨c1, f1⟩ := bcell b1
          have z1 : w.heap.size + 1 < w1.heap.size := by have := b1.size; simp at this; omega
          have y1 : w.heap.size < w1.heap.size := by omega
          have B1 : Below w.heap.size w w1 := by (repeat' (first | (with_reducible exact Below.refl _ _) | (with_reducible assumption) | (with_reducible refine Below.alloc ?_ ?_ _) | (with_reducible refine Below.setCell ?_ ?_ _) | (with_reducible refine Below.drew ?_) | (with_reducible refine below_drewN ?_ _) | (with_reducible refine Below.trans ?_ (Below.mono (by assumption) ?_)) | (with_reducible exact Nat.le_refl _) | (simp; done) | omega | (simp at *; omega)))
          rw [HG.out]
          go_wp2_with fail
          refine (spec_boGood _ _ _ _ m _ hm ((hr'.below B1).mono B1.size)).mono ?_; rintro e w2 ⟨rfl, b2⟩
          obtain ⟨c2, f2⟩ := bcell b2
          have z2 : w.heap.size + 1 < w2.heap.size := by have := b2.size; omega
          have y2 : w.heap.size < w2.heap.size := by omega
          rw [HG'.out]
          go_wp2
          go_returns
          exact ⟨ret_bool (by first | rfl | (simp; done) | (simp [H1.out]; done) | (simp [H2.out]; done)), B1.trans (b2.mono B1.size)⟩
    · have HG' := Lib.hid hg'
      have e : sameB R C l R' C' m = false := by unfold sameB; rw [hg', Bool.and_false, Bool.false_and]
      rw [e]
      clear hg hg' e
      go_enter Try.func86, Try.ntmps86
      go_wp2_with fail
      refine (spec_boGood _ _ _ _ l _ hn ((hr.below (by (repeat' (first | (with_reducible exact Below.refl _ _) | (with_reducible assumption) | (with_reducible refine Below.alloc ?_ ?_ _) | (with_reducible refine Below.setCell ?_ ?_ _) | (with_reducible refine Below.drew ?_) | (with_reducible refine below_drewN ?_ _) | (with_reducible refine Below.trans ?_ (Below.mono (by assumption) ?_)) | (with_reducible exact Nat.le_refl _) | (simp; done) | omega | (simp at *; omega))) : Below w.heap.size w _)).mono (by go_size))).mono ?_; rintro e w1 ⟨rfl, b1⟩
      obtain ⟨c1, f1⟩ := bcell b1
      have z1 : w.heap.size + 1 < w1.heap.size := by have := b1.size; simp at this; omega
      have y1 : w.heap.size < w1.heap.size := by omega
      have B1 : Below w.heap.size w w1 := by (repeat' (first | (with_reducible exact Below.refl _ _) | (with_reducible assumption) | (with_reducible refine Below.alloc ?_ ?_ _) | (with_reducible refine Below.setCell ?_ ?_ _) | (with_reducible refine Below.drew ?_) | (with_reducible refine below_drewN ?_ _) | (with_reducible refine Below.trans ?_ (Below.mono (by assumption) ?_)) | (with_reducible exact Nat.le_refl _) | (simp; done) | omega | (simp at *; omega)))
      rw [HG.out]
      go_wp2_with fail
      refine (spec_boGood _ _ _ _ m _ hm ((hr'.below B1).mono B1.size)).mono ?_; rintro e w2 ⟨rfl, b2⟩
      rw [HG'.out]
      go_wp2
      go_returns
      exact ⟨rfl, B1.trans (b2.mono B1.size)⟩
  · have HG := Lib.hid hg
    have e : sameB R C l R' C' m = false := by unfold sameB; rw [hg]; rfl
    rw [e]
    clear hg e
    go_enter Try.func86, Try.ntmps86
    go_wp2_with fail
    refine (spec_boGood _ _ _ _ l _ hn ((hr.below (by (repeat' (first | (with_reducible exact Below.refl _ _) | (with_reducible assumption) | (with_reducible refine Below.alloc ?_ ?_ _) | (with_reducible refine Below.setCell ?_ ?_ _) | (with_reducible refine Below.drew ?_) | (with_reducible refine below_drewN ?_ _) | (with_reducible refine Below.trans ?_ (Below.mono (by assumption) ?_)) | (with_reducible exact Nat.le_refl _) | (simp; done) | omega | (simp at *; omega))) : Below w.heap.size w _)).mono (by go_size))).mono ?_; rintro e w1 ⟨rfl, b1⟩
    rw [HG.out]
    go_wp2
    go_returns
    exact ⟨rfl, by (repeat' (first | (with_reducible exact Below.refl _ _) | (with_reducible assumption) | (with_reducible refine Below.alloc ?_ ?_ _) | (with_reducible refine Below.setCell ?_ ?_ _) | (with_reducible refine Below.drew ?_) | (with_reducible refine below_drewN ?_ _) | (with_reducible refine Below.trans ?_ (Below.mono (by assumption) ?_)) | (with_reducible exact Nat.le_refl _) | (simp; done) | omega | (simp at *; omega)))⟩
theorem spec_boDifferent (R C : Int) (A : Option Addr) (cap : Nat) (l : List (Int × Int)) (R' C' : Int) (A' : Option Addr) (cap' : Nat) (m : List (Int × Int)) (w : World) (hlm : l.length = m.length) (hn : l.length ≤ 1048576) (hr : Rd w w.heap.size A (flat l)) (hr' : Rd w w.heap.size A' (flat m)) :
    Calls Try.prog 87 #[.agg #[.int .i64 R, .int .i64 C, .slice A l.length cap], .agg #[.int .i64 R', .int .i64 C', .slice A' m.length cap']] w (PostI w (diffTo l m l.length)) := by
  obtain ⟨i0, hi, hz0, hz1, hz2⟩ := info_parts intInfo
  have HL := Lib.hid hlm
  clear hlm
  go_enter Try.func87, Try.ntmps87
  go_wp2
  go_loopw [5, 11] (fun v i wr => ∃ k : Nat, k ≤ l.length ∧ i = .int .i64 k ∧ wr.ownsRow w.heap.size 3 1 v (diffTo l m k).length (ints (diffTo l m k)) ∧ Whole wr (w.heap.size + 1) 25 [.int .i64 R', .int .i64 C', .slice A' m.length cap'] ∧ Below w.heap.size w wr) (fun _ i _ => l.length - (intOf i).toNat)
  case atStart =>
    refine ⟨0, Nat.zero_le _, rfl, World.ownsRow_nil _ _ _ _, ?_, by (repeat' (first | (with_reducible exact Below.refl _ _) | (with_reducible assumption) | (with_reducible refine Below.alloc ?_ ?_ _) | (with_reducible refine Below.setCell ?_ ?_ _) | (with_reducible refine Below.drew ?_) | (with_reducible refine below_drewN ?_ _) | (with_reducible refine Below.trans ?_ (Below.mono (by assumption) ?_)) | (with_reducible exact Nat.le_refl _) | (simp; done) | omega | (simp at *; omega)))⟩
    have h := heap_alloc_new (w.alloc (.cells #[.int .i64 R, .int .i64 C, .slice A l.length cap] 25)) (.cells #[.int .i64 R', .int .i64 C', .slice A' m.length cap'] 25)
    rw [World.size_alloc] at h
    exact h
  case round =>
      obtain ⟨k, hk, rfl, hown, hwh, hb⟩ := hrel
      by_cases hlt : k < l.length
      · have hltm : k < m.length := by have := HL.out; omega
        obtain ⟨b, o, rfl, hbl, hc⟩ := hr (by rw [flat_length]; omega)
        obtain ⟨b', o', rfl, hbl', hc'⟩ := hr' (by rw [flat_length]; omega)
        obtain ⟨hc0, hc1⟩ := cell_at2 hb hbl hc hlt
        obtain ⟨hd0, hd1⟩ := cell_at2 hb hbl' hc' hltm
        have hbox : wr.cell? ⟨w.heap.size + 1, 2, none⟩ = some (.slice (some ⟨b', o', none⟩) m.length cap') := (hwh.cell 2).trans rfl
        have hle := diffTo_le l m k
        have hs := hb.size
        have hzb := hwh.lt
        have hzb1 : b' < wr.heap.size := by omega
        have HY := Lib.hid (diffTo_yes hlt hltm)
        have HN := Lib.hid (diffTo_no hlt hltm)
        have hi0 : (0 : Int) ≤ (k : Int) := Int.natCast_nonneg _
        have hi1 : (k : Int) < (m.length : Int) := by omega
        clear hr hc hr' hc'
        generalize l[k].1 = x at *
        generalize l[k].2 = y at *
        generalize m[k].1 = x' at *
        generalize m[k].2 = y' at *
        have h0 := heldCell
        have h1 := guardCell
        by_cases hx : x = x'
        · subst hx
          by_cases hy : y = y'
          · subst hy
            have HX := Lib.hid (HN.out ⟨rfl, rfl⟩)
            go_wp2
            go_quiet (fail)
            go_wp2
            go_roundw
            case rel => exact ⟨k + 1, by omega, by go_num, by rw [HX.out]; exact row_keep hown (below_drewN ((Below.refl _ _).alloc (Nat.le_refl _) _) _), hwh.alloc _, by (repeat' (first | (with_reducible exact Below.refl _ _) | (with_reducible assumption) | (with_reducible refine Below.alloc ?_ ?_ _) | (with_reducible refine Below.setCell ?_ ?_ _) | (with_reducible refine Below.drew ?_) | (with_reducible refine below_drewN ?_ _) | (with_reducible refine Below.trans ?_ (Below.mono (by assumption) ?_)) | (with_reducible exact Nat.le_refl _) | (simp; done) | omega | (simp at *; omega)))⟩
            case measure => simp [intOf]; omega
          · have HX := Lib.hid (HY.out (fun h => hy h.2))
            go_wp2
            go_quiet (fail)
            have hbq : Below wr.heap.size wr ((wr.alloc (.cells #[.int .i64 x, .int .i64 y] 27)).drewN nq) := below_drewN ((Below.refl _ _).alloc (Nat.le_refl _) _) _
            have hown2 := row_keep hown hbq
            have hw2 := hwh.below hbq hwh.lt
            have hb2 := hb.trans (hbq.mono hs)
            have hs2 := hb2.size
            clear hbq hown hwh hb hc0 hc1 hd0 hd1 hbox
            generalize (wr.alloc (.cells #[.int .i64 x, .int .i64 y] 27)).drewN nq = wq at *
            go_wp2_with (first | (at_builtin; refine wpList_append_own _ rfl (.tmp 23) (.tmp 25) 35 rfl w.heap.size 3 i0 _ 1 8 Try.underlying35 hi hz0 hz1 hz2 rfl (by omega) _ (diffTo l m k).length (ints (diffTo l m k)) rfl (hown2.alloc _) ⟨wq.heap.size, 0, none⟩ 1 1 [.int .i64 (k : Int)] rfl rfl one_cellI one_oneI (by unfold maxLen; omega) (by omega) (by simp; omega) ?_; intro v3 w3 hown3 hg3 _) | fail)
            have hb3 : Below w.heap.size w w3 := row_below (hown2.alloc _) (hb2.alloc (by omega) _) (by simp; omega) hg3
            have hw3 := (hw2.alloc (.cells #[.int .i64 (k : Int)] 3)).grown hg3 (row_apart (hown2.alloc (.cells #[.int .i64 (k : Int)] 3)) (hw2.alloc (.cells #[.int .i64 (k : Int)] 3)) (by decide))
            rw [← HX.out.1, ← HX.out.2] at hown3
            go_roundw
            case rel => exact ⟨k + 1, by omega, by go_num, hown3, hw3, hb3⟩
            case measure => simp [intOf]; omega
        · have HX := Lib.hid (HY.out (fun h => hx h.1))
          · skip
            go_wp2
            go_quiet (fail)
            have hbq : Below wr.heap.size wr ((wr.alloc (.cells #[.int .i64 x, .int .i64 y] 27)).drewN nq) := below_drewN ((Below.refl _ _).alloc (Nat.le_refl _) _) _
            have hown2 := row_keep hown hbq
            have hw2 := hwh.below hbq hwh.lt
            have hb2 := hb.trans (hbq.mono hs)
            have hs2 := hb2.size
            clear hbq hown hwh hb hc0 hc1 hd0 hd1 hbox
            generalize (wr.alloc (.cells #[.int .i64 x, .int .i64 y] 27)).drewN nq = wq at *
            go_wp2_with (first | (at_builtin; refine wpList_append_own _ rfl (.tmp 23) (.tmp 25) 35 rfl w.heap.size 3 i0 _ 1 8 Try.underlying35 hi hz0 hz1 hz2 rfl (by omega) _ (diffTo l m k).length (ints (diffTo l m k)) rfl (hown2.alloc _) ⟨wq.heap.size, 0, none⟩ 1 1 [.int .i64 (k : Int)] rfl rfl one_cellI one_oneI (by unfold maxLen; omega) (by omega) (by simp; omega) ?_; intro v3 w3 hown3 hg3 _) | fail)
            have hb3 : Below w.heap.size w w3 := row_below (hown2.alloc _) (hb2.alloc (by omega) _) (by simp; omega) hg3
            have hw3 := (hw2.alloc (.cells #[.int .i64 (k : Int)] 3)).grown hg3 (row_apart (hown2.alloc (.cells #[.int .i64 (k : Int)] 3)) (hw2.alloc (.cells #[.int .i64 (k : Int)] 3)) (by decide))
            rw [← HX.out.1, ← HX.out.2] at hown3
            go_roundw
            case rel => exact ⟨k + 1, by omega, by go_num, hown3, hw3, hb3⟩
            case measure => simp [intOf]; omega
      · obtain rfl : k = l.length := by omega
        obtain ⟨A', cap', rfl⟩ := slice_of_row hown
        have ho := own_of_row hown
        go_wp2
        go_returns
        exact PostI.mk ho.1 ho.2 hb
theorem good_len {R C : Int} {l m : List (Int × Int)} (h : goodB R C l = true) (h' : goodB R C m = true) : l.length = m.length := by
  have h1 := (goodB_iff.1 h).2.1
  have h2 := (goodB_iff.1 h').2.1
  omega
theorem spec_DifferentCells (R C : Int) (A : Option Addr) (cap : Nat) (l : List (Int × Int)) (R' C' : Int) (A' : Option Addr) (cap' : Nat) (m : List (Int × Int)) (w : World) (hn : l.length ≤ 1048576) (hr : Rd w w.heap.size A (flat l)) (hm : m.length ≤ 1048576) (hr' : Rd w w.heap.size A' (flat m)) :
    Calls Try.prog 25 #[.agg #[.int .i64 R, .int .i64 C, .slice A l.length cap], .agg #[.int .i64 R', .int .i64 C', .slice A' m.length cap']] w (PostL w (diffB R C l R' C' m) (sameB R C l R' C' m)) := by
  unfold diffB
  rcases Bool.eq_false_or_eq_true (sameB R C l R' C' m) with hs | hs
  · obtain ⟨g1, g2, rfl, rfl⟩ := sameB_iff.1 hs
    have HL := Lib.hid (good_len g1 g2)
    have HS := Lib.hid hs
    rw [hs]
    clear hs g1 g2
    go_enter Try.func25, Try.ntmps25
    go_wp2_with fail
    refine (spec_boSize _ _ _ _ l _ _ _ _ m _ hn ((hr.below (by (repeat' (first | (with_reducible exact Below.refl _ _) | (with_reducible assumption) | (with_reducible refine Below.alloc ?_ ?_ _) | (with_reducible refine Below.setCell ?_ ?_ _) | (with_reducible refine Below.drew ?_) | (with_reducible refine below_drewN ?_ _) | (with_reducible refine Below.trans ?_ (Below.mono (by assumption) ?_)) | (with_reducible exact Nat.le_refl _) | (simp; done) | omega | (simp at *; omega))) : Below w.heap.size w _)).mono (by go_size)) hm ((hr'.below (by (repeat' (first | (with_reducible exact Below.refl _ _) | (with_reducible assumption) | (with_reducible refine Below.alloc ?_ ?_ _) | (with_reducible refine Below.setCell ?_ ?_ _) | (with_reducible refine Below.drew ?_) | (with_reducible refine below_drewN ?_ _) | (with_reducible refine Below.trans ?_ (Below.mono (by assumption) ?_)) | (with_reducible exact Nat.le_refl _) | (simp; done) | omega | (simp at *; omega))) : Below w.heap.size w _)).mono (by go_size))).mono ?_; rintro e w1 ⟨rfl, b1⟩
    obtain ⟨c1, f1⟩ := bcell b1
    have z1 : w.heap.size + 1 < w1.heap.size := by have := b1.size; simp at this; omega
    have y1 : w.heap.size < w1.heap.size := by omega
    have B1 : Below w.heap.size w w1 := by (repeat' (first | (with_reducible exact Below.refl _ _) | (with_reducible assumption) | (with_reducible refine Below.alloc ?_ ?_ _) | (with_reducible refine Below.setCell ?_ ?_ _) | (with_reducible refine Below.drew ?_) | (with_reducible refine below_drewN ?_ _) | (with_reducible refine Below.trans ?_ (Below.mono (by assumption) ?_)) | (with_reducible exact Nat.le_refl _) | (simp; done) | omega | (simp at *; omega)))
    rw [HS.out]
    go_wp2_with fail
    refine (spec_boDifferent _ _ _ _ l _ _ _ _ m _ HL.out hn ((hr.below B1).mono B1.size) ((hr'.below B1).mono B1.size)).mono ?_; rintro e w2 ⟨A3, cap3, rfl, o2, n2, b2⟩
    go_wp2
    go_returns
    exact PostL.mk o2 (n2.mono B1.size) (B1.trans (b2.mono B1.size))
  · have HS := Lib.hid hs
    rw [hs]
    clear hs
    go_enter Try.func25, Try.ntmps25
    go_wp2_with fail
    refine (spec_boSize _ _ _ _ l _ _ _ _ m _ hn ((hr.below (by (repeat' (first | (with_reducible exact Below.refl _ _) | (with_reducible assumption) | (with_reducible refine Below.alloc ?_ ?_ _) | (with_reducible refine Below.setCell ?_ ?_ _) | (with_reducible refine Below.drew ?_) | (with_reducible refine below_drewN ?_ _) | (with_reducible refine Below.trans ?_ (Below.mono (by assumption) ?_)) | (with_reducible exact Nat.le_refl _) | (simp; done) | omega | (simp at *; omega))) : Below w.heap.size w _)).mono (by go_size)) hm ((hr'.below (by (repeat' (first | (with_reducible exact Below.refl _ _) | (with_reducible assumption) | (with_reducible refine Below.alloc ?_ ?_ _) | (with_reducible refine Below.setCell ?_ ?_ _) | (with_reducible refine Below.drew ?_) | (with_reducible refine below_drewN ?_ _) | (with_reducible refine Below.trans ?_ (Below.mono (by assumption) ?_)) | (with_reducible exact Nat.le_refl _) | (simp; done) | omega | (simp at *; omega))) : Below w.heap.size w _)).mono (by go_size))).mono ?_; rintro e w1 ⟨rfl, b1⟩
    have B1 : Below w.heap.size w w1 := by (repeat' (first | (with_reducible exact Below.refl _ _) | (with_reducible assumption) | (with_reducible refine Below.alloc ?_ ?_ _) | (with_reducible refine Below.setCell ?_ ?_ _) | (with_reducible refine Below.drew ?_) | (with_reducible refine below_drewN ?_ _) | (with_reducible refine Below.trans ?_ (Below.mono (by assumption) ?_)) | (with_reducible exact Nat.le_refl _) | (simp; done) | omega | (simp at *; omega)))
    rw [HS.out]
    go_wp2
    go_returns
    exact PostL.none_ B1
theorem impl_DifferentCells (R C : Int) (A : Option Addr) (cap : Nat) (l : List (Int × Int)) (R' C' : Int) (A' : Option Addr) (cap' : Nat) (m : List (Int × Int)) (w : World) (hn : l.length ≤ 1048576) (hr : Rd w w.heap.size A (flat l)) (hm : m.length ≤ 1048576) (hr' : Rd w w.heap.size A' (flat m)) :
    Calls Try.prog 24 #[.agg #[.int .i64 R, .int .i64 C, .slice A l.length cap], .agg #[.int .i64 R', .int .i64 C', .slice A' m.length cap']] w (PostL w (diffB R C l R' C' m) (sameB R C l R' C' m)) := by
  unfold diffB
  rcases Bool.eq_false_or_eq_true (goodB R C l) with hg | hg
  · have HG := Lib.hid hg
    rcases Bool.eq_false_or_eq_true (goodB R' C' m) with hg' | hg'
    · have HG' := Lib.hid hg'
      by_cases h1 : R = R'
      · subst h1
        by_cases h2 : C = C'
        · subst h2
          have hs : sameB R C l R C m = true := sameB_iff.2 ⟨hg, hg', rfl, rfl⟩
          have HL := Lib.hid (good_len hg hg')
          rw [hs]
          clear hs hg hg'
          obtain ⟨i0, hi, hz0, hz1, hz2⟩ := info_parts intInfo
          go_enter Try.func24, Try.ntmps24
          go_wp2_with fail
          refine (impl_IsBoard _ _ _ _ l _ hn ((hr.below (by (repeat' (first | (with_reducible exact Below.refl _ _) | (with_reducible assumption) | (with_reducible refine Below.alloc ?_ ?_ _) | (with_reducible refine Below.setCell ?_ ?_ _) | (with_reducible refine Below.drew ?_) | (with_reducible refine below_drewN ?_ _) | (with_reducible refine Below.trans ?_ (Below.mono (by assumption) ?_)) | (with_reducible exact Nat.le_refl _) | (simp; done) | omega | (simp at *; omega))) : Below w.heap.size w _)).mono (by go_size))).mono ?_; rintro e w1 ⟨rfl, b1⟩
          obtain ⟨c1, f1⟩ := bcell b1
          have z1 : w.heap.size + 1 < w1.heap.size := by have := b1.size; simp at this; omega
          have y1 : w.heap.size < w1.heap.size := by omega
          have B1 : Below w.heap.size w w1 := by (repeat' (first | (with_reducible exact Below.refl _ _) | (with_reducible assumption) | (with_reducible refine Below.alloc ?_ ?_ _) | (with_reducible refine Below.setCell ?_ ?_ _) | (with_reducible refine Below.drew ?_) | (with_reducible refine below_drewN ?_ _) | (with_reducible refine Below.trans ?_ (Below.mono (by assumption) ?_)) | (with_reducible exact Nat.le_refl _) | (simp; done) | omega | (simp at *; omega)))
          rw [HG.out]
          have hwh0 : Whole ((w.alloc (.cells #[.int .i64 R, .int .i64 C, .slice A l.length cap] 25)).alloc (.cells #[.int .i64 R, .int .i64 C, .slice A' m.length cap'] 25)) (w.heap.size + 1) 25 [.int .i64 R, .int .i64 C, .slice A' m.length cap'] := by
            have h := heap_alloc_new (w.alloc (.cells #[.int .i64 R, .int .i64 C, .slice A l.length cap] 25)) (.cells #[.int .i64 R, .int .i64 C, .slice A' m.length cap'] 25)
            rw [World.size_alloc] at h
            exact h
          have hwh1 := hwh0.below b1 hwh0.lt
          clear hwh0 b1
          go_wp2_with fail
          refine (impl_IsBoard _ _ _ _ m _ hm ((hr'.below B1).mono B1.size)).mono ?_; rintro e w2 ⟨rfl, b2⟩
          obtain ⟨c2, f2⟩ := bcell b2
          have z2 : w.heap.size + 1 < w2.heap.size := by have := b2.size; omega
          have y2 : w.heap.size < w2.heap.size := by omega
          have B2 : Below w.heap.size w w2 := B1.trans (b2.mono B1.size)
          have hwh2 := hwh1.below b2 hwh1.lt
          rw [HG'.out]
          clear b2 hwh1
          go_wp2
          clear c1 f1 c2 f2
          go_loopw [6, 34] (fun v i wr => ∃ k : Nat, k ≤ l.length ∧ i = .int .i64 k ∧ wr.ownsRow w.heap.size 3 1 v (diffTo l m k).length (ints (diffTo l m k)) ∧ Whole wr (w.heap.size + 1) 25 [.int .i64 R, .int .i64 C, .slice A' m.length cap'] ∧ Below w.heap.size w wr) (fun _ i _ => l.length - (intOf i).toNat)
          case atStart => exact ⟨0, Nat.zero_le _, rfl, World.ownsRow_nil _ _ _ _, hwh2, B2⟩
          case round =>
            obtain ⟨k, hk, rfl, hown, hwh, hb⟩ := hrel
            by_cases hlt : k < l.length
            · have hltm : k < m.length := by have := HL.out; omega
              obtain ⟨b, o, rfl, hbl, hc⟩ := hr (by rw [flat_length]; omega)
              obtain ⟨b', o', rfl, hbl', hc'⟩ := hr' (by rw [flat_length]; omega)
              obtain ⟨hc0, hc1⟩ := cell_at2 hb hbl hc hlt
              obtain ⟨hd0, hd1⟩ := cell_at2 hb hbl' hc' hltm
              have hbox : wr.cell? ⟨w.heap.size + 1, 2, none⟩ = some (.slice (some ⟨b', o', none⟩) m.length cap') := (hwh.cell 2).trans rfl
              have hle := diffTo_le l m k
              have hs := hb.size
              have hzb := hwh.lt
              have hzb1 : b' < wr.heap.size := by omega
              have HY := Lib.hid (diffTo_yes hlt hltm)
              have HN := Lib.hid (diffTo_no hlt hltm)
              have hi0 : (0 : Int) ≤ (k : Int) := Int.natCast_nonneg _
              have hi1 : (k : Int) < (m.length : Int) := by omega
              clear hr hc hr' hc'
              generalize l[k].1 = x at *
              generalize l[k].2 = y at *
              generalize m[k].1 = x' at *
              generalize m[k].2 = y' at *
              have h0 := heldCell
              have h1 := guardCell
              by_cases hx : x = x'
              · subst hx
                by_cases hy : y = y'
                · subst hy
                  have HX := Lib.hid (HN.out ⟨rfl, rfl⟩)
                  go_wp2
                  go_quiet (fail)
                  go_wp2
                  go_roundw
                  case rel => exact ⟨k + 1, by omega, by go_num, by rw [HX.out]; exact row_keep hown (below_drewN ((Below.refl _ _).alloc (Nat.le_refl _) _) _), hwh.alloc _, by (repeat' (first | (with_reducible exact Below.refl _ _) | (with_reducible assumption) | (with_reducible refine Below.alloc ?_ ?_ _) | (with_reducible refine Below.setCell ?_ ?_ _) | (with_reducible refine Below.drew ?_) | (with_reducible refine below_drewN ?_ _) | (with_reducible refine Below.trans ?_ (Below.mono (by assumption) ?_)) | (with_reducible exact Nat.le_refl _) | (simp; done) | omega | (simp at *; omega)))⟩
                  case measure => simp [intOf]; omega
                · have HX := Lib.hid (HY.out (fun h => hy h.2))
                  go_wp2
                  go_quiet (fail)
                  have hbq : Below wr.heap.size wr ((wr.alloc (.cells #[.int .i64 x, .int .i64 y] 27)).drewN nq) := below_drewN ((Below.refl _ _).alloc (Nat.le_refl _) _) _
                  have hown2 := row_keep hown hbq
                  have hw2 := hwh.below hbq hwh.lt
                  have hb2 := hb.trans (hbq.mono hs)
                  have hs2 := hb2.size
                  clear hbq hown hwh hb hc0 hc1 hd0 hd1 hbox
                  generalize (wr.alloc (.cells #[.int .i64 x, .int .i64 y] 27)).drewN nq = wq at *
                  go_wp2_with (first | (at_builtin; refine wpList_append_own _ rfl (.tmp 46) (.tmp 48) 35 rfl w.heap.size 3 i0 _ 1 8 Try.underlying35 hi hz0 hz1 hz2 rfl (by omega) _ (diffTo l m k).length (ints (diffTo l m k)) rfl (hown2.alloc _) ⟨wq.heap.size, 0, none⟩ 1 1 [.int .i64 (k : Int)] rfl rfl one_cellI one_oneI (by unfold maxLen; omega) (by omega) (by simp; omega) ?_; intro v3 w3 hown3 hg3 _) | fail)
                  have hb3 : Below w.heap.size w w3 := row_below (hown2.alloc _) (hb2.alloc (by omega) _) (by simp; omega) hg3
                  have hw3 := (hw2.alloc (.cells #[.int .i64 (k : Int)] 3)).grown hg3 (row_apart (hown2.alloc (.cells #[.int .i64 (k : Int)] 3)) (hw2.alloc (.cells #[.int .i64 (k : Int)] 3)) (by decide))
                  rw [← HX.out.1, ← HX.out.2] at hown3
                  go_roundw
                  case rel => exact ⟨k + 1, by omega, by go_num, hown3, hw3, hb3⟩
                  case measure => simp [intOf]; omega
              · have HX := Lib.hid (HY.out (fun h => hx h.1))
                · skip
                  go_wp2
                  go_quiet (fail)
                  have hbq : Below wr.heap.size wr ((wr.alloc (.cells #[.int .i64 x, .int .i64 y] 27)).drewN nq) := below_drewN ((Below.refl _ _).alloc (Nat.le_refl _) _) _
                  have hown2 := row_keep hown hbq
                  have hw2 := hwh.below hbq hwh.lt
                  have hb2 := hb.trans (hbq.mono hs)
                  have hs2 := hb2.size
                  clear hbq hown hwh hb hc0 hc1 hd0 hd1 hbox
                  generalize (wr.alloc (.cells #[.int .i64 x, .int .i64 y] 27)).drewN nq = wq at *
                  go_wp2_with (first | (at_builtin; refine wpList_append_own _ rfl (.tmp 46) (.tmp 48) 35 rfl w.heap.size 3 i0 _ 1 8 Try.underlying35 hi hz0 hz1 hz2 rfl (by omega) _ (diffTo l m k).length (ints (diffTo l m k)) rfl (hown2.alloc _) ⟨wq.heap.size, 0, none⟩ 1 1 [.int .i64 (k : Int)] rfl rfl one_cellI one_oneI (by unfold maxLen; omega) (by omega) (by simp; omega) ?_; intro v3 w3 hown3 hg3 _) | fail)
                  have hb3 : Below w.heap.size w w3 := row_below (hown2.alloc _) (hb2.alloc (by omega) _) (by simp; omega) hg3
                  have hw3 := (hw2.alloc (.cells #[.int .i64 (k : Int)] 3)).grown hg3 (row_apart (hown2.alloc (.cells #[.int .i64 (k : Int)] 3)) (hw2.alloc (.cells #[.int .i64 (k : Int)] 3)) (by decide))
                  rw [← HX.out.1, ← HX.out.2] at hown3
                  go_roundw
                  case rel => exact ⟨k + 1, by omega, by go_num, hown3, hw3, hb3⟩
                  case measure => simp [intOf]; omega
            · obtain rfl : k = l.length := by omega
              obtain ⟨A5, cap5, rfl⟩ := slice_of_row hown
              have ho := own_of_row hown
              go_wp2
              go_returns
              exact PostL.mk ho.1 ho.2 hb
        · have hs : sameB R C l R C' m = false := by unfold sameB; rw [hg, hg']; simp [h2]
          rw [hs]
          have h2b : (C != C') = true := by simpa using h2
          clear hs hg hg' h2
          go_enter Try.func24, Try.ntmps24
          go_wp2_with fail
          refine (impl_IsBoard _ _ _ _ l _ hn ((hr.below (by (repeat' (first | (with_reducible exact Below.refl _ _) | (with_reducible assumption) | (with_reducible refine Below.alloc ?_ ?_ _) | (with_reducible refine Below.setCell ?_ ?_ _) | (with_reducible refine Below.drew ?_) | (with_reducible refine below_drewN ?_ _) | (with_reducible refine Below.trans ?_ (Below.mono (by assumption) ?_)) | (with_reducible exact Nat.le_refl _) | (simp; done) | omega | (simp at *; omega))) : Below w.heap.size w _)).mono (by go_size))).mono ?_; rintro e w1 ⟨rfl, b1⟩
          obtain ⟨c1, f1⟩ := bcell b1
          have z1 : w.heap.size + 1 < w1.heap.size := by have := b1.size; simp at this; omega
          have y1 : w.heap.size < w1.heap.size := by omega
          have B1 : Below w.heap.size w w1 := by (repeat' (first | (with_reducible exact Below.refl _ _) | (with_reducible assumption) | (with_reducible refine Below.alloc ?_ ?_ _) | (with_reducible refine Below.setCell ?_ ?_ _) | (with_reducible refine Below.drew ?_) | (with_reducible refine below_drewN ?_ _) | (with_reducible refine Below.trans ?_ (Below.mono (by assumption) ?_)) | (with_reducible exact Nat.le_refl _) | (simp; done) | omega | (simp at *; omega)))
          rw [HG.out]
          go_wp2_with fail
          refine (impl_IsBoard _ _ _ _ m _ hm ((hr'.below B1).mono B1.size)).mono ?_; rintro e w2 ⟨rfl, b2⟩
          obtain ⟨c2, f2⟩ := bcell b2
          have z2 : w.heap.size + 1 < w2.heap.size := by have := b2.size; omega
          have y2 : w.heap.size < w2.heap.size := by omega
          have B2 : Below w.heap.size w w2 := B1.trans (b2.mono B1.size)
          rw [HG'.out]
          go_wp2
          go_returns
          exact PostL.none_ B2
      · have hs : sameB R C l R' C' m = false := by unfold sameB; rw [hg, hg']; simp [h1]
        rw [hs]
        have h1b : (R != R') = true := by simpa using h1
        clear hs hg hg' h1
        · skip
          go_enter Try.func24, Try.ntmps24
          go_wp2_with fail
          refine (impl_IsBoard _ _ _ _ l _ hn ((hr.below (by (repeat' (first | (with_reducible exact Below.refl _ _) | (with_reducible assumption) | (with_reducible refine Below.alloc ?_ ?_ _) | (with_reducible refine Below.setCell ?_ ?_ _) | (with_reducible refine Below.drew ?_) | (with_reducible refine below_drewN ?_ _) | (with_reducible refine Below.trans ?_ (Below.mono (by assumption) ?_)) | (with_reducible exact Nat.le_refl _) | (simp; done) | omega | (simp at *; omega))) : Below w.heap.size w _)).mono (by go_size))).mono ?_; rintro e w1 ⟨rfl, b1⟩
          obtain ⟨c1, f1⟩ := bcell b1
          have z1 : w.heap.size + 1 < w1.heap.size := by have := b1.size; simp at this; omega
          have y1 : w.heap.size < w1.heap.size := by omega
          have B1 : Below w.heap.size w w1 := by (repeat' (first | (with_reducible exact Below.refl _ _) | (with_reducible assumption) | (with_reducible refine Below.alloc ?_ ?_ _) | (with_reducible refine Below.setCell ?_ ?_ _) | (with_reducible refine Below.drew ?_) | (with_reducible refine below_drewN ?_ _) | (with_reducible refine Below.trans ?_ (Below.mono (by assumption) ?_)) | (with_reducible exact Nat.le_refl _) | (simp; done) | omega | (simp at *; omega)))
          rw [HG.out]
          go_wp2_with fail
          refine (impl_IsBoard _ _ _ _ m _ hm ((hr'.below B1).mono B1.size)).mono ?_; rintro e w2 ⟨rfl, b2⟩
          obtain ⟨c2, f2⟩ := bcell b2
          have z2 : w.heap.size + 1 < w2.heap.size := by have := b2.size; omega
          have y2 : w.heap.size < w2.heap.size := by omega
          have B2 : Below w.heap.size w w2 := B1.trans (b2.mono B1.size)
          rw [HG'.out]
          go_wp2
          go_returns
          exact PostL.none_ B2
    · have HG' := Lib.hid hg'
      have hs : sameB R C l R' C' m = false := by unfold sameB; rw [hg', Bool.and_false, Bool.false_and]
      rw [hs]
      clear hs hg hg'
      · skip
        · skip
          go_enter Try.func24, Try.ntmps24
          go_wp2_with fail
          refine (impl_IsBoard _ _ _ _ l _ hn ((hr.below (by (repeat' (first | (with_reducible exact Below.refl _ _) | (with_reducible assumption) | (with_reducible refine Below.alloc ?_ ?_ _) | (with_reducible refine Below.setCell ?_ ?_ _) | (with_reducible refine Below.drew ?_) | (with_reducible refine below_drewN ?_ _) | (with_reducible refine Below.trans ?_ (Below.mono (by assumption) ?_)) | (with_reducible exact Nat.le_refl _) | (simp; done) | omega | (simp at *; omega))) : Below w.heap.size w _)).mono (by go_size))).mono ?_; rintro e w1 ⟨rfl, b1⟩
          obtain ⟨c1, f1⟩ := bcell b1
          have z1 : w.heap.size + 1 < w1.heap.size := by have := b1.size; simp at this; omega
          have y1 : w.heap.size < w1.heap.size := by omega
          have B1 : Below w.heap.size w w1 := by (repeat' (first | (with_reducible exact Below.refl _ _) | (with_reducible assumption) | (with_reducible refine Below.alloc ?_ ?_ _) | (with_reducible refine Below.setCell ?_ ?_ _) | (with_reducible refine Below.drew ?_) | (with_reducible refine below_drewN ?_ _) | (with_reducible refine Below.trans ?_ (Below.mono (by assumption) ?_)) | (with_reducible exact Nat.le_refl _) | (simp; done) | omega | (simp at *; omega)))
          rw [HG.out]
          go_wp2_with fail
          refine (impl_IsBoard _ _ _ _ m _ hm ((hr'.below B1).mono B1.size)).mono ?_; rintro e w2 ⟨rfl, b2⟩
          have B2 : Below w.heap.size w w2 := B1.trans (b2.mono B1.size)
          rw [HG'.out]
          go_wp2
          go_returns
          exact PostL.none_ B2
  · have HG := Lib.hid hg
    have hs : sameB R C l R' C' m = false := by unfold sameB; rw [hg]; rfl
    rw [hs]
    clear hs hg
    · skip
      · skip
        · skip
          go_enter Try.func24, Try.ntmps24
          go_wp2_with fail
          refine (impl_IsBoard _ _ _ _ l _ hn ((hr.below (by (repeat' (first | (with_reducible exact Below.refl _ _) | (with_reducible assumption) | (with_reducible refine Below.alloc ?_ ?_ _) | (with_reducible refine Below.setCell ?_ ?_ _) | (with_reducible refine Below.drew ?_) | (with_reducible refine below_drewN ?_ _) | (with_reducible refine Below.trans ?_ (Below.mono (by assumption) ?_)) | (with_reducible exact Nat.le_refl _) | (simp; done) | omega | (simp at *; omega))) : Below w.heap.size w _)).mono (by go_size))).mono ?_; rintro e w1 ⟨rfl, b1⟩
          obtain ⟨c1, f1⟩ := bcell b1
          have z1 : w.heap.size + 1 < w1.heap.size := by have := b1.size; simp at this; omega
          have y1 : w.heap.size < w1.heap.size := by omega
          have B1 : Below w.heap.size w w1 := by (repeat' (first | (with_reducible exact Below.refl _ _) | (with_reducible assumption) | (with_reducible refine Below.alloc ?_ ?_ _) | (with_reducible refine Below.setCell ?_ ?_ _) | (with_reducible refine Below.drew ?_) | (with_reducible refine below_drewN ?_ _) | (with_reducible refine Below.trans ?_ (Below.mono (by assumption) ?_)) | (with_reducible exact Nat.le_refl _) | (simp; done) | omega | (simp at *; omega)))
          rw [HG.out]
          go_wp2
          go_returns
          exact PostL.none_ B1
end Go.Proofs.Ytpfjbecpfdgnpaa
