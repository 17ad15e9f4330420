/- Contracts of the program and of the model, walked, part 6 of 11. No condition but what each says. -/
import Derived.Test.YtpfjbecpfdgnpaaM1
import Derived.Test.YtpfjbecpfdgnpaaM5
import Derived.Test.YtpfjbecpfdgnpaaM4
import Derived.Test.YtpfjbecpfdgnpaaM2
import Derived.StillTailTactics
namespace Go.Proofs.Ytpfjbecpfdgnpaa
open Go.ChangeShapes Go.WideShapes Go.ChangeAt Go.RowKit Go.Joins Go.Deep
set_option linter.unusedSimpArgs false
set_option linter.unusedVariables false
set_option maxRecDepth 100000
set_option maxHeartbeats 1000000
theorem heldCell : Try.prog.stoodInHeld 27 = false := by kernel_rfl
theorem guardCell : Try.prog.eqGuardType Try.prog.depth 27 = false := by kernel_rfl
def diffTo (l m : List (Int × Int)) : Nat → List Int
  | 0 => []
  | k + 1 => if l.getD k (0, 0) = m.getD k (0, 0) then diffTo l m k else diffTo l m k ++ [(k : Int)]
theorem diffTo_le (l m : List (Int × Int)) (k : Nat) : (diffTo l m k).length ≤ k := by
  induction k with
  | zero => exact Nat.le_refl 0
  | succ k ih =>
    show (if l.getD k (0, 0) = m.getD k (0, 0) then diffTo l m k else diffTo l m k ++ [(k : Int)]).length ≤ k + 1
    split
    · omega
    · rw [List.length_append, List.length_singleton]; omega
def sameB (R C : Int) (l : List (Int × Int)) (R' C' : Int) (m : List (Int × Int)) : Bool := goodB R C l && goodB R' C' m && decide (R = R' ∧ C = C')
def diffB (R C : Int) (l : List (Int × Int)) (R' C' : Int) (m : List (Int × Int)) : List Int := if sameB R C l R' C' m then diffTo l m l.length else []
theorem diffB_len (R C : Int) (l : List (Int × Int)) (R' C' : Int) (m : List (Int × Int)) (h : l.length ≤ 1048576) : (diffB R C l R' C' m).length ≤ 1048576 := by
  unfold diffB
  have := diffTo_le l m l.length
  split
  · omega
  · simp
theorem getD_at {l : List (Int × Int)} {k : Nat} (h : k < l.length) : l.getD k (0, 0) = l[k] := by rw [List.getD_eq_getElem?_getD, List.getElem?_eq_getElem h]; rfl
theorem diffTo_no {l m : List (Int × Int)} {k : Nat} (h : k < l.length) (h' : k < m.length) (e : l[k].1 = m[k].1 ∧ l[k].2 = m[k].2) : diffTo l m (k + 1) = diffTo l m k := by
  show (if l.getD k (0, 0) = m.getD k (0, 0) then _ else _) = _
  rw [getD_at h, getD_at h', if_pos (Prod.ext e.1 e.2)]
theorem diffTo_yes {l m : List (Int × Int)} {k : Nat} (h : k < l.length) (h' : k < m.length) (e : ¬ (l[k].1 = m[k].1 ∧ l[k].2 = m[k].2)) : ints (diffTo l m (k + 1)) = ints (diffTo l m k) ++ [.int .i64 (k : Int)] ∧ (diffTo l m (k + 1)).length = (diffTo l m k).length + 1 := by
  have h2 : diffTo l m (k + 1) = diffTo l m k ++ [(k : Int)] := by
    show (if l.getD k (0, 0) = m.getD k (0, 0) then _ else _) = _
    rw [getD_at h, getD_at h', if_neg (fun x => e (by rw [x]; exact ⟨rfl, rfl⟩))]
  rw [h2]
  simp [ints]
theorem sameB_iff {R C : Int} {l : List (Int × Int)} {R' C' : Int} {m : List (Int × Int)} : sameB R C l R' C' m = true ↔ goodB R C l = true ∧ goodB R' C' m = true ∧ R = R' ∧ C = C' := by
  unfold sameB
  rw [Bool.and_eq_true, Bool.and_eq_true, decide_eq_true_eq, and_assoc]
theorem spec_boSize (R C : Int) (A : Option Addr) (cap : Nat) (l : List (Int × Int)) (R' C' : Int) (A' : Option Addr) (cap' : Nat) (m : List (Int × Int)) (w : World) (hn : l.length ≤ 1048576) (hr : Rd w w.heap.size A (flat l)) (hm : m.length ≤ 1048576) (hr' : Rd w w.heap.size A' (flat m)) :
    Calls Try.prog 86 #[.agg #[.int .i64 R, .int .i64 C, .slice A l.length cap], .agg #[.int .i64 R', .int .i64 C', .slice A' m.length cap']] w fun e w' => e = .returned (.bool (sameB R C l R' C' m)) ∧ Below w.heap.size w w' := by
  rcases Bool.eq_false_or_eq_true (goodB R C l) with hg | hg
  · have HG := Lib.hid hg
    rcases Bool.eq_false_or_eq_true (goodB R' C' m) with hg' | hg'
    · have HG' := Lib.hid hg'
      have e : sameB R C l R' C' m = (decide (R = R') && decide (C = C')) := by unfold sameB; rw [hg, hg', Bool.true_and, Bool.true_and, Bool.decide_and]
      rw [e]
      clear hg hg' e
      by_cases h1 : R = R'
      · subst h1
        by_cases h2 : C = C'
        · subst h2
          go_enter Try.func86, Try.ntmps86
          go_wp2_with fail
          refine (spec_boGood _ _ _ _ l _ hn ((hr.below (by (repeat' (first | (with_reducible exact Below.refl _ _) | (with_reducible assumption) | (with_reducible refine Below.alloc ?_ ?_ _) | (with_reducible refine Below.setCell ?_ ?_ _) | (with_reducible refine Below.drew ?_) | (with_reducible refine below_drewN ?_ _) | (with_reducible refine Below.trans ?_ (Below.mono (by assumption) ?_)) | (with_reducible exact Nat.le_refl _) | (simp; done) | omega | (simp at *; omega))) : Below w.heap.size w _)).mono (by go_size))).mono ?_; rintro e w1 ⟨rfl, b1⟩
          obtain ⟨c1, f1⟩ := bcell b1
          have z1 : w.heap.size + 1 < w1.heap.size := by have := b1.size; simp at this; omega
          have y1 : w.heap.size < w1.heap.size := by omega
          have B1 : Below w.heap.size w w1 := by (repeat' (first | (with_reducible exact Below.refl _ _) | (with_reducible assumption) | (with_reducible refine Below.alloc ?_ ?_ _) | (with_reducible refine Below.setCell ?_ ?_ _) | (with_reducible refine Below.drew ?_) | (with_reducible refine below_drewN ?_ _) | (with_reducible refine Below.trans ?_ (Below.mono (by assumption) ?_)) | (with_reducible exact Nat.le_refl _) | (simp; done) | omega | (simp at *; omega)))
          rw [HG.out]
          go_wp2_with fail
          refine (spec_boGood _ _ _ _ m _ hm ((hr'.below B1).mono B1.size)).mono ?_; rintro e w2 ⟨rfl, b2⟩
          obtain ⟨c2, f2⟩ := bcell b2
          have z2 : w.heap.size + 1 < w2.heap.size := by have := b2.size; omega
          have y2 : w.heap.size < w2.heap.size := by omega
          rw [HG'.out]
          go_wp2
          go_returns
          exact ⟨ret_bool (by first | rfl | (simp; done) | (simp [H1.out]; done) | (simp [H2.out]; done)), B1.trans (b2.mono B1.size)⟩
        · have h2b : (C == C') = false := by simpa using h2
          have H2 := Lib.hid h2
          clear h2
          go_enter Try.func86, Try.ntmps86
          go_wp2_with fail
          refine (spec_boGood _ _ _ _ l _ hn ((hr.below (by (repeat' (first | (with_reducible exact Below.refl _ _) | (with_reducible assumption) | (with_reducible refine Below.alloc ?_ ?_ _) | (with_reducible refine Below.setCell ?_ ?_ _) | (with_reducible refine Below.drew ?_) | (with_reducible refine below_drewN ?_ _) | (with_reducible refine Below.trans ?_ (Below.mono (by assumption) ?_)) | (with_reducible exact Nat.le_refl _) | (simp; done) | omega | (simp at *; omega))) : Below w.heap.size w _)).mono (by go_size))).mono ?_; rintro e w1 ⟨rfl, b1⟩
          obtain ⟨c1, f1⟩ := bcell b1
          have z1 : w.heap.size + 1 < w1.heap.size := by have := b1.size; simp at this; omega
          have y1 : w.heap.size < w1.heap.size := by omega
          have B1 : Below w.heap.size w w1 := by (repeat' (first | (with_reducible exact Below.refl _ _) | (with_reducible assumption) | (with_reducible refine Below.alloc ?_ ?_ _) | (with_reducible refine Below.setCell ?_ ?_ _) | (with_reducible refine Below.drew ?_) | (with_reducible refine below_drewN ?_ _) | (with_reducible refine Below.trans ?_ (Below.mono (by assumption) ?_)) | (with_reducible exact Nat.le_refl _) | (simp; done) | omega | (simp at *; omega)))
          rw [HG.out]
          go_wp2_with fail
          refine (spec_boGood _ _ _ _ m _ hm ((hr'.below B1).mono B1.size)).mono ?_; rintro e w2 ⟨rfl, b2⟩
          obtain ⟨c2, f2⟩ := bcell b2
          have z2 : w.heap.size + 1 < w2.heap.size := by have := b2.size; omega
          have y2 : w.heap.size < w2.heap.size := by omega
          rw [HG'.out]
          go_wp2
          go_returns
          exact ⟨ret_bool (by first | rfl | (simp; done) | (simp [H1.out]; done) | (simp [H2.out]; done)), B1.trans (b2.mono B1.size)⟩
      · have h1b : (R == R') = false := by simpa using h1
        have H1 := Lib.hid h1
        clear h1
        · skip
          go_enter Try.func86, Try.ntmps86
          go_wp2_with fail
          refine (spec_boGood _ _ _ _ l _ hn ((hr.below (by (repeat' (first | (with_reducible exact Below.refl _ _) | (with_reducible assumption) | (with_reducible refine Below.alloc ?_ ?_ _) | (with_reducible refine Below.setCell ?_ ?_ _) | (with_reducible refine Below.drew ?_) | (with_reducible refine below_drewN ?_ _) | (with_reducible refine Below.trans ?_ (Below.mono (by assumption) ?_)) | (with_reducible exact Nat.le_refl _) | (simp; done) | omega | (simp at *; omega))) : Below w.heap.size w _)).mono (by go_size))).mono ?_; rintro e w1 ⟨rfl, b1⟩
          obtain ⟨c1, f1⟩ := bcell b1
          have z1 : w.heap.size + 1 < w1.heap.size := by have := b1.size; simp at this; omega
          have y1 : w.heap.size < w1.heap.size := by omega
          have B1 : Below w.heap.size w w1 := by (repeat' (first | (with_reducible exact Below.refl _ _) | (with_reducible assumption) | (with_reducible refine Below.alloc ?_ ?_ _) | (with_reducible refine Below.setCell ?_ ?_ _) | (with_reducible refine Below.drew ?_) | (with_reducible refine below_drewN ?_ _) | (with_reducible refine Below.trans ?_ (Below.mono (by assumption) ?_)) | (with_reducible exact Nat.le_refl _) | (simp; done) | omega | (simp at *; omega)))
          rw [HG.out]
          go_wp2_with fail
          refine (spec_boGood _ _ _ _ m _ hm ((hr'.below B1).mono B1.size)).mono ?_; rintro e w2 ⟨rfl, b2⟩
          obtain ⟨c2, f2⟩ := bcell b2
          have z2 : w.heap.size + 1 < w2.heap.size := by have := b2.size; omega
          have y2 : w.heap.size < w2.heap.size := by omega
          rw [HG'.out]
          go_wp2
          go_returns
          exact ⟨ret_bool (by first | rfl | (simp; done) | (simp [H1.out]; done) | (simp [H2.out]; done)), B1.trans (b2.mono B1.size)⟩
    · have HG' := Lib.hid hg'
      have e : sameB R C l R' C' m = false := by unfold sameB; rw [hg', Bool.and_false, Bool.false_and]
      rw [e]
      clear hg hg' e
      go_enter Try.func86, Try.ntmps86
      go_wp2_with fail
      refine (spec_boGood _ _ _ _ l _ hn ((hr.below (by (repeat' (first | (with_reducible exact Below.refl _ _) | (with_reducible assumption) | (with_reducible refine Below.alloc ?_ ?_ _) | (with_reducible refine Below.setCell ?_ ?_ _) | (with_reducible refine Below.drew ?_) | (with_reducible refine below_drewN ?_ _) | (with_reducible refine Below.trans ?_ (Below.mono (by assumption) ?_)) | (with_reducible exact Nat.le_refl _) | (simp; done) | omega | (simp at *; omega))) : Below w.heap.size w _)).mono (by go_size))).mono ?_; rintro e w1 ⟨rfl, b1⟩
      obtain ⟨c1, f1⟩ := bcell b1
      have z1 : w.heap.size + 1 < w1.heap.size := by have := b1.size; simp at this; omega
      have y1 : w.heap.size < w1.heap.size := by omega
      have B1 : Below w.heap.size w w1 := by (repeat' (first | (with_reducible exact Below.refl _ _) | (with_reducible assumption) | (with_reducible refine Below.alloc ?_ ?_ _) | (with_reducible refine Below.setCell ?_ ?_ _) | (with_reducible refine Below.drew ?_) | (with_reducible refine below_drewN ?_ _) | (with_reducible refine Below.trans ?_ (Below.mono (by assumption) ?_)) | (with_reducible exact Nat.le_refl _) | (simp; done) | omega | (simp at *; omega)))
      rw [HG.out]
      go_wp2_with fail
      refine (spec_boGood _ _ _ _ m _ hm ((hr'.below B1).mono B1.size)).mono ?_; rintro e w2 ⟨rfl, b2⟩
      rw [HG'.out]
      go_wp2
      go_returns
      exact ⟨rfl, B1.trans (b2.mono B1.size)⟩
  · have HG := Lib.hid hg
    have e : sameB R C l R' C' m = false := by unfold sameB; rw [hg]; rfl
    rw [e]
    clear hg e
    go_enter Try.func86, Try.ntmps86
    go_wp2_with fail
    refine (spec_boGood _ _ _ _ l _ hn ((hr.below (by (repeat' (first | (with_reducible exact Below.refl _ _) | (with_reducible assumption) | (with_reducible refine Below.alloc ?_ ?_ _) | (with_reducible refine Below.setCell ?_ ?_ _) | (with_reducible refine Below.drew ?_) | (with_reducible refine below_drewN ?_ _) | (with_reducible refine Below.trans ?_ (Below.mono (by assumption) ?_)) | (with_reducible exact Nat.le_refl _) | (simp; done) | omega | (simp at *; omega))) : Below w.heap.size w _)).mono (by go_size))).mono ?_; rintro e w1 ⟨rfl, b1⟩
    rw [HG.out]
    go_wp2
    go_returns
    exact ⟨rfl, by (repeat' (first | (with_reducible exact Below.refl _ _) | (with_reducible assumption) | (with_reducible refine Below.alloc ?_ ?_ _) | (with_reducible refine Below.setCell ?_ ?_ _) | (with_reducible refine Below.drew ?_) | (with_reducible refine below_drewN ?_ _) | (with_reducible refine Below.trans ?_ (Below.mono (by assumption) ?_)) | (with_reducible exact Nat.le_refl _) | (simp; done) | omega | (simp at *; omega)))⟩
theorem spec_boDifferent (R C : Int) (A : Option Addr) (cap : Nat) (l : List (Int × Int)) (R' C' : Int) (A' : Option Addr) (cap' : Nat) (m : List (Int × Int)) (w : World) (hlm : l.length = m.length) (hn : l.length ≤ 1048576) (hr : Rd w w.heap.size A (flat l)) (hr' : Rd w w.heap.size A' (flat m)) :
    Calls Try.prog 87 #[.agg #[.int .i64 R, .int .i64 C, .slice A l.length cap], .agg #[.int .i64 R', .int .i64 C', .slice A' m.length cap']] w (PostI w (diffTo l m l.length)) := by
  obtain ⟨i0, hi, hz0, hz1, hz2⟩ := info_parts intInfo
  have HL := Lib.hid hlm
  clear hlm
  go_enter Try.func87, Try.ntmps87
  go_wp2
  go_loopw [5, 11] (fun v i wr => ∃ k : Nat, k ≤ l.length ∧ i = .int .i64 k ∧ wr.ownsRow w.heap.size 3 1 v (diffTo l m k).length (ints (diffTo l m k)) ∧ Whole wr (w.heap.size + 1) 25 [.int .i64 R', .int .i64 C', .slice A' m.length cap'] ∧ Below w.heap.size w wr) (fun _ i _ => l.length - (intOf i).toNat)
  case atStart =>
    refine ⟨0, Nat.zero_le _, rfl, World.ownsRow_nil _ _ _ _, ?_, by (repeat' (first | (with_reducible exact Below.refl _ _) | (with_reducible assumption) | (with_reducible refine Below.alloc ?_ ?_ _) | (with_reducible refine Below.setCell ?_ ?_ _) | (with_reducible refine Below.drew ?_) | (with_reducible refine below_drewN ?_ _) | (with_reducible refine Below.trans ?_ (Below.mono (by assumption) ?_)) | (with_reducible exact Nat.le_refl _) | (simp; done) | omega | (simp at *; omega)))⟩
    have h := heap_alloc_new (w.alloc (.cells #[.int .i64 R, .int .i64 C, .slice A l.length cap] 25)) (.cells #[.int .i64 R', .int .i64 C', .slice A' m.length cap'] 25)
    rw [World.size_alloc] at h
    exact h
  case round =>
      obtain ⟨k, hk, rfl, hown, hwh, hb⟩ := hrel
      by_cases hlt : k < l.length
      · have hltm : k < m.length := by have := HL.out; omega
        obtain ⟨b, o, rfl, hbl, hc⟩ := hr (by rw [flat_length]; omega)
        obtain ⟨b', o', rfl, hbl', hc'⟩ := hr' (by rw [flat_length]; omega)
        obtain ⟨hc0, hc1⟩ := cell_at2 hb hbl hc hlt
        obtain ⟨hd0, hd1⟩ := cell_at2 hb hbl' hc' hltm
        have hbox : wr.cell? ⟨w.heap.size + 1, 2, none⟩ = some (.slice (some ⟨b', o', none⟩) m.length cap') := (hwh.cell 2).trans rfl
        have hle := diffTo_le l m k
        have hs := hb.size
        have hzb := hwh.lt
        have hzb1 : b' < wr.heap.size := by omega
        have HY := Lib.hid (diffTo_yes hlt hltm)
        have HN := Lib.hid (diffTo_no hlt hltm)
        have hi0 : (0 : Int) ≤ (k : Int) := Int.natCast_nonneg _
        have hi1 : (k : Int) < (m.length : Int) := by omega
        clear hr hc hr' hc'
        generalize l[k].1 = x at *
        generalize l[k].2 = y at *
        generalize m[k].1 = x' at *
        generalize m[k].2 = y' at *
        have h0 := heldCell
        have h1 := guardCell
        by_cases hx : x = x'
        · subst hx
          by_cases hy : y = y'
          · subst hy
            have HX := Lib.hid (HN.out ⟨rfl, rfl⟩)
            go_wp2
            go_quiet (fail)
            go_wp2
            go_roundw
            case rel => exact ⟨k + 1, by omega, by go_num, by rw [HX.out]; exact row_keep hown (below_drewN ((Below.refl _ _).alloc (Nat.le_refl _) _) _), hwh.alloc _, by (repeat' (first | (with_reducible exact Below.refl _ _) | (with_reducible assumption) | (with_reducible refine Below.alloc ?_ ?_ _) | (with_reducible refine Below.setCell ?_ ?_ _) | (with_reducible refine Below.drew ?_) | (with_reducible refine below_drewN ?_ _) | (with_reducible refine Below.trans ?_ (Below.mono (by assumption) ?_)) | (with_reducible exact Nat.le_refl _) | (simp; done) | omega | (simp at *; omega)))⟩
            case measure => simp [intOf]; omega
          · have HX := Lib.hid (HY.out (fun h => hy h.2))
            go_wp2
            go_quiet (fail)
            have hbq : Below wr.heap.size wr ((wr.alloc (.cells #[.int .i64 x, .int .i64 y] 27)).drewN nq) := below_drewN ((Below.refl _ _).alloc (Nat.le_refl _) _) _
            have hown2 := row_keep hown hbq
            have hw2 := hwh.below hbq hwh.lt
            have hb2 := hb.trans (hbq.mono hs)
            have hs2 := hb2.size
            clear hbq hown hwh hb hc0 hc1 hd0 hd1 hbox
            generalize (wr.alloc (.cells #[.int .i64 x, .int .i64 y] 27)).drewN nq = wq at *
            go_wp2_with (first | (at_builtin; refine wpList_append_own _ rfl (.tmp 23) (.tmp 25) 35 rfl w.heap.size 3 i0 _ 1 8 Try.underlying35 hi hz0 hz1 hz2 rfl (by omega) _ (diffTo l m k).length (ints (diffTo l m k)) rfl (hown2.alloc _) ⟨wq.heap.size, 0, none⟩ 1 1 [.int .i64 (k : Int)] rfl rfl one_cellI one_oneI (by unfold maxLen; omega) (by omega) (by simp; omega) ?_; intro v3 w3 hown3 hg3 _) | fail)
            have hb3 : Below w.heap.size w w3 := row_below (hown2.alloc _) (hb2.alloc (by omega) _) (by simp; omega) hg3
            have hw3 := (hw2.alloc (.cells #[.int .i64 (k : Int)] 3)).grown hg3 (row_apart (hown2.alloc (.cells #[.int .i64 (k : Int)] 3)) (hw2.alloc (.cells #[.int .i64 (k : Int)] 3)) (by decide))
            rw [← HX.out.1, ← HX.out.2] at hown3
            go_roundw
            case rel => exact ⟨k + 1, by omega, by go_num, hown3, hw3, hb3⟩
            case measure => simp [intOf]; omega
        · have HX := Lib.hid (HY.out (fun h => hx h.1))
          · skip
            go_wp2
            go_quiet (fail)
            have hbq : Below wr.heap.size wr ((wr.alloc (.cells #[.int .i64 x, .int .i64 y] 27)).drewN nq) := below_drewN ((Below.refl _ _).alloc (Nat.le_refl _) _) _
            have hown2 := row_keep hown hbq
            have hw2 := hwh.below hbq hwh.lt
            have hb2 := hb.trans (hbq.mono hs)
            have hs2 := hb2.size
            clear hbq hown hwh hb hc0 hc1 hd0 hd1 hbox
            generalize (wr.alloc (.cells #[.int .i64 x, .int .i64 y] 27)).drewN nq = wq at *
            go_wp2_with (first | (at_builtin; refine wpList_append_own _ rfl (.tmp 23) (.tmp 25) 35 rfl w.heap.size 3 i0 _ 1 8 Try.underlying35 hi hz0 hz1 hz2 rfl (by omega) _ (diffTo l m k).length (ints (diffTo l m k)) rfl (hown2.alloc _) ⟨wq.heap.size, 0, none⟩ 1 1 [.int .i64 (k : Int)] rfl rfl one_cellI one_oneI (by unfold maxLen; omega) (by omega) (by simp; omega) ?_; intro v3 w3 hown3 hg3 _) | fail)
            have hb3 : Below w.heap.size w w3 := row_below (hown2.alloc _) (hb2.alloc (by omega) _) (by simp; omega) hg3
            have hw3 := (hw2.alloc (.cells #[.int .i64 (k : Int)] 3)).grown hg3 (row_apart (hown2.alloc (.cells #[.int .i64 (k : Int)] 3)) (hw2.alloc (.cells #[.int .i64 (k : Int)] 3)) (by decide))
            rw [← HX.out.1, ← HX.out.2] at hown3
            go_roundw
            case rel => exact ⟨k + 1, by omega, by go_num, hown3, hw3, hb3⟩
            case measure => simp [intOf]; omega
      · obtain rfl : k = l.length := by omega
        obtain ⟨A', cap', rfl⟩ := slice_of_row hown
        have ho := own_of_row hown
        go_wp2
        go_returns
        exact PostI.mk ho.1 ho.2 hb
theorem good_len {R C : Int} {l m : List (Int × Int)} (h : goodB R C l = true) (h' : goodB R C m = true) : l.length = m.length := by
  have h1 := (goodB_iff.1 h).2.1
  have h2 := (goodB_iff.1 h').2.1
  omega
theorem spec_DifferentCells (R C : Int) (A : Option Addr) (cap : Nat) (l : List (Int × Int)) (R' C' : Int) (A' : Option Addr) (cap' : Nat) (m : List (Int × Int)) (w : World) (hn : l.length ≤ 1048576) (hr : Rd w w.heap.size A (flat l)) (hm : m.length ≤ 1048576) (hr' : Rd w w.heap.size A' (flat m)) :
    Calls Try.prog 25 #[.agg #[.int .i64 R, .int .i64 C, .slice A l.length cap], .agg #[.int .i64 R', .int .i64 C', .slice A' m.length cap']] w (PostL w (diffB R C l R' C' m) (sameB R C l R' C' m)) := by
  unfold diffB
  rcases Bool.eq_false_or_eq_true (sameB R C l R' C' m) with hs | hs
  · obtain ⟨g1, g2, rfl, rfl⟩ := sameB_iff.1 hs
    have HL := Lib.hid (good_len g1 g2)
    have HS := Lib.hid hs
    rw [hs]
    clear hs g1 g2
    go_enter Try.func25, Try.ntmps25
    go_wp2_with fail
    refine (spec_boSize _ _ _ _ l _ _ _ _ m _ hn ((hr.below (by (repeat' (first | (with_reducible exact Below.refl _ _) | (with_reducible assumption) | (with_reducible refine Below.alloc ?_ ?_ _) | (with_reducible refine Below.setCell ?_ ?_ _) | (with_reducible refine Below.drew ?_) | (with_reducible refine below_drewN ?_ _) | (with_reducible refine Below.trans ?_ (Below.mono (by assumption) ?_)) | (with_reducible exact Nat.le_refl _) | (simp; done) | omega | (simp at *; omega))) : Below w.heap.size w _)).mono (by go_size)) hm ((hr'.below (by (repeat' (first | (with_reducible exact Below.refl _ _) | (with_reducible assumption) | (with_reducible refine Below.alloc ?_ ?_ _) | (with_reducible refine Below.setCell ?_ ?_ _) | (with_reducible refine Below.drew ?_) | (with_reducible refine below_drewN ?_ _) | (with_reducible refine Below.trans ?_ (Below.mono (by assumption) ?_)) | (with_reducible exact Nat.le_refl _) | (simp; done) | omega | (simp at *; omega))) : Below w.heap.size w _)).mono (by go_size))).mono ?_; rintro e w1 ⟨rfl, b1⟩
    obtain ⟨c1, f1⟩ := bcell b1
    have z1 : w.heap.size + 1 < w1.heap.size := by have := b1.size; simp at this; omega
    have y1 : w.heap.size < w1.heap.size := by omega
    have B1 : Below w.heap.size w w1 := by (repeat' (first | (with_reducible exact Below.refl _ _) | (with_reducible assumption) | (with_reducible refine Below.alloc ?_ ?_ _) | (with_reducible refine Below.setCell ?_ ?_ _) | (with_reducible refine Below.drew ?_) | (with_reducible refine below_drewN ?_ _) | (with_reducible refine Below.trans ?_ (Below.mono (by assumption) ?_)) | (with_reducible exact Nat.le_refl _) | (simp; done) | omega | (simp at *; omega)))
    rw [HS.out]
    go_wp2_with fail
    refine (spec_boDifferent _ _ _ _ l _ _ _ _ m _ HL.out hn ((hr.below B1).mono B1.size) ((hr'.below B1).mono B1.size)).mono ?_; rintro e w2 ⟨A3, cap3, rfl, o2, n2, b2⟩
    go_wp2
    go_returns
    exact PostL.mk o2 (n2.mono B1.size) (B1.trans (b2.mono B1.size))
  · have HS := Lib.hid hs
    rw [hs]
    clear hs
    go_enter Try.func25, Try.ntmps25
    go_wp2_with fail
    refine (spec_boSize _ _ _ _ l _ _ _ _ m _ hn ((hr.below (by (repeat' (first | (with_reducible exact Below.refl _ _) | (with_reducible assumption) | (with_reducible refine Below.alloc ?_ ?_ _) | (with_reducible refine Below.setCell ?_ ?_ _) | (with_reducible refine Below.drew ?_) | (with_reducible refine below_drewN ?_ _) | (with_reducible refine Below.trans ?_ (Below.mono (by assumption) ?_)) | (with_reducible exact Nat.le_refl _) | (simp; done) | omega | (simp at *; omega))) : Below w.heap.size w _)).mono (by go_size)) hm ((hr'.below (by (repeat' (first | (with_reducible exact Below.refl _ _) | (with_reducible assumption) | (with_reducible refine Below.alloc ?_ ?_ _) | (with_reducible refine Below.setCell ?_ ?_ _) | (with_reducible refine Below.drew ?_) | (with_reducible refine below_drewN ?_ _) | (with_reducible refine Below.trans ?_ (Below.mono (by assumption) ?_)) | (with_reducible exact Nat.le_refl _) | (simp; done) | omega | (simp at *; omega))) : Below w.heap.size w _)).mono (by go_size))).mono ?_; rintro e w1 ⟨rfl, b1⟩
    have B1 : Below w.heap.size w w1 := by (repeat' (first | (with_reducible exact Below.refl _ _) | (with_reducible assumption) | (with_reducible refine Below.alloc ?_ ?_ _) | (with_reducible refine Below.setCell ?_ ?_ _) | (with_reducible refine Below.drew ?_) | (with_reducible refine below_drewN ?_ _) | (with_reducible refine Below.trans ?_ (Below.mono (by assumption) ?_)) | (with_reducible exact Nat.le_refl _) | (simp; done) | omega | (simp at *; omega)))
    rw [HS.out]
    go_wp2
    go_returns
    exact PostL.none_ B1
theorem impl_DifferentCells (R C : Int) (A : Option Addr) (cap : Nat) (l : List (Int × Int)) (R' C' : Int) (A' : Option Addr) (cap' : Nat) (m : List (Int × Int)) (w : World) (hn : l.length ≤ 1048576) (hr : Rd w w.heap.size A (flat l)) (hm : m.length ≤ 1048576) (hr' : Rd w w.heap.size A' (flat m)) :
    Calls Try.prog 24 #[.agg #[.int .i64 R, .int .i64 C, .slice A l.length cap], .agg #[.int .i64 R', .int .i64 C', .slice A' m.length cap']] w (PostL w (diffB R C l R' C' m) (sameB R C l R' C' m)) := by
  unfold diffB
  rcases Bool.eq_false_or_eq_true (goodB R C l) with hg | hg
  · have HG := Lib.hid hg
    rcases Bool.eq_false_or_eq_true (goodB R' C' m) with hg' | hg'
    · have HG' := Lib.hid hg'
      by_cases h1 : R = R'
      · subst h1
        by_cases h2 : C = C'
        · subst h2
          have hs : sameB R C l R C m = true := sameB_iff.2 ⟨hg, hg', rfl, rfl⟩
          have HL := Lib.hid (good_len hg hg')
          rw [hs]
          clear hs hg hg'
          obtain ⟨i0, hi, hz0, hz1, hz2⟩ := info_parts intInfo
          go_enter Try.func24, Try.ntmps24
          go_wp2_with fail
          refine (impl_IsBoard _ _ _ _ l _ hn ((hr.below (by (repeat' (first | (with_reducible exact Below.refl _ _) | (with_reducible assumption) | (with_reducible refine Below.alloc ?_ ?_ _) | (with_reducible refine Below.setCell ?_ ?_ _) | (with_reducible refine Below.drew ?_) | (with_reducible refine below_drewN ?_ _) | (with_reducible refine Below.trans ?_ (Below.mono (by assumption) ?_)) | (with_reducible exact Nat.le_refl _) | (simp; done) | omega | (simp at *; omega))) : Below w.heap.size w _)).mono (by go_size))).mono ?_; rintro e w1 ⟨rfl, b1⟩
          obtain ⟨c1, f1⟩ := bcell b1
          have z1 : w.heap.size + 1 < w1.heap.size := by have := b1.size; simp at this; omega
          have y1 : w.heap.size < w1.heap.size := by omega
          have B1 : Below w.heap.size w w1 := by (repeat' (first | (with_reducible exact Below.refl _ _) | (with_reducible assumption) | (with_reducible refine Below.alloc ?_ ?_ _) | (with_reducible refine Below.setCell ?_ ?_ _) | (with_reducible refine Below.drew ?_) | (with_reducible refine below_drewN ?_ _) | (with_reducible refine Below.trans ?_ (Below.mono (by assumption) ?_)) | (with_reducible exact Nat.le_refl _) | (simp; done) | omega | (simp at *; omega)))
          rw [HG.out]
          have hwh0 : Whole ((w.alloc (.cells #[.int .i64 R, .int .i64 C, .slice A l.length cap] 25)).alloc (.cells #[.int .i64 R, .int .i64 C, .slice A' m.length cap'] 25)) (w.heap.size + 1) 25 [.int .i64 R, .int .i64 C, .slice A' m.length cap'] := by
            have h := heap_alloc_new (w.alloc (.cells #[.int .i64 R, .int .i64 C, .slice A l.length cap] 25)) (.cells #[.int .i64 R, .int .i64 C, .slice A' m.length cap'] 25)
            rw [World.size_alloc] at h
            exact h
          have hwh1 := hwh0.below b1 hwh0.lt
          clear hwh0 b1
          go_wp2_with fail
          refine (impl_IsBoard _ _ _ _ m _ hm ((hr'.below B1).mono B1.size)).mono ?_; rintro e w2 ⟨rfl, b2⟩
          obtain ⟨c2, f2⟩ := bcell b2
          have z2 : w.heap.size + 1 < w2.heap.size := by have := b2.size; omega
          have y2 : w.heap.size < w2.heap.size := by omega
          have B2 : Below w.heap.size w w2 := B1.trans (b2.mono B1.size)
          have hwh2 := hwh1.below b2 hwh1.lt
          rw [HG'.out]
          clear b2 hwh1
          go_wp2
          clear c1 f1 c2 f2
          go_loopw [6, 34] (fun v i wr => ∃ k : Nat, k ≤ l.length ∧ i = .int .i64 k ∧ wr.ownsRow w.heap.size 3 1 v (diffTo l m k).length (ints (diffTo l m k)) ∧ Whole wr (w.heap.size + 1) 25 [.int .i64 R, .int .i64 C, .slice A' m.length cap'] ∧ Below w.heap.size w wr) (fun _ i _ => l.length - (intOf i).toNat)
          case atStart => exact ⟨0, Nat.zero_le _, rfl, World.ownsRow_nil _ _ _ _, hwh2, B2⟩
          case round =>
            obtain ⟨k, hk, rfl, hown, hwh, hb⟩ := hrel
            by_cases hlt : k < l.length
            · have hltm : k < m.length := by have := HL.out; omega
              obtain ⟨b, o, rfl, hbl, hc⟩ := hr (by rw [flat_length]; omega)
              obtain ⟨b', o', rfl, hbl', hc'⟩ := hr' (by rw [flat_length]; omega)
              obtain ⟨hc0, hc1⟩ := cell_at2 hb hbl hc hlt
              obtain ⟨hd0, hd1⟩ := cell_at2 hb hbl' hc' hltm
              have hbox : wr.cell? ⟨w.heap.size + 1, 2, none⟩ = some (.slice (some ⟨b', o', none⟩) m.length cap') := (hwh.cell 2).trans rfl
              have hle := diffTo_le l m k
              have hs := hb.size
              have hzb := hwh.lt
              have hzb1 : b' < wr.heap.size := by omega
              have HY := Lib.hid (diffTo_yes hlt hltm)
              have HN := Lib.hid (diffTo_no hlt hltm)
              have hi0 : (0 : Int) ≤ (k : Int) := Int.natCast_nonneg _
              have hi1 : (k : Int) < (m.length : Int) := by omega
              clear hr hc hr' hc'
              generalize l[k].1 = x at *
              generalize l[k].2 = y at *
              generalize m[k].1 = x' at *
              generalize m[k].2 = y' at *
              have h0 := heldCell
              have h1 := guardCell
              by_cases hx : x = x'
              · subst hx
                by_cases hy : y = y'
                · subst hy
                  have HX := Lib.hid (HN.out ⟨rfl, rfl⟩)
                  go_wp2
                  go_quiet (fail)
                  go_wp2
                  go_roundw
                  case rel => exact ⟨k + 1, by omega, by go_num, by rw [HX.out]; exact row_keep hown (below_drewN ((Below.refl _ _).alloc (Nat.le_refl _) _) _), hwh.alloc _, by (repeat' (first | (with_reducible exact Below.refl _ _) | (with_reducible assumption) | (with_reducible refine Below.alloc ?_ ?_ _) | (with_reducible refine Below.setCell ?_ ?_ _) | (with_reducible refine Below.drew ?_) | (with_reducible refine below_drewN ?_ _) | (with_reducible refine Below.trans ?_ (Below.mono (by assumption) ?_)) | (with_reducible exact Nat.le_refl _) | (simp; done) | omega | (simp at *; omega)))⟩
                  case measure => simp [intOf]; omega
                · have HX := Lib.hid (HY.out (fun h => hy h.2))
                  go_wp2
                  go_quiet (fail)
                  have hbq : Below wr.heap.size wr ((wr.alloc (.cells #[.int .i64 x, .int .i64 y] 27)).drewN nq) := below_drewN ((Below.refl _ _).alloc (Nat.le_refl _) _) _
                  have hown2 := row_keep hown hbq
                  have hw2 := hwh.below hbq hwh.lt
                  have hb2 := hb.trans (hbq.mono hs)
                  have hs2 := hb2.size
                  clear hbq hown hwh hb hc0 hc1 hd0 hd1 hbox
                  generalize (wr.alloc (.cells #[.int .i64 x, .int .i64 y] 27)).drewN nq = wq at *
                  go_wp2_with (first | (at_builtin; refine wpList_append_own _ rfl (.tmp 46) (.tmp 48) 35 rfl w.heap.size 3 i0 _ 1 8 Try.underlying35 hi hz0 hz1 hz2 rfl (by omega) _ (diffTo l m k).length (ints (diffTo l m k)) rfl (hown2.alloc _) ⟨wq.heap.size, 0, none⟩ 1 1 [.int .i64 (k : Int)] rfl rfl one_cellI one_oneI (by unfold maxLen; omega) (by omega) (by simp; omega) ?_; intro v3 w3 hown3 hg3 _) | fail)
                  have hb3 : Below w.heap.size w w3 := row_below (hown2.alloc _) (hb2.alloc (by omega) _) (by simp; omega) hg3
                  have hw3 := (hw2.alloc (.cells #[.int .i64 (k : Int)] 3)).grown hg3 (row_apart (hown2.alloc (.cells #[.int .i64 (k : Int)] 3)) (hw2.alloc (.cells #[.int .i64 (k : Int)] 3)) (by decide))
                  rw [← HX.out.1, ← HX.out.2] at hown3
                  go_roundw
                  case rel => exact ⟨k + 1, by omega, by go_num, hown3, hw3, hb3⟩
                  case measure => simp [intOf]; omega
              · have HX := Lib.hid (HY.out (fun h => hx h.1))
                · skip
                  go_wp2
                  go_quiet (fail)
                  have hbq : Below wr.heap.size wr ((wr.alloc (.cells #[.int .i64 x, .int .i64 y] 27)).drewN nq) := below_drewN ((Below.refl _ _).alloc (Nat.le_refl _) _) _
                  have hown2 := row_keep hown hbq
                  have hw2 := hwh.below hbq hwh.lt
                  have hb2 := hb.trans (hbq.mono hs)
                  have hs2 := hb2.size
                  clear hbq hown hwh hb hc0 hc1 hd0 hd1 hbox
                  generalize (wr.alloc (.cells #[.int .i64 x, .int .i64 y] 27)).drewN nq = wq at *
                  go_wp2_with (first | (at_builtin; refine wpList_append_own _ rfl (.tmp 46) (.tmp 48) 35 rfl w.heap.size 3 i0 _ 1 8 Try.underlying35 hi hz0 hz1 hz2 rfl (by omega) _ (diffTo l m k).length (ints (diffTo l m k)) rfl (hown2.alloc _) ⟨wq.heap.size, 0, none⟩ 1 1 [.int .i64 (k : Int)] rfl rfl one_cellI one_oneI (by unfold maxLen; omega) (by omega) (by simp; omega) ?_; intro v3 w3 hown3 hg3 _) | fail)
                  have hb3 : Below w.heap.size w w3 := row_below (hown2.alloc _) (hb2.alloc (by omega) _) (by simp; omega) hg3
                  have hw3 := (hw2.alloc (.cells #[.int .i64 (k : Int)] 3)).grown hg3 (row_apart (hown2.alloc (.cells #[.int .i64 (k : Int)] 3)) (hw2.alloc (.cells #[.int .i64 (k : Int)] 3)) (by decide))
                  rw [← HX.out.1, ← HX.out.2] at hown3
                  go_roundw
                  case rel => exact ⟨k + 1, by omega, by go_num, hown3, hw3, hb3⟩
                  case measure => simp [intOf]; omega
            · obtain rfl : k = l.length := by omega
              obtain ⟨A5, cap5, rfl⟩ := slice_of_row hown
              have ho := own_of_row hown
              go_wp2
              go_returns
              exact PostL.mk ho.1 ho.2 hb
        · have hs : sameB R C l R C' m = false := by unfold sameB; rw [hg, hg']; simp [h2]
          rw [hs]
          have h2b : (C != C') = true := by simpa using h2
          clear hs hg hg' h2
          go_enter Try.func24, Try.ntmps24
          go_wp2_with fail
          refine (impl_IsBoard _ _ _ _ l _ hn ((hr.below (by (repeat' (first | (with_reducible exact Below.refl _ _) | (with_reducible assumption) | (with_reducible refine Below.alloc ?_ ?_ _) | (with_reducible refine Below.setCell ?_ ?_ _) | (with_reducible refine Below.drew ?_) | (with_reducible refine below_drewN ?_ _) | (with_reducible refine Below.trans ?_ (Below.mono (by assumption) ?_)) | (with_reducible exact Nat.le_refl _) | (simp; done) | omega | (simp at *; omega))) : Below w.heap.size w _)).mono (by go_size))).mono ?_; rintro e w1 ⟨rfl, b1⟩
          obtain ⟨c1, f1⟩ := bcell b1
          have z1 : w.heap.size + 1 < w1.heap.size := by have := b1.size; simp at this; omega
          have y1 : w.heap.size < w1.heap.size := by omega
          have B1 : Below w.heap.size w w1 := by (repeat' (first | (with_reducible exact Below.refl _ _) | (with_reducible assumption) | (with_reducible refine Below.alloc ?_ ?_ _) | (with_reducible refine Below.setCell ?_ ?_ _) | (with_reducible refine Below.drew ?_) | (with_reducible refine below_drewN ?_ _) | (with_reducible refine Below.trans ?_ (Below.mono (by assumption) ?_)) | (with_reducible exact Nat.le_refl _) | (simp; done) | omega | (simp at *; omega)))
          rw [HG.out]
          go_wp2_with fail
          refine (impl_IsBoard _ _ _ _ m _ hm ((hr'.below B1).mono B1.size)).mono ?_; rintro e w2 ⟨rfl, b2⟩
          obtain ⟨c2, f2⟩ := bcell b2
          have z2 : w.heap.size + 1 < w2.heap.size := by have := b2.size; omega
          have y2 : w.heap.size < w2.heap.size := by omega
          have B2 : Below w.heap.size w w2 := B1.trans (b2.mono B1.size)
          rw [HG'.out]
          go_wp2
          go_returns
          exact PostL.none_ B2
      · have hs : sameB R C l R' C' m = false := by unfold sameB; rw [hg, hg']; simp [h1]
        rw [hs]
        have h1b : (R != R') = true := by simpa using h1
        clear hs hg hg' h1
        · skip
          go_enter Try.func24, Try.ntmps24
          go_wp2_with fail
          refine (impl_IsBoard _ _ _ _ l _ hn ((hr.below (by (repeat' (first | (with_reducible exact Below.refl _ _) | (with_reducible assumption) | (with_reducible refine Below.alloc ?_ ?_ _) | (with_reducible refine Below.setCell ?_ ?_ _) | (with_reducible refine Below.drew ?_) | (with_reducible refine below_drewN ?_ _) | (with_reducible refine Below.trans ?_ (Below.mono (by assumption) ?_)) | (with_reducible exact Nat.le_refl _) | (simp; done) | omega | (simp at *; omega))) : Below w.heap.size w _)).mono (by go_size))).mono ?_; rintro e w1 ⟨rfl, b1⟩
          obtain ⟨c1, f1⟩ := bcell b1
          have z1 : w.heap.size + 1 < w1.heap.size := by have := b1.size; simp at this; omega
          have y1 : w.heap.size < w1.heap.size := by omega
          have B1 : Below w.heap.size w w1 := by (repeat' (first | (with_reducible exact Below.refl _ _) | (with_reducible assumption) | (with_reducible refine Below.alloc ?_ ?_ _) | (with_reducible refine Below.setCell ?_ ?_ _) | (with_reducible refine Below.drew ?_) | (with_reducible refine below_drewN ?_ _) | (with_reducible refine Below.trans ?_ (Below.mono (by assumption) ?_)) | (with_reducible exact Nat.le_refl _) | (simp; done) | omega | (simp at *; omega)))
          rw [HG.out]
          go_wp2_with fail
          refine (impl_IsBoard _ _ _ _ m _ hm ((hr'.below B1).mono B1.size)).mono ?_; rintro e w2 ⟨rfl, b2⟩
          obtain ⟨c2, f2⟩ := bcell b2
          have z2 : w.heap.size + 1 < w2.heap.size := by have := b2.size; omega
          have y2 : w.heap.size < w2.heap.size := by omega
          have B2 : Below w.heap.size w w2 := B1.trans (b2.mono B1.size)
          rw [HG'.out]
          go_wp2
          go_returns
          exact PostL.none_ B2
    · have HG' := Lib.hid hg'
      have hs : sameB R C l R' C' m = false := by unfold sameB; rw [hg', Bool.and_false, Bool.false_and]
      rw [hs]
      clear hs hg hg'
      · skip
        · skip
          go_enter Try.func24, Try.ntmps24
          go_wp2_with fail
          refine (impl_IsBoard _ _ _ _ l _ hn ((hr.below (by (repeat' (first | (with_reducible exact Below.refl _ _) | (with_reducible assumption) | (with_reducible refine Below.alloc ?_ ?_ _) | (with_reducible refine Below.setCell ?_ ?_ _) | (with_reducible refine Below.drew ?_) | (with_reducible refine below_drewN ?_ _) | (with_reducible refine Below.trans ?_ (Below.mono (by assumption) ?_)) | (with_reducible exact Nat.le_refl _) | (simp; done) | omega | (simp at *; omega))) : Below w.heap.size w _)).mono (by go_size))).mono ?_; rintro e w1 ⟨rfl, b1⟩
          obtain ⟨c1, f1⟩ := bcell b1
          have z1 : w.heap.size + 1 < w1.heap.size := by have := b1.size; simp at this; omega
          have y1 : w.heap.size < w1.heap.size := by omega
          have B1 : Below w.heap.size w w1 := by (repeat' (first | (with_reducible exact Below.refl _ _) | (with_reducible assumption) | (with_reducible refine Below.alloc ?_ ?_ _) | (with_reducible refine Below.setCell ?_ ?_ _) | (with_reducible refine Below.drew ?_) | (with_reducible refine below_drewN ?_ _) | (with_reducible refine Below.trans ?_ (Below.mono (by assumption) ?_)) | (with_reducible exact Nat.le_refl _) | (simp; done) | omega | (simp at *; omega)))
          rw [HG.out]
          go_wp2_with fail
          refine (impl_IsBoard _ _ _ _ m _ hm ((hr'.below B1).mono B1.size)).mono ?_; rintro e w2 ⟨rfl, b2⟩
          have B2 : Below w.heap.size w w2 := B1.trans (b2.mono B1.size)
          rw [HG'.out]
          go_wp2
          go_returns
          exact PostL.none_ B2
  · have HG := Lib.hid hg
    have hs : sameB R C l R' C' m = false := by unfold sameB; rw [hg]; rfl
    rw [hs]
    clear hs hg
    · skip
      · skip
        · skip
          go_enter Try.func24, Try.ntmps24
          go_wp2_with fail
          refine (impl_IsBoard _ _ _ _ l _ hn ((hr.below (by (repeat' (first | (with_reducible exact Below.refl _ _) | (with_reducible assumption) | (with_reducible refine Below.alloc ?_ ?_ _) | (with_reducible refine Below.setCell ?_ ?_ _) | (with_reducible refine Below.drew ?_) | (with_reducible refine below_drewN ?_ _) | (with_reducible refine Below.trans ?_ (Below.mono (by assumption) ?_)) | (with_reducible exact Nat.le_refl _) | (simp; done) | omega | (simp at *; omega))) : Below w.heap.size w _)).mono (by go_size))).mono ?_; rintro e w1 ⟨rfl, b1⟩
          obtain ⟨c1, f1⟩ := bcell b1
          have z1 : w.heap.size + 1 < w1.heap.size := by have := b1.size; simp at this; omega
          have y1 : w.heap.size < w1.heap.size := by omega
          have B1 : Below w.heap.size w w1 := by (repeat' (first | (with_reducible exact Below.refl _ _) | (with_reducible assumption) | (with_reducible refine Below.alloc ?_ ?_ _) | (with_reducible refine Below.setCell ?_ ?_ _) | (with_reducible refine Below.drew ?_) | (with_reducible refine below_drewN ?_ _) | (with_reducible refine Below.trans ?_ (Below.mono (by assumption) ?_)) | (with_reducible exact Nat.le_refl _) | (simp; done) | omega | (simp at *; omega)))
          rw [HG.out]
          go_wp2
          go_returns
          exact PostL.none_ B1
end Go.Proofs.Ytpfjbecpfdgnpaa
namespace Go.Proofs.Ytpfjbecpfdgnpaa
open Go.ChangeShapes Go.WideShapes Go.ChangeAt Go.RowKit Go.Joins Go.Deep
set_option linter.unusedSimpArgs false
set_option linter.unusedVariables false
set_option maxRecDepth 100000
set_option maxHeartbeats 4000000
def turnedL (R C : Int) (l : List (Int × Int)) (j : Int) : List Int := if okF R C l j then diffTo l (marO R C l j).cells l.length else []
theorem turnedL_len (R C : Int) (l : List (Int × Int)) (j : Int) (hn : l.length ≤ 1048576) : (turnedL R C l j).length ≤ 1048576 := by
  unfold turnedL
  have := diffTo_le l (marO R C l j).cells l.length
  split
  · omega
  · simp
end Go.Proofs.Ytpfjbecpfdgnpaa
namespace Go.Proofs.Ytpfjbecpfdgnpaa
open Go.ChangeShapes Go.WideShapes Go.ChangeAt Go.RowKit Go.Joins Go.Deep
set_option linter.unusedSimpArgs false
set_option linter.unusedVariables false
set_option maxRecDepth 100000
set_option maxHeartbeats 4000000
theorem marO_good {r c : Nat} {l : List (Int × Int)} {col : Nat} (hg : goodB (r : Int) (c : Int) l = true) (hcol : col < c) : goodB (r : Int) (c : Int) (marO (r : Int) (c : Int) l (col : Int)).cells = true := by
  obtain ⟨h1, h2, h3⟩ := goodB_iff.1 hg
  refine goodB_iff.2 ⟨h1, by rw [marO_len]; exact h2, ?_⟩
  have hl : l.length = r * c := by
    have e : (l.length : Int) = ((r * c : Nat) : Int) := by rw [h2]; push_cast; rfl
    omega
  exact flG_good _ r c r 0 l _ _ _ hl (by omega) hcol h3
end Go.Proofs.Ytpfjbecpfdgnpaa
namespace Go.Proofs.Ytpfjbecpfdgnpaa
open Go.ChangeShapes Go.WideShapes Go.ChangeAt Go.RowKit Go.Joins Go.Deep
set_option linter.unusedSimpArgs false
set_option linter.unusedVariables false
set_option maxRecDepth 100000
set_option maxHeartbeats 1000000
/-- A machine's state in a run: cells, marbles left, the next colour; colours and ends so far. -/
structure MSt where
  l : List (Int × Int)
  bl : Int
  rd : Int
  nx : Int
  cs : List Int
  fs : List (Int × Int × Int)
def inM (lo hi n : Int) : Bool := decide (lo ≤ n) && decide (n ≤ hi)
def okM (R C : Int) (l : List (Int × Int)) (p q bl rd nx : Int) : Bool := okF R C l p && okF R C l q && inM 0 30 bl && inM 0 30 rd && inM 0 2 nx
def canM (bl rd nx : Int) : Bool := decide (nx = 0 ∧ 0 < bl ∨ nx = 1 ∧ 0 < rd)
def colM (p q nx : Int) : Int := if nx = 0 then p else q
def nextM (C : Int) (F : FlR) : Int := if F.e = 1 then (if 2 * F.col < C then 0 else 1) else 2
def stepM (R C p q : Int) (s : MSt) : MSt :=
  ⟨(marO R C s.l (colM p q s.nx)).cells, if s.nx = 0 then s.bl - 1 else s.bl, if s.nx = 0 then s.rd else s.rd - 1, nextM C (marO R C s.l (colM p q s.nx)), s.cs ++ [s.nx],
    s.fs ++ [((marO R C s.l (colM p q s.nx)).e, (marO R C s.l (colM p q s.nx)).row, (marO R C s.l (colM p q s.nx)).col)]⟩
def runM (R C p q : Int) : Nat → MSt → MSt
  | 0, s => s
  | n + 1, s => if canM s.bl s.rd s.nx then runM R C p q n (stepM R C p q s) else s
theorem runM_stop {R C p q : Int} {n : Nat} {s : MSt} (h : canM s.bl s.rd s.nx = false) : runM R C p q n s = s := by
  cases n with
  | zero => rfl
  | succ n => rw [runM, h]; rfl
theorem runM_go {R C p q : Int} {n : Nat} {s : MSt} (h : canM s.bl s.rd s.nx = true) : runM R C p q (n + 1) s = runM R C p q n (stepM R C p q s) := by
  rw [runM, h]; rfl
theorem okM_parts {R C : Int} {l : List (Int × Int)} {p q bl rd nx : Int} (h : okM R C l p q bl rd nx = true) : okF R C l p = true ∧ okF R C l q = true ∧ 0 ≤ bl ∧ bl ≤ 30 ∧ 0 ≤ rd ∧ rd ≤ 30 ∧ 0 ≤ nx ∧ nx ≤ 2 := by
  unfold okM inM at h
  simp only [Bool.and_eq_true, decide_eq_true_eq] at h
  exact ⟨h.1.1.1.1, h.1.1.1.2, h.1.1.2.1, h.1.1.2.2, h.1.2.1, h.1.2.2, h.2.1, h.2.2⟩
theorem colM_or (p q nx : Int) : colM p q nx = p ∨ colM p q nx = q := by
  unfold colM
  split
  · exact .inl rfl
  · exact .inr rfl
theorem canM_iff {bl rd nx : Int} : canM bl rd nx = true ↔ (nx = 0 ∧ 0 < bl ∨ nx = 1 ∧ 0 < rd) := by
  unfold canM
  exact decide_eq_true_iff
/-- What stands in each state of a run. -/
structure MOk (R C p q : Int) (n : Nat) (s : MSt) : Prop where
  len : s.l.length = n
  good : goodB R C s.l = true
  bl0 : 0 ≤ s.bl
  bl1 : s.bl ≤ 30
  rd0 : 0 ≤ s.rd
  rd1 : s.rd ≤ 30
  nx0 : 0 ≤ s.nx
  nx1 : s.nx ≤ 2
  same : s.cs.length = s.fs.length
  few : s.fs.length + s.bl.toNat + s.rd.toNat ≤ 60
theorem nextM_range (C : Int) (F : FlR) : 0 ≤ nextM C F ∧ nextM C F ≤ 2 := by
  unfold nextM
  split
  · split <;> omega
  · omega
theorem MOk.step {r c : Nat} {p q : Int} {n : Nat} {s : MSt} (h : MOk (r : Int) (c : Int) p q n s) (hp : 0 ≤ p ∧ p < c) (hq : 0 ≤ q ∧ q < c) (hc : canM s.bl s.rd s.nx = true) : MOk (r : Int) (c : Int) p q n (stepM (r : Int) (c : Int) p q s) := by
  obtain ⟨col, hcol, hlt⟩ : ∃ k : Nat, colM p q s.nx = (k : Int) ∧ k < c := by
    rcases colM_or p q s.nx with e | e
    · exact ⟨p.toNat, by rw [e]; omega, by omega⟩
    · exact ⟨q.toNat, by rw [e]; omega, by omega⟩
  have hn := nextM_range (c : Int) (marO (r : Int) (c : Int) s.l (colM p q s.nx))
  have h1 := h.bl0
  have h2 := h.bl1
  have h3 := h.rd0
  have h4 := h.rd1
  have h5 := h.few
  rw [canM_iff] at hc
  refine ⟨?_, ?_, ?_, ?_, ?_, ?_, hn.1, hn.2, ?_, ?_⟩
  · show (marO (r : Int) (c : Int) s.l (colM p q s.nx)).cells.length = n
    rw [marO_len]
    exact h.len
  · show goodB (r : Int) (c : Int) (marO (r : Int) (c : Int) s.l (colM p q s.nx)).cells = true
    rw [hcol]
    exact marO_good h.good hlt
  · show 0 ≤ (if s.nx = 0 then s.bl - 1 else s.bl)
    split <;> omega
  · show (if s.nx = 0 then s.bl - 1 else s.bl) ≤ 30
    split <;> omega
  · show 0 ≤ (if s.nx = 0 then s.rd else s.rd - 1)
    split <;> omega
  · show (if s.nx = 0 then s.rd else s.rd - 1) ≤ 30
    split <;> omega
  · show (s.cs ++ [s.nx]).length = (s.fs ++ [_]).length
    rw [List.length_append, List.length_append, h.same]
    rfl
  · show (s.fs ++ [_]).length + (if s.nx = 0 then s.bl - 1 else s.bl).toNat + (if s.nx = 0 then s.rd else s.rd - 1).toNat ≤ 60
    rw [List.length_append, List.length_singleton]
    split <;> omega
theorem MOk.run {r c : Nat} {p q : Int} {m : Nat} (hp : 0 ≤ p ∧ p < c) (hq : 0 ≤ q ∧ q < c) : ∀ (n : Nat) (s : MSt), MOk (r : Int) (c : Int) p q m s → MOk (r : Int) (c : Int) p q m (runM (r : Int) (c : Int) p q n s)
  | 0, _, h => h
  | n + 1, s, h => by
    rcases Bool.eq_false_or_eq_true (canM s.bl s.rd s.nx) with hc | hc
    · rw [runM_go hc]
      exact MOk.run hp hq n _ (h.step hp hq hc)
    · rw [runM_stop hc]
      exact h
theorem MOk.start {R C : Int} {l : List (Int × Int)} {p q bl rd nx : Int} (h : okM R C l p q bl rd nx = true) : MOk R C p q l.length ⟨l, bl, rd, nx, [], []⟩ := by
  obtain ⟨h1, h2, h3, h4, h5, h6, h7, h8⟩ := okM_parts h
  exact ⟨rfl, (okF_parts h1).1, h3, h4, h5, h6, h7, h8, rfl, by show 0 + bl.toNat + rd.toNat ≤ 60; omega⟩
end Go.Proofs.Ytpfjbecpfdgnpaa
namespace Go.Proofs.Ytpfjbecpfdgnpaa
open Go.ChangeShapes Go.WideShapes Go.ChangeAt Go.RowKit Go.Joins Go.Deep
set_option linter.unusedSimpArgs false
set_option linter.unusedVariables false
set_option maxRecDepth 100000
set_option maxHeartbeats 1000000
def endV (f : Int × Int × Int) : Value := .iface (if f.1 = 1 then 139 else 156) (.agg #[.int .i64 f.1, .int .i64 f.2.1, .int .i64 f.2.2])
theorem endV_in {a b c : Int} (h : a = 1) : endV (a, b, c) = .iface 139 (.agg #[.int .i64 a, .int .i64 b, .int .i64 c]) := by
  unfold endV
  rw [if_pos h]
theorem endV_out {a b c : Int} (h : a ≠ 1) : endV (a, b, c) = .iface 156 (.agg #[.int .i64 a, .int .i64 b, .int .i64 c]) := by
  unfold endV
  rw [if_neg h]
def flatR (l : List (Int × Int × Int × Int)) : List Value := l.flatMap fun x => [.int .i64 x.1, endV x.2]
theorem flatR_len (l : List (Int × Int × Int × Int)) : (flatR l).length = 2 * l.length := by
  induction l with
  | nil => rfl
  | cons c l ih =>
    have h : (flatR (c :: l)).length = (flatR l).length + 1 + 1 := rfl
    rw [h, ih, List.length_cons]
    omega
theorem flatR_app (l m : List (Int × Int × Int × Int)) : flatR (l ++ m) = flatR l ++ flatR m := by simp [flatR]
theorem flatR_at (l : List (Int × Int × Int × Int)) (k : Nat) (h : k < l.length) : (flatR l)[k * 2]? = some (.int .i64 l[k].1) ∧ (flatR l)[k * 2 + 1]? = some (endV l[k].2) := by
  induction l generalizing k with
  | nil => simp at h
  | cons c l ih =>
    cases k with
    | zero => exact ⟨rfl, rfl⟩
    | succ k =>
      have := ih k (by simpa using h)
      have e1 : (flatR (c :: l))[(k + 1) * 2]? = (flatR l)[k * 2]? := by rw [show (k + 1) * 2 = k * 2 + 1 + 1 by omega]; rfl
      have e2 : (flatR (c :: l))[(k + 1) * 2 + 1]? = (flatR l)[k * 2 + 1]? := by rw [show (k + 1) * 2 + 1 = k * 2 + 1 + 1 + 1 by omega]; rfl
      rw [e1, e2]
      exact this
/-- The releases of a state. -/
def relS (s : MSt) : List (Int × Int × Int × Int) := s.cs.zip s.fs
theorem relS_len {s : MSt} (h : s.cs.length = s.fs.length) : (relS s).length = s.fs.length := by
  unfold relS
  rw [List.length_zip, h, Nat.min_self]
theorem relS_step (R C p q : Int) {s : MSt} (h : s.cs.length = s.fs.length) : relS (stepM R C p q s) = relS s ++ [(s.nx, (marO R C s.l (colM p q s.nx)).e, (marO R C s.l (colM p q s.nx)).row, (marO R C s.l (colM p q s.nx)).col)] := by
  unfold relS stepM
  rw [List.zip_append h]
  rfl
theorem relS_cs {s : MSt} (h : s.cs.length = s.fs.length) : (relS s).map (·.1) = s.cs := List.map_fst_zip (by omega)
theorem relS_fs {s : MSt} (h : s.cs.length = s.fs.length) : (relS s).map (·.2) = s.fs := List.map_snd_zip (by omega)
/-- Only the blocks g and k have turned, and what is new. -/
structure Gr2 (w w' : World) (g k : Nat) : Prop where
  os : w'.os = w.os
  tape : w'.tape = w.tape
  output : w'.output = w.output
  size : w.heap.size ≤ w'.heap.size
  block : ∀ i, i < w.heap.size → i ≠ g → i ≠ k → w'.heap[i]? = w.heap[i]?
theorem Gr2.refl (w : World) (g k : Nat) : Gr2 w w g k := ⟨rfl, rfl, rfl, Nat.le_refl _, fun _ _ _ _ => rfl⟩
theorem Gr2.trans {w v v' : World} {g k : Nat} (h : Gr2 w v g k) (h' : Gr2 v v' g k) : Gr2 w v' g k :=
  ⟨h'.os.trans h.os, h'.tape.trans h.tape, h'.output.trans h.output, Nat.le_trans h.size h'.size, fun i hi h1 h2 => (h'.block i (Nat.lt_of_lt_of_le hi h.size) h1 h2).trans (h.block i hi h1 h2)⟩
theorem Gr2.grown {w v v' : World} {g k : Nat} (h : Gr2 w v g k) (h' : v.grownBy v' (some k)) : Gr2 w v' g k :=
  h.trans ⟨h'.os, h'.tape, h'.output, h'.size, fun i hi _ h2 => h'.block i hi (fun e => h2 (by injection e))⟩
theorem Gr2.below {w v v' : World} {g k : Nat} (h : Gr2 w v g k) (b : Below v.heap.size v v') : Gr2 w v' g k :=
  h.grown (gb_below (gb_refl v k) b)
theorem Gr2.set {w v : World} {g k : Nat} (h : Gr2 w v g k) (j : Nat) (u : Value) : Gr2 w (v.setCell ⟨g, j, none⟩ u) g k :=
  h.trans ⟨rfl, rfl, rfl, by rw [World.size_setCell]; exact Nat.le_refl _, fun i hi h1 _ => Below.heap_setCell _ _ _ _ h1⟩
theorem Gr2.whole {w w' : World} {g k i : Nat} {t : TypeId} {xs : List Value} (h : Gr2 w w' g k) (X : Whole w i t xs) (h1 : i ≠ g) (h2 : i ≠ k) : Whole w' i t xs := (h.block i X.lt h1 h2).trans X
theorem Gr2.toBelow {w w' : World} {g k B : Nat} (h : Gr2 w w' g k) (hB : B ≤ w.heap.size) (h1 : B ≤ g) (h2 : B ≤ k) : Below B w w' := by
  exact ⟨h.os, h.tape, h.output, h.size, fun i hi => h.block i (by omega) (by omega) (by omega)⟩
theorem Gr2.row {w w' : World} {g k base size n : Nat} {e : TypeId} {v : Value} {xs : List Value} (h : Gr2 w w' g k) (hr : w.ownsRow base e size v n xs) (h1 : v.ownBlock ≠ some g) (h2 : v.ownBlock ≠ some k) : w'.ownsRow base e size v n xs := by
  refine ⟨hr.1, ?_⟩
  rcases hr.2 with h3 | ⟨j, cap, cur, rfl, h4, hh, h5⟩
  · exact .inl h3
  · refine .inr ⟨j, cap, cur, rfl, h4, ?_, h5⟩
    refine (h.block j ?_ (fun e' => h1 (by rw [e']; rfl)) (fun e' => h2 (by rw [e']; rfl))).trans hh
    exact Whole.lt hh
/-- Colours and ends of a run. -/
structure MOk2 (c : Nat) (s : MSt) : Prop where
  fs : ∀ f ∈ s.fs, okE c f
  cs : ∀ x ∈ s.cs, x = 0 ∨ x = 1
theorem MOk2.start (c : Nat) (l : List (Int × Int)) (bl rd nx : Int) : MOk2 c ⟨l, bl, rd, nx, [], []⟩ := ⟨fun _ h => absurd h (by simp), fun _ h => absurd h (by simp)⟩
theorem MOk2.step {r c : Nat} {p q : Int} {s : MSt} (h : MOk2 c s) (hp : 0 ≤ p ∧ p < c) (hq : 0 ≤ q ∧ q < c) (hc : canM s.bl s.rd s.nx = true) : MOk2 c (stepM (r : Int) (c : Int) p q s) := by
  obtain ⟨col, hcol, hlt⟩ : ∃ k : Nat, colM p q s.nx = (k : Int) ∧ k < c := by
    rcases colM_or p q s.nx with e | e
    · exact ⟨p.toNat, by rw [e]; omega, by omega⟩
    · exact ⟨q.toNat, by rw [e]; omega, by omega⟩
  rw [canM_iff] at hc
  refine ⟨fun f hf => ?_, fun x hx => ?_⟩
  · rcases List.mem_append.1 hf with h1 | h1
    · exact h.fs f h1
    · rw [List.mem_singleton.1 h1, hcol]
      exact flG_okE _ r c r 0 s.l col 0 [] hlt
  · rcases List.mem_append.1 hx with h1 | h1
    · exact h.cs x h1
    · rw [List.mem_singleton.1 h1]
      omega
theorem MOk2.run {r c : Nat} {p q : Int} (hp : 0 ≤ p ∧ p < c) (hq : 0 ≤ q ∧ q < c) : ∀ (n : Nat) (s : MSt), MOk2 c s → MOk2 c (runM (r : Int) (c : Int) p q n s)
  | 0, _, h => h
  | n + 1, s, h => by
    rcases Bool.eq_false_or_eq_true (canM s.bl s.rd s.nx) with hc | hc
    · rw [runM_go hc]
      exact MOk2.run hp hq n _ (h.step hp hq hc)
    · rw [runM_stop hc]
      exact h
theorem runM_more (R C p q : Int) : ∀ (n : Nat) (s : MSt), canM (runM R C p q n s).bl (runM R C p q n s).rd (runM R C p q n s).nx = false ∨ (runM R C p q n s).fs.length = s.fs.length + n
  | 0, s => .inr rfl
  | n + 1, s => by
    rcases Bool.eq_false_or_eq_true (canM s.bl s.rd s.nx) with hc | hc
    · rw [runM_go hc]
      rcases runM_more R C p q n (stepM R C p q s) with h | h
      · exact .inl h
      · refine .inr (h.trans ?_)
        show (s.fs ++ [_]).length + n = _
        rw [List.length_append, List.length_singleton]
        omega
    · rw [runM_stop hc]
      exact .inl hc
end Go.Proofs.Ytpfjbecpfdgnpaa
namespace Go.Proofs.Ytpfjbecpfdgnpaa
open Go.ChangeShapes Go.WideShapes Go.ChangeAt Go.RowKit Go.Joins Go.Deep
set_option linter.unusedSimpArgs false
set_option linter.unusedVariables false
set_option maxRecDepth 100000
set_option maxHeartbeats 2000000
theorem okM_ints {R C : Int} {l : List (Int × Int)} {p q bl rd nx : Int} (h : okM R C l p q bl rd nx = true) : ∃ r c : Nat, R = (r : Int) ∧ C = (c : Int) ∧ Geo r c l.length ∧ goodB (r : Int) (c : Int) l = true ∧ (0 ≤ p ∧ p < (c : Int)) ∧ (0 ≤ q ∧ q < (c : Int)) := by
  obtain ⟨h1, h2, -⟩ := okM_parts h
  obtain ⟨g1, g2⟩ := okF_parts h1
  obtain ⟨-, g3⟩ := okF_parts h2
  obtain ⟨r, c, rfl, rfl, hG⟩ := geo_of g1
  exact ⟨r, c, rfl, rfl, hG, g1, g2, g3⟩
theorem spec_maGood (R C : Int) (A : Option Addr) (cap : Nat) (l : List (Int × Int)) (p q bl rd nx : Int) (w : World) (hn : l.length ≤ 1048576) (hr : Rd w w.heap.size A (flat l)) :
    Calls Try.prog 95 #[.agg #[.int .i64 R, .int .i64 C, .slice A l.length cap, .int .i64 p, .int .i64 q, .int .i64 bl, .int .i64 rd, .int .i64 nx]] w fun e w' => e = .returned (.bool (okM R C l p q bl rd nx)) ∧ Below w.heap.size w w' := by
  have HE := Lib.hid (show okM R C l p q bl rd nx = (okF R C l p && okF R C l q && (decide (0 ≤ bl) && decide (bl ≤ 30)) && (decide (0 ≤ rd) && decide (rd ≤ 30)) && (decide (0 ≤ nx) && decide (nx ≤ 2))) from rfl)
  rewrite [HE.out]
  clear HE
  go_enter Try.func95, Try.ntmps95
  obtain ⟨v0, hv0⟩ : ∃ v, v = w.alloc (.cells #[.int .i64 R, .int .i64 C, .slice A l.length cap, .int .i64 p, .int .i64 q, .int .i64 bl, .int .i64 rd, .int .i64 nx] 56) := ⟨_, rfl⟩; have X0 : Whole v0 w.heap.size 56 [.int .i64 R, .int .i64 C, .slice A l.length cap, .int .i64 p, .int .i64 q, .int .i64 bl, .int .i64 rd, .int .i64 nx] := (by rw [hv0]; exact heap_alloc_new w _); have hb : Below w.heap.size w v0 := (by rw [hv0]; exact (Below.refl _ _).alloc (Nat.le_refl _) _); have HV := Lib.hid hv0.symm; clear hv0; go_upto_region 1 with (fail); rewrite [HV.out]; clear HV; have hy := X0.lt
  have X0k0 : v0.cell? ⟨w.heap.size, 0, none⟩ = some (.int .i64 R) := (X0.cell 0).trans rfl; have X0k1 : v0.cell? ⟨w.heap.size, 1, none⟩ = some (.int .i64 C) := (X0.cell 1).trans rfl; have X0k2 : v0.cell? ⟨w.heap.size, 2, none⟩ = some (.slice A l.length cap) := (X0.cell 2).trans rfl; have X0k3 : v0.cell? ⟨w.heap.size, 3, none⟩ = some (.int .i64 p) := (X0.cell 3).trans rfl; have X0k4 : v0.cell? ⟨w.heap.size, 4, none⟩ = some (.int .i64 q) := (X0.cell 4).trans rfl; have X0k5 : v0.cell? ⟨w.heap.size, 5, none⟩ = some (.int .i64 bl) := (X0.cell 5).trans rfl; have X0k6 : v0.cell? ⟨w.heap.size, 6, none⟩ = some (.int .i64 rd) := (X0.cell 6).trans rfl; have X0k7 : v0.cell? ⟨w.heap.size, 7, none⟩ = some (.int .i64 nx) := (X0.cell 7).trans rfl
  go_wp2_with fail
  refine (spec_flHas _ _ _ _ l _ _ hn ((hr.below hb).mono hb.size)).mono ?_; rintro e w1 ⟨rfl, b1⟩
  clear X0k0 X0k1 X0k2 X0k3 X0k4 X0k5 X0k6 X0k7
  (replace X0 := X0.below b1 X0.lt; replace hb := hb.trans (b1.mono hb.size); have hy := X0.lt; clear b1)
  rcases Bool.eq_false_or_eq_true (okF R C l p) with h1 | h1
  · rewrite [h1]
    have X0k0 : w1.cell? ⟨w.heap.size, 0, none⟩ = some (.int .i64 R) := (X0.cell 0).trans rfl; have X0k1 : w1.cell? ⟨w.heap.size, 1, none⟩ = some (.int .i64 C) := (X0.cell 1).trans rfl; have X0k2 : w1.cell? ⟨w.heap.size, 2, none⟩ = some (.slice A l.length cap) := (X0.cell 2).trans rfl; have X0k3 : w1.cell? ⟨w.heap.size, 3, none⟩ = some (.int .i64 p) := (X0.cell 3).trans rfl; have X0k4 : w1.cell? ⟨w.heap.size, 4, none⟩ = some (.int .i64 q) := (X0.cell 4).trans rfl; have X0k5 : w1.cell? ⟨w.heap.size, 5, none⟩ = some (.int .i64 bl) := (X0.cell 5).trans rfl; have X0k6 : w1.cell? ⟨w.heap.size, 6, none⟩ = some (.int .i64 rd) := (X0.cell 6).trans rfl; have X0k7 : w1.cell? ⟨w.heap.size, 7, none⟩ = some (.int .i64 nx) := (X0.cell 7).trans rfl
    go_wp2_with fail
    refine (spec_flHas _ _ _ _ l _ _ hn ((hr.below hb).mono hb.size)).mono ?_; rintro e w2 ⟨rfl, b2⟩
    clear X0k0 X0k1 X0k2 X0k3 X0k4 X0k5 X0k6 X0k7
    (replace X0 := X0.below b2 X0.lt; replace hb := hb.trans (b2.mono hb.size); have hy := X0.lt; clear b2)
    rcases Bool.eq_false_or_eq_true (okF R C l q) with h2 | h2
    · rewrite [h2]
      have X0k0 : w2.cell? ⟨w.heap.size, 0, none⟩ = some (.int .i64 R) := (X0.cell 0).trans rfl; have X0k1 : w2.cell? ⟨w.heap.size, 1, none⟩ = some (.int .i64 C) := (X0.cell 1).trans rfl; have X0k2 : w2.cell? ⟨w.heap.size, 2, none⟩ = some (.slice A l.length cap) := (X0.cell 2).trans rfl; have X0k3 : w2.cell? ⟨w.heap.size, 3, none⟩ = some (.int .i64 p) := (X0.cell 3).trans rfl; have X0k4 : w2.cell? ⟨w.heap.size, 4, none⟩ = some (.int .i64 q) := (X0.cell 4).trans rfl; have X0k5 : w2.cell? ⟨w.heap.size, 5, none⟩ = some (.int .i64 bl) := (X0.cell 5).trans rfl; have X0k6 : w2.cell? ⟨w.heap.size, 6, none⟩ = some (.int .i64 rd) := (X0.cell 6).trans rfl; have X0k7 : w2.cell? ⟨w.heap.size, 7, none⟩ = some (.int .i64 nx) := (X0.cell 7).trans rfl
      go_wp2_with fail
      refine (spec_l1In _ _ _ _).mono ?_; rintro e w3 ⟨rfl, rfl⟩
      rcases Bool.eq_false_or_eq_true (decide (0 ≤ bl) && decide (bl ≤ 30)) with h3 | h3
      · rewrite [h3]
        go_wp2_with fail
        refine (spec_l1In _ _ _ _).mono ?_; rintro e w4 ⟨rfl, rfl⟩
        rcases Bool.eq_false_or_eq_true (decide (0 ≤ rd) && decide (rd ≤ 30)) with h4 | h4
        · rewrite [h4]
          go_wp2_with fail
          refine (spec_l1In _ _ _ _).mono ?_; rintro e w5 ⟨rfl, rfl⟩
          go_wp2
          go_returns
          exact ⟨by rw [h1, h2, h3, h4]; rfl, hb⟩
        · rewrite [h4]
          go_wp2
          go_returns
          exact ⟨by rw [h1, h2, h3, h4]; rfl, hb⟩
      · rewrite [h3]
        go_wp2
        go_returns
        exact ⟨by rw [h1, h2, h3]; rfl, hb⟩
    · rewrite [h2]
      go_wp2
      go_returns
      exact ⟨by rw [h1, h2]; rfl, hb⟩
  · rewrite [h1]
    go_wp2
    go_returns
    exact ⟨by rw [h1]; rfl, hb⟩
theorem spec_IsMachine (R C : Int) (A : Option Addr) (cap : Nat) (l : List (Int × Int)) (p q bl rd nx : Int) (w : World) (hn : l.length ≤ 1048576) (hr : Rd w w.heap.size A (flat l)) :
    Calls Try.prog 37 #[.agg #[.int .i64 R, .int .i64 C, .slice A l.length cap, .int .i64 p, .int .i64 q, .int .i64 bl, .int .i64 rd, .int .i64 nx]] w fun e w' => e = .returned (.bool (okM R C l p q bl rd nx)) ∧ Below w.heap.size w w' := by
  go_enter Try.func37, Try.ntmps37
  obtain ⟨v0, hv0⟩ : ∃ v, v = w.alloc (.cells #[.int .i64 R, .int .i64 C, .slice A l.length cap, .int .i64 p, .int .i64 q, .int .i64 bl, .int .i64 rd, .int .i64 nx] 56) := ⟨_, rfl⟩; have X0 : Whole v0 w.heap.size 56 [.int .i64 R, .int .i64 C, .slice A l.length cap, .int .i64 p, .int .i64 q, .int .i64 bl, .int .i64 rd, .int .i64 nx] := (by rw [hv0]; exact heap_alloc_new w _); have hb : Below w.heap.size w v0 := (by rw [hv0]; exact (Below.refl _ _).alloc (Nat.le_refl _) _); have HV := Lib.hid hv0.symm; clear hv0; go_upto_region 1 with (fail); rewrite [HV.out]; clear HV; have hy := X0.lt
  have X0k0 : v0.cell? ⟨w.heap.size, 0, none⟩ = some (.int .i64 R) := (X0.cell 0).trans rfl; have X0k1 : v0.cell? ⟨w.heap.size, 1, none⟩ = some (.int .i64 C) := (X0.cell 1).trans rfl; have X0k2 : v0.cell? ⟨w.heap.size, 2, none⟩ = some (.slice A l.length cap) := (X0.cell 2).trans rfl; have X0k3 : v0.cell? ⟨w.heap.size, 3, none⟩ = some (.int .i64 p) := (X0.cell 3).trans rfl; have X0k4 : v0.cell? ⟨w.heap.size, 4, none⟩ = some (.int .i64 q) := (X0.cell 4).trans rfl; have X0k5 : v0.cell? ⟨w.heap.size, 5, none⟩ = some (.int .i64 bl) := (X0.cell 5).trans rfl; have X0k6 : v0.cell? ⟨w.heap.size, 6, none⟩ = some (.int .i64 rd) := (X0.cell 6).trans rfl; have X0k7 : v0.cell? ⟨w.heap.size, 7, none⟩ = some (.int .i64 nx) := (X0.cell 7).trans rfl
  go_wp2_with fail
  refine (spec_maGood _ _ _ _ l _ _ _ _ _ _ hn ((hr.below hb).mono hb.size)).mono ?_; rintro e w1 ⟨rfl, b1⟩
  clear X0k0 X0k1 X0k2 X0k3 X0k4 X0k5 X0k6 X0k7
  (replace X0 := X0.below b1 X0.lt; replace hb := hb.trans (b1.mono hb.size); have hy := X0.lt; clear b1)
  go_wp2
  go_returns
  exact ⟨rfl, hb⟩
theorem canM_split (bl rd nx : Int) : canM bl rd nx = (decide (nx = 0) && decide (0 < bl) || decide (nx = 1) && decide (0 < rd)) := by
  unfold canM
  rw [Bool.eq_iff_iff]
  simp
theorem spec_maCan (R C : Int) (A : Option Addr) (cap : Nat) (l : List (Int × Int)) (p q bl rd nx : Int) (w : World) :
    Calls Try.prog 100 #[.agg #[.int .i64 R, .int .i64 C, .slice A l.length cap, .int .i64 p, .int .i64 q, .int .i64 bl, .int .i64 rd, .int .i64 nx]] w fun e w' => e = .returned (.bool (canM bl rd nx)) ∧ Below w.heap.size w w' := by
  by_cases h0 : nx = 0
  · subst h0
    by_cases h1 : 0 < bl
    · have HE := Lib.hid (show canM bl rd 0 = true by rw [canM_iff]; exact .inl ⟨rfl, h1⟩)
      rewrite [HE.out]
      go_enter Try.func100, Try.ntmps100
      go_wp2
      go_returns
      exact ⟨rfl, by (repeat' (first | (with_reducible exact Below.refl _ _) | (with_reducible assumption) | (with_reducible refine Below.alloc ?_ ?_ _) | (with_reducible refine Below.setCell ?_ ?_ _) | (with_reducible refine Below.drew ?_) | (with_reducible refine below_drewN ?_ _) | (with_reducible refine Below.trans ?_ (Below.mono (by assumption) ?_)) | (with_reducible exact Nat.le_refl _) | (simp; done) | omega | (simp at *; omega)))⟩
    · have HE := Lib.hid (show canM bl rd 0 = false by rw [Bool.eq_false_iff]; intro h; rw [canM_iff] at h; omega)
      rewrite [HE.out]
      go_enter Try.func100, Try.ntmps100
      go_wp2
      go_returns
      exact ⟨rfl, by (repeat' (first | (with_reducible exact Below.refl _ _) | (with_reducible assumption) | (with_reducible refine Below.alloc ?_ ?_ _) | (with_reducible refine Below.setCell ?_ ?_ _) | (with_reducible refine Below.drew ?_) | (with_reducible refine below_drewN ?_ _) | (with_reducible refine Below.trans ?_ (Below.mono (by assumption) ?_)) | (with_reducible exact Nat.le_refl _) | (simp; done) | omega | (simp at *; omega)))⟩
  · have hb0 : (nx == 0) = false := by simpa using h0
    by_cases h2 : nx = 1
    · subst h2
      by_cases h1 : 0 < rd
      · have HE := Lib.hid (show canM bl rd 1 = true by rw [canM_iff]; exact .inr ⟨rfl, h1⟩)
        rewrite [HE.out]
        go_enter Try.func100, Try.ntmps100
        go_wp2
        go_returns
        exact ⟨rfl, by (repeat' (first | (with_reducible exact Below.refl _ _) | (with_reducible assumption) | (with_reducible refine Below.alloc ?_ ?_ _) | (with_reducible refine Below.setCell ?_ ?_ _) | (with_reducible refine Below.drew ?_) | (with_reducible refine below_drewN ?_ _) | (with_reducible refine Below.trans ?_ (Below.mono (by assumption) ?_)) | (with_reducible exact Nat.le_refl _) | (simp; done) | omega | (simp at *; omega)))⟩
      · have HE := Lib.hid (show canM bl rd 1 = false by rw [Bool.eq_false_iff]; intro h; rw [canM_iff] at h; omega)
        rewrite [HE.out]
        go_enter Try.func100, Try.ntmps100
        go_wp2
        go_returns
        exact ⟨rfl, by (repeat' (first | (with_reducible exact Below.refl _ _) | (with_reducible assumption) | (with_reducible refine Below.alloc ?_ ?_ _) | (with_reducible refine Below.setCell ?_ ?_ _) | (with_reducible refine Below.drew ?_) | (with_reducible refine below_drewN ?_ _) | (with_reducible refine Below.trans ?_ (Below.mono (by assumption) ?_)) | (with_reducible exact Nat.le_refl _) | (simp; done) | omega | (simp at *; omega)))⟩
    · have hb1 : (nx == 1) = false := by simpa using h2
      have HE := Lib.hid (show canM bl rd nx = false by rw [Bool.eq_false_iff]; intro h; rw [canM_iff] at h; omega)
      rewrite [HE.out]
      go_enter Try.func100, Try.ntmps100
      go_wp2
      go_returns
      exact ⟨rfl, by (repeat' (first | (with_reducible exact Below.refl _ _) | (with_reducible assumption) | (with_reducible refine Below.alloc ?_ ?_ _) | (with_reducible refine Below.setCell ?_ ?_ _) | (with_reducible refine Below.drew ?_) | (with_reducible refine below_drewN ?_ _) | (with_reducible refine Below.trans ?_ (Below.mono (by assumption) ?_)) | (with_reducible exact Nat.le_refl _) | (simp; done) | omega | (simp at *; omega)))⟩
end Go.Proofs.Ytpfjbecpfdgnpaa
namespace Go.Proofs.Ytpfjbecpfdgnpaa
open Go.ChangeShapes Go.WideShapes Go.ChangeAt Go.RowKit Go.Joins Go.Deep
set_option linter.unusedSimpArgs false
set_option linter.unusedVariables false
set_option maxRecDepth 100000
set_option maxHeartbeats 2000000
theorem impl_isHopper (n : Int) (w : World) :
    Calls Try.prog 98 #[.int .i64 n] w fun e w' => e = .returned (.bool (decide (0 ≤ n) && decide (n ≤ 30))) ∧ Below w.heap.size w w' := by
  by_cases h0 : 0 ≤ n
  · by_cases h1 : n ≤ 30
    · have HE := Lib.hid (show (decide (0 ≤ n) && decide (n ≤ 30)) = true by rw [decide_eq_true h0, decide_eq_true h1]; rfl)
      rewrite [HE.out]
      go_enter Try.func98, Try.ntmps98
      go_wp2
      go_returns
      exact ⟨rfl, by (repeat' (first | (with_reducible exact Below.refl _ _) | (with_reducible assumption) | (with_reducible refine Below.alloc ?_ ?_ _) | (with_reducible refine Below.setCell ?_ ?_ _) | (with_reducible refine Below.drew ?_) | (with_reducible refine below_drewN ?_ _) | (with_reducible refine Below.trans ?_ (Below.mono (by assumption) ?_)) | (with_reducible exact Nat.le_refl _) | (simp; done) | omega | (simp at *; omega)))⟩
    · have HE := Lib.hid (show (decide (0 ≤ n) && decide (n ≤ 30)) = false by rw [decide_eq_true h0, decide_eq_false h1]; rfl)
      rewrite [HE.out]
      go_enter Try.func98, Try.ntmps98
      go_wp2
      go_returns
      exact ⟨rfl, by (repeat' (first | (with_reducible exact Below.refl _ _) | (with_reducible assumption) | (with_reducible refine Below.alloc ?_ ?_ _) | (with_reducible refine Below.setCell ?_ ?_ _) | (with_reducible refine Below.drew ?_) | (with_reducible refine below_drewN ?_ _) | (with_reducible refine Below.trans ?_ (Below.mono (by assumption) ?_)) | (with_reducible exact Nat.le_refl _) | (simp; done) | omega | (simp at *; omega)))⟩
  · have HE := Lib.hid (show (decide (0 ≤ n) && decide (n ≤ 30)) = false by rw [decide_eq_false h0]; rfl)
    rewrite [HE.out]
    go_enter Try.func98, Try.ntmps98
    go_wp2
    go_returns
    exact ⟨rfl, by (repeat' (first | (with_reducible exact Below.refl _ _) | (with_reducible assumption) | (with_reducible refine Below.alloc ?_ ?_ _) | (with_reducible refine Below.setCell ?_ ?_ _) | (with_reducible refine Below.drew ?_) | (with_reducible refine below_drewN ?_ _) | (with_reducible refine Below.trans ?_ (Below.mono (by assumption) ?_)) | (with_reducible exact Nat.le_refl _) | (simp; done) | omega | (simp at *; omega)))⟩
theorem okC'_two (R C : Int) (l : List (Int × Int)) (j k : Int) : okC' R C l [j, k] = (okF R C l j && okF R C l k) := by
  unfold okC' okF allI
  rw [List.all_cons, List.all_cons, List.all_nil, Bool.and_true, inI_lt, inI_lt]
  cases goodB R C l <;> simp
theorem impl_areEntries2 (R C : Int) (A : Option Addr) (cap : Nat) (l : List (Int × Int)) (j k : Int) (g : Nat) (w : World) (hn : l.length ≤ 1048576) (hr : Rd w w.heap.size A (flat l)) (hg : Whole w g 3 [.int .i64 j, .int .i64 k]) :
    Calls Try.prog 97 #[.agg #[.int .i64 R, .int .i64 C, .slice A l.length cap], .slice (some ⟨g, 0, none⟩) 2 2] w fun e w' => e = .returned (.bool (okF R C l j && okF R C l k)) ∧ Below w.heap.size w w' := by
  rw [← okC'_two]
  exact impl_areEntries R C A cap l (some ⟨g, 0, none⟩) 2 [j, k] w hn (by simp) hr (hg.rd hg.lt)
theorem impl_IsMachine (R C : Int) (A : Option Addr) (cap : Nat) (l : List (Int × Int)) (p q bl rd nx : Int) (w : World) (hn : l.length ≤ 1048576) (hr : Rd w w.heap.size A (flat l)) :
    Calls Try.prog 39 #[.agg #[.int .i64 R, .int .i64 C, .slice A l.length cap, .int .i64 p, .int .i64 q, .int .i64 bl, .int .i64 rd, .int .i64 nx]] w fun e w' => e = .returned (.bool (okM R C l p q bl rd nx)) ∧ Below w.heap.size w w' := by
  have HE := Lib.hid (show okM R C l p q bl rd nx = ((okF R C l p && okF R C l q) && (decide (0 ≤ bl) && decide (bl ≤ 30)) && (decide (0 ≤ rd) && decide (rd ≤ 30)) && decide (0 ≤ nx) && decide (nx ≤ 2)) by unfold okM inM; cases okF R C l p <;> cases okF R C l q <;> simp [Bool.and_assoc])
  rewrite [HE.out]
  clear HE
  go_enter Try.func39, Try.ntmps39
  obtain ⟨v0, hv0⟩ : ∃ v, v = w.alloc (.cells #[.int .i64 R, .int .i64 C, .slice A l.length cap, .int .i64 p, .int .i64 q, .int .i64 bl, .int .i64 rd, .int .i64 nx] 56) := ⟨_, rfl⟩; have X0 : Whole v0 w.heap.size 56 [.int .i64 R, .int .i64 C, .slice A l.length cap, .int .i64 p, .int .i64 q, .int .i64 bl, .int .i64 rd, .int .i64 nx] := (by rw [hv0]; exact heap_alloc_new w _); have hb : Below w.heap.size w v0 := (by rw [hv0]; exact (Below.refl _ _).alloc (Nat.le_refl _) _); have HV := Lib.hid hv0.symm; clear hv0; go_upto_region 1 with (fail); rewrite [HV.out]; clear HV; have hy := X0.lt
  have X0k0 : v0.cell? ⟨w.heap.size, 0, none⟩ = some (.int .i64 R) := (X0.cell 0).trans rfl; have X0k1 : v0.cell? ⟨w.heap.size, 1, none⟩ = some (.int .i64 C) := (X0.cell 1).trans rfl; have X0k2 : v0.cell? ⟨w.heap.size, 2, none⟩ = some (.slice A l.length cap) := (X0.cell 2).trans rfl; have X0k3 : v0.cell? ⟨w.heap.size, 3, none⟩ = some (.int .i64 p) := (X0.cell 3).trans rfl; have X0k4 : v0.cell? ⟨w.heap.size, 4, none⟩ = some (.int .i64 q) := (X0.cell 4).trans rfl; have X0k5 : v0.cell? ⟨w.heap.size, 5, none⟩ = some (.int .i64 bl) := (X0.cell 5).trans rfl; have X0k6 : v0.cell? ⟨w.heap.size, 6, none⟩ = some (.int .i64 rd) := (X0.cell 6).trans rfl; have X0k7 : v0.cell? ⟨w.heap.size, 7, none⟩ = some (.int .i64 nx) := (X0.cell 7).trans rfl
  go_wp2_with fail
  have bl1 : Below v0.heap.size v0 (v0.alloc (.cells #[.int .i64 p, .int .i64 q] 3)) := (Below.refl _ _).alloc (Nat.le_refl _) _
  have Xl : Whole (v0.alloc (.cells #[.int .i64 p, .int .i64 q] 3)) v0.heap.size 3 [.int .i64 p, .int .i64 q] := heap_alloc_new v0 _
  clear X0k0 X0k1 X0k2 X0k3 X0k4 X0k5 X0k6 X0k7
  replace X0 := X0.below bl1 X0.lt
  replace hb := hb.trans (bl1.mono hb.size)
  clear bl1
  generalize v0.alloc (.cells #[.int .i64 p, .int .i64 q] 3) = v1 at *
  refine (impl_areEntries2 _ _ _ _ l _ _ _ _ hn ((hr.below hb).mono hb.size) Xl).mono ?_; rintro e w1 ⟨rfl, b1⟩
  clear Xl
  (replace X0 := X0.below b1 X0.lt; replace hb := hb.trans (b1.mono hb.size); have hy := X0.lt; clear b1)
  rcases Bool.eq_false_or_eq_true (okF R C l p && okF R C l q) with h1 | h1
  · rewrite [h1]
    have X0k0 : w1.cell? ⟨w.heap.size, 0, none⟩ = some (.int .i64 R) := (X0.cell 0).trans rfl; have X0k1 : w1.cell? ⟨w.heap.size, 1, none⟩ = some (.int .i64 C) := (X0.cell 1).trans rfl; have X0k2 : w1.cell? ⟨w.heap.size, 2, none⟩ = some (.slice A l.length cap) := (X0.cell 2).trans rfl; have X0k3 : w1.cell? ⟨w.heap.size, 3, none⟩ = some (.int .i64 p) := (X0.cell 3).trans rfl; have X0k4 : w1.cell? ⟨w.heap.size, 4, none⟩ = some (.int .i64 q) := (X0.cell 4).trans rfl; have X0k5 : w1.cell? ⟨w.heap.size, 5, none⟩ = some (.int .i64 bl) := (X0.cell 5).trans rfl; have X0k6 : w1.cell? ⟨w.heap.size, 6, none⟩ = some (.int .i64 rd) := (X0.cell 6).trans rfl; have X0k7 : w1.cell? ⟨w.heap.size, 7, none⟩ = some (.int .i64 nx) := (X0.cell 7).trans rfl
    go_wp2_with fail
    refine (impl_isHopper _ _).mono ?_; rintro e w3 ⟨rfl, b2⟩
    clear X0k0 X0k1 X0k2 X0k3 X0k4 X0k5 X0k6 X0k7
    (replace X0 := X0.below b2 X0.lt; replace hb := hb.trans (b2.mono hb.size); have hy := X0.lt; clear b2)
    rcases Bool.eq_false_or_eq_true (decide (0 ≤ bl) && decide (bl ≤ 30)) with h3 | h3
    · rewrite [h3]
      have X0k0 : w3.cell? ⟨w.heap.size, 0, none⟩ = some (.int .i64 R) := (X0.cell 0).trans rfl; have X0k1 : w3.cell? ⟨w.heap.size, 1, none⟩ = some (.int .i64 C) := (X0.cell 1).trans rfl; have X0k2 : w3.cell? ⟨w.heap.size, 2, none⟩ = some (.slice A l.length cap) := (X0.cell 2).trans rfl; have X0k3 : w3.cell? ⟨w.heap.size, 3, none⟩ = some (.int .i64 p) := (X0.cell 3).trans rfl; have X0k4 : w3.cell? ⟨w.heap.size, 4, none⟩ = some (.int .i64 q) := (X0.cell 4).trans rfl; have X0k5 : w3.cell? ⟨w.heap.size, 5, none⟩ = some (.int .i64 bl) := (X0.cell 5).trans rfl; have X0k6 : w3.cell? ⟨w.heap.size, 6, none⟩ = some (.int .i64 rd) := (X0.cell 6).trans rfl; have X0k7 : w3.cell? ⟨w.heap.size, 7, none⟩ = some (.int .i64 nx) := (X0.cell 7).trans rfl
      go_wp2_with fail
      refine (impl_isHopper _ _).mono ?_; rintro e w4 ⟨rfl, b3⟩
      clear X0k0 X0k1 X0k2 X0k3 X0k4 X0k5 X0k6 X0k7
      (replace X0 := X0.below b3 X0.lt; replace hb := hb.trans (b3.mono hb.size); have hy := X0.lt; clear b3)
      rcases Bool.eq_false_or_eq_true (decide (0 ≤ rd) && decide (rd ≤ 30)) with h4 | h4
      · rewrite [h4]
        have X0k0 : w4.cell? ⟨w.heap.size, 0, none⟩ = some (.int .i64 R) := (X0.cell 0).trans rfl; have X0k1 : w4.cell? ⟨w.heap.size, 1, none⟩ = some (.int .i64 C) := (X0.cell 1).trans rfl; have X0k2 : w4.cell? ⟨w.heap.size, 2, none⟩ = some (.slice A l.length cap) := (X0.cell 2).trans rfl; have X0k3 : w4.cell? ⟨w.heap.size, 3, none⟩ = some (.int .i64 p) := (X0.cell 3).trans rfl; have X0k4 : w4.cell? ⟨w.heap.size, 4, none⟩ = some (.int .i64 q) := (X0.cell 4).trans rfl; have X0k5 : w4.cell? ⟨w.heap.size, 5, none⟩ = some (.int .i64 bl) := (X0.cell 5).trans rfl; have X0k6 : w4.cell? ⟨w.heap.size, 6, none⟩ = some (.int .i64 rd) := (X0.cell 6).trans rfl; have X0k7 : w4.cell? ⟨w.heap.size, 7, none⟩ = some (.int .i64 nx) := (X0.cell 7).trans rfl
        rcases Bool.eq_false_or_eq_true (decide (0 ≤ nx)) with h5 | h5
        · have h6 := of_decide_eq_true h5
          have h7 := Lib.hid h5
          clear h5
          go_wp2
          go_returns
          exact ⟨by (first | (rw [h1, h3, h4, h7.out]; rfl) | (rw [h7.out]; rfl)), hb⟩
        · have h6 := of_decide_eq_false h5
          have h7 := Lib.hid h5
          clear h5
          go_wp2
          go_returns
          exact ⟨by (first | (rw [h1, h3, h4, h7.out]; rfl) | (rw [h7.out]; rfl)), hb⟩
      · rewrite [h4]
        go_wp2
        go_returns
        exact ⟨by rw [h1, h3, h4]; rfl, hb⟩
    · rewrite [h3]
      go_wp2
      go_returns
      exact ⟨by rw [h1, h3]; rfl, hb⟩
  · rewrite [h1]
    go_wp2
    go_returns
    exact ⟨by rw [h1]; rfl, hb⟩
theorem impl_cloneMachine (R C : Int) (b o cap : Nat) (l : List (Int × Int)) (p q bl rd nx : Int) (w : World) (hn : l.length ≤ 1048576) (hr : Rd w w.heap.size (some ⟨b, o, none⟩) (flat l)) :
    Calls Try.prog 107 #[.agg #[.int .i64 R, .int .i64 C, .slice (some ⟨b, o, none⟩) l.length cap, .int .i64 p, .int .i64 q, .int .i64 bl, .int .i64 rd, .int .i64 nx]] w fun e w' => ∃ A' cap', e = .returned (.agg #[.int .i64 R, .int .i64 C, .slice A' l.length cap', .int .i64 p, .int .i64 q, .int .i64 bl, .int .i64 rd, .int .i64 nx]) ∧ Own w' A' 27 (flat l) ∧ New w A' ∧ Below w.heap.size w w' := by
  go_enter Try.func107, Try.ntmps107
  obtain ⟨v0, hv0, X0, X1, B0, hz0⟩ := two_boxes w [.int .i64 R, .int .i64 C, .slice (some ⟨b, o, none⟩) l.length cap, .int .i64 p, .int .i64 q, .int .i64 bl, .int .i64 rd, .int .i64 nx] 56 [.int .i64 0, .int .i64 0, .slice none 0 0, .int .i64 0, .int .i64 0, .int .i64 0, .int .i64 0, .int .i64 0] 56; have HV := Lib.hid hv0; have hz : w.heap.size + 1 < v0.heap.size := (by omega); have hy : w.heap.size < v0.heap.size := (by omega); have hb0 := B0.size; clear hv0 hz0; go_wp2_with fail; rewrite [show (w.alloc (.cells ([.int .i64 R, .int .i64 C, .slice (some ⟨b, o, none⟩) l.length cap, .int .i64 p, .int .i64 q, .int .i64 bl, .int .i64 rd, .int .i64 nx] : List Value).toArray 56)).alloc (.cells ([.int .i64 0, .int .i64 0, .slice none 0 0, .int .i64 0, .int .i64 0, .int .i64 0, .int .i64 0, .int .i64 0] : List Value).toArray 56) = v0 from HV.out]; clear HV
  have X0k0 : v0.cell? ⟨w.heap.size, 0, none⟩ = some (.int .i64 R) := (X0.cell 0).trans rfl; have X0k1 : v0.cell? ⟨w.heap.size, 1, none⟩ = some (.int .i64 C) := (X0.cell 1).trans rfl; have X0k2 : v0.cell? ⟨w.heap.size, 2, none⟩ = some (.slice (some ⟨b, o, none⟩) l.length cap) := (X0.cell 2).trans rfl
  go_wp2_with fail
  refine (impl_cloneBoard R C b o cap l _ hn ((hr.below B0).mono B0.size)).mono ?_; rintro e w1 ⟨A5, c5, rfl, o5, n5, b1⟩
  clear X0k0 X0k1 X0k2
  have hn0 : New w A5 := fun a ha => Nat.le_trans B0.size (n5 a ha)
  replace X0 := X0.below b1 X0.lt; replace X1 := X1.below b1 X1.lt; replace B0 := B0.trans (b1.mono B0.size); have hy := X0.lt; have hz := X1.lt; have hb0 := B0.size; clear b1
  have X0k0 : w1.cell? ⟨w.heap.size, 0, none⟩ = some (.int .i64 R) := (X0.cell 0).trans rfl; have X0k1 : w1.cell? ⟨w.heap.size, 1, none⟩ = some (.int .i64 C) := (X0.cell 1).trans rfl; have X0k2 : w1.cell? ⟨w.heap.size, 2, none⟩ = some (.slice (some ⟨b, o, none⟩) l.length cap) := (X0.cell 2).trans rfl
  have X0f0 := X0.frozen 0; have X0f1 := X0.frozen 1; have X0f2 := X0.frozen 2
  have n10 : w.heap.size ≠ w.heap.size + 1 := by omega
  go_upto_region 2 with (fail)
  obtain ⟨v2, hv2⟩ : ∃ v2, v2 = (((w1.setCell ⟨w.heap.size, 0, none⟩ (.int .i64 R)).setCell ⟨w.heap.size, 1, none⟩ (.int .i64 C)).setCell ⟨w.heap.size, 2, none⟩ (.slice A5 l.length c5)) := ⟨_, rfl⟩
  have Y0 : Whole v2 w.heap.size 56 [.int .i64 R, .int .i64 C, .slice A5 l.length c5, .int .i64 p, .int .i64 q, .int .i64 bl, .int .i64 rd, .int .i64 nx] := by rw [hv2]; exact ((X0.set 0 (.int .i64 R)).set 1 (.int .i64 C)).set 2 (.slice A5 l.length c5)
  replace X1 : Whole v2 (w.heap.size + 1) 56 [.int .i64 0, .int .i64 0, .slice none 0 0, .int .i64 0, .int .i64 0, .int .i64 0, .int .i64 0, .int .i64 0] := by rw [hv2]; exact three_far X1 n10
  replace o5 : Own v2 A5 27 (flat l) := by
    rw [hv2]
    intro hx
    obtain ⟨k, rest, rfl, hk⟩ := o5 hx
    have hk0 : v0.heap.size ≤ k := n5 _ rfl
    exact ⟨k, rest, rfl, three_far hk (by have := B0.size; intro e; subst e; have := own_apart (A := some ⟨w.heap.size, 0, none⟩) (fun _ => ⟨_, rest, rfl, hk⟩) X0 (by decide) hx rfl; exact this rfl)⟩
  replace B0 : Below w.heap.size w v2 := by rw [hv2]; exact ((B0.setCell (p := ⟨w.heap.size, 0, none⟩) (Nat.le_refl _) _).setCell (p := ⟨w.heap.size, 1, none⟩) (Nat.le_refl _) _).setCell (p := ⟨w.heap.size, 2, none⟩) (Nat.le_refl _) _
  rewrite [← hv2]
  clear X0k0 X0k1 X0k2
  clear X0f0 X0f1 X0f2 hv2 n5 X0
  have X0 := Y0
  have hy := X0.lt
  have hz := X1.lt
  have X0k0 : v2.cell? ⟨w.heap.size, 0, none⟩ = some (.int .i64 R) := (X0.cell 0).trans rfl; have X0k1 : v2.cell? ⟨w.heap.size, 1, none⟩ = some (.int .i64 C) := (X0.cell 1).trans rfl; have X0k2 : v2.cell? ⟨w.heap.size, 2, none⟩ = some (.slice A5 l.length c5) := (X0.cell 2).trans rfl; have X0k3 : v2.cell? ⟨w.heap.size, 3, none⟩ = some (.int .i64 p) := (X0.cell 3).trans rfl; have X0k4 : v2.cell? ⟨w.heap.size, 4, none⟩ = some (.int .i64 q) := (X0.cell 4).trans rfl; have X0k5 : v2.cell? ⟨w.heap.size, 5, none⟩ = some (.int .i64 bl) := (X0.cell 5).trans rfl
  have X0k6 : v2.cell? ⟨w.heap.size, 6, none⟩ = some (.int .i64 rd) := (X0.cell 6).trans rfl; have X0k7 : v2.cell? ⟨w.heap.size, 7, none⟩ = some (.int .i64 nx) := (X0.cell 7).trans rfl
  have X1k0 : v2.cell? ⟨w.heap.size + 1, 0, none⟩ = some (.int .i64 0) := (X1.cell 0).trans rfl; have X1k1 : v2.cell? ⟨w.heap.size + 1, 1, none⟩ = some (.int .i64 0) := (X1.cell 1).trans rfl; have X1k2 : v2.cell? ⟨w.heap.size + 1, 2, none⟩ = some (.slice none 0 0) := (X1.cell 2).trans rfl; have X1k3 : v2.cell? ⟨w.heap.size + 1, 3, none⟩ = some (.int .i64 0) := (X1.cell 3).trans rfl; have X1k4 : v2.cell? ⟨w.heap.size + 1, 4, none⟩ = some (.int .i64 0) := (X1.cell 4).trans rfl; have X1k5 : v2.cell? ⟨w.heap.size + 1, 5, none⟩ = some (.int .i64 0) := (X1.cell 5).trans rfl
  have X1k6 : v2.cell? ⟨w.heap.size + 1, 6, none⟩ = some (.int .i64 0) := (X1.cell 6).trans rfl; have X1k7 : v2.cell? ⟨w.heap.size + 1, 7, none⟩ = some (.int .i64 0) := (X1.cell 7).trans rfl
  have X1f0 := X1.frozen 0; have X1f1 := X1.frozen 1; have X1f2 := X1.frozen 2; have X1f3 := X1.frozen 3; have X1f4 := X1.frozen 4; have X1f5 := X1.frozen 5; have X1f6 := X1.frozen 6; have X1f7 := X1.frozen 7
  go_wp2
  rewrite [mset_fold]; obtain ⟨v4, hv4⟩ : ∃ v4, v4 = mset v2 (w.heap.size + 1) (.int .i64 R) (.int .i64 C) (.slice A5 l.length c5) (.int .i64 p) (.int .i64 q) (.int .i64 bl) (.int .i64 rd) (.int .i64 nx) := ⟨_, rfl⟩; have Z1 : Whole v4 (w.heap.size + 1) 56 [.int .i64 R, .int .i64 C, .slice A5 l.length c5, .int .i64 p, .int .i64 q, .int .i64 bl, .int .i64 rd, .int .i64 nx] := (by rw [hv4]; exact Whole.mset X1 _ _ _ _ _ _ _ _)
  replace o5 : Own v4 A5 27 (flat l) := by rw [hv4]; exact own_mset o5 X1 (by decide)
  replace B0 : Below w.heap.size w v4 := by rw [hv4]; exact below_mset B0 (by omega)
  clear X0k0 X0k1 X0k2 X0k3 X0k4 X0k5 X0k6 X0k7
  clear X1k0 X1k1 X1k2 X1k3 X1k4 X1k5 X1k6 X1k7
  clear X1f0 X1f1 X1f2 X1f3 X1f4 X1f5 X1f6 X1f7
  rewrite [← hv4]
  clear hv4
  have Z1k0 : v4.cell? ⟨w.heap.size + 1, 0, none⟩ = some (.int .i64 R) := (Z1.cell 0).trans rfl; have Z1k1 : v4.cell? ⟨w.heap.size + 1, 1, none⟩ = some (.int .i64 C) := (Z1.cell 1).trans rfl; have Z1k2 : v4.cell? ⟨w.heap.size + 1, 2, none⟩ = some (.slice A5 l.length c5) := (Z1.cell 2).trans rfl; have Z1k3 : v4.cell? ⟨w.heap.size + 1, 3, none⟩ = some (.int .i64 p) := (Z1.cell 3).trans rfl; have Z1k4 : v4.cell? ⟨w.heap.size + 1, 4, none⟩ = some (.int .i64 q) := (Z1.cell 4).trans rfl; have Z1k5 : v4.cell? ⟨w.heap.size + 1, 5, none⟩ = some (.int .i64 bl) := (Z1.cell 5).trans rfl; have Z1k6 : v4.cell? ⟨w.heap.size + 1, 6, none⟩ = some (.int .i64 rd) := (Z1.cell 6).trans rfl; have Z1k7 : v4.cell? ⟨w.heap.size + 1, 7, none⟩ = some (.int .i64 nx) := (Z1.cell 7).trans rfl
  refine bodyPost_ret (v := .agg #[.int .i64 R, .int .i64 C, .slice A5 l.length c5, .int .i64 p, .int .i64 q, .int .i64 bl, .int .i64 rd, .int .i64 nx]) ?_ rfl ?_; (focus (simp [results, Try.results107, go_sem, *]; done))
  exact ⟨A5, c5, rfl, o5, hn0, B0⟩
end Go.Proofs.Ytpfjbecpfdgnpaa
namespace Go.Proofs.Ytpfjbecpfdgnpaa
open Go.ChangeShapes Go.WideShapes Go.ChangeAt Go.RowKit Go.Joins Go.Deep
set_option linter.unusedSimpArgs false
set_option linter.unusedVariables false
set_option maxRecDepth 100000
set_option maxHeartbeats 2000000
theorem eqFall_any (a b c a' b' c' : Int) (w : World) :
    Calls Try.prog 43 #[.agg #[.int .i64 a, .int .i64 b, .int .i64 c], .agg #[.int .i64 a', .int .i64 b', .int .i64 c']] w fun e w' => e = .returned (.bool (decide (a = a' ∧ b = b' ∧ c = c'))) ∧ Below w.heap.size w w' := by
  by_cases h1 : a = a'
  · subst h1
    by_cases h2 : b = b'
    · subst h2
      by_cases h3 : c = c'
      · subst h3
        go_enter Try.func43, Try.ntmps43
        go_wp2
        go_returns
        exact ⟨ret_bool (by first | rfl | simp), by (repeat' (first | (with_reducible exact Below.refl _ _) | (with_reducible assumption) | (with_reducible refine Below.alloc ?_ ?_ _) | (with_reducible refine Below.setCell ?_ ?_ _) | (with_reducible refine Below.drew ?_) | (with_reducible refine below_drewN ?_ _) | (with_reducible refine Below.trans ?_ (Below.mono (by assumption) ?_)) | (with_reducible exact Nat.le_refl _) | (simp; done) | omega | (simp at *; omega)))⟩
      · have hb : (c != c') = true := by simpa using h3
        have HL := Lib.hid h3
        clear h3
        go_enter Try.func43, Try.ntmps43
        go_wp2
        go_returns
        exact ⟨ret_bool (decide_eq_false (fun h => HL.out h.2.2)).symm, by (repeat' (first | (with_reducible exact Below.refl _ _) | (with_reducible assumption) | (with_reducible refine Below.alloc ?_ ?_ _) | (with_reducible refine Below.setCell ?_ ?_ _) | (with_reducible refine Below.drew ?_) | (with_reducible refine below_drewN ?_ _) | (with_reducible refine Below.trans ?_ (Below.mono (by assumption) ?_)) | (with_reducible exact Nat.le_refl _) | (simp; done) | omega | (simp at *; omega)))⟩
    · have hb : (b != b') = true := by simpa using h2
      have HL := Lib.hid h2
      clear h2
      go_enter Try.func43, Try.ntmps43
      go_wp2
      go_returns
      exact ⟨ret_bool (decide_eq_false (fun h => HL.out h.2.1)).symm, by (repeat' (first | (with_reducible exact Below.refl _ _) | (with_reducible assumption) | (with_reducible refine Below.alloc ?_ ?_ _) | (with_reducible refine Below.setCell ?_ ?_ _) | (with_reducible refine Below.drew ?_) | (with_reducible refine below_drewN ?_ _) | (with_reducible refine Below.trans ?_ (Below.mono (by assumption) ?_)) | (with_reducible exact Nat.le_refl _) | (simp; done) | omega | (simp at *; omega)))⟩
  · have hb : (a != a') = true := by simpa using h1
    have HL := Lib.hid h1
    clear h1
    go_enter Try.func43, Try.ntmps43
    go_wp2
    go_returns
    exact ⟨ret_bool (decide_eq_false (fun h => HL.out h.1)).symm, by (repeat' (first | (with_reducible exact Below.refl _ _) | (with_reducible assumption) | (with_reducible refine Below.alloc ?_ ?_ _) | (with_reducible refine Below.setCell ?_ ?_ _) | (with_reducible refine Below.drew ?_) | (with_reducible refine below_drewN ?_ _) | (with_reducible refine Below.trans ?_ (Below.mono (by assumption) ?_)) | (with_reducible exact Nat.le_refl _) | (simp; done) | omega | (simp at *; omega)))⟩
theorem flatF_at2 (l : List (Int × Int × Int)) (k : Nat) (h : k < l.length) : (flatF l)[k * 3]? = some (.int .i64 l[k].1) ∧ (flatF l)[k * 3 + 1]? = some (.int .i64 l[k].2.1) ∧ (flatF l)[k * 3 + 2]? = some (.int .i64 l[k].2.2) := by
  induction l generalizing k with
  | nil => simp at h
  | cons c l ih =>
    cases k with
    | zero => exact ⟨rfl, rfl, rfl⟩
    | succ k =>
      have := ih k (by simpa using h)
      have e1 : (flatF (c :: l))[(k + 1) * 3]? = (flatF l)[k * 3]? := by rw [show (k + 1) * 3 = k * 3 + 1 + 1 + 1 by omega]; rfl
      have e2 : (flatF (c :: l))[(k + 1) * 3 + 1]? = (flatF l)[k * 3 + 1]? := by rw [show (k + 1) * 3 + 1 = k * 3 + 1 + 1 + 1 + 1 by omega]; rfl
      have e3 : (flatF (c :: l))[(k + 1) * 3 + 2]? = (flatF l)[k * 3 + 2]? := by rw [show (k + 1) * 3 + 2 = k * 3 + 2 + 1 + 1 + 1 by omega]; rfl
      rw [e1, e2, e3]
      exact this
theorem flatF_pos {l : List (Int × Int × Int)} (h : 0 < (flatF l).length) : 0 < l.length := by rw [flatF_len] at h; omega
theorem pos_flatF {l : List (Int × Int × Int)} (h : 0 < l.length) : 0 < (flatF l).length := by rw [flatF_len]; omega
theorem own_own_apart {w : World} {A A' : Option Addr} {t t' : TypeId} {xs ys : List Value} (h : Own w A t xs) (h' : Own w A' t' ys) (hne : t ≠ t') (hx : 0 < xs.length) (hy : 0 < ys.length) {a a' : Addr} (ha : A = some a) (ha' : A' = some a') : a.block ≠ a'.block := by
  obtain ⟨g, rest, e, hw⟩ := h' hy
  rw [e] at ha'
  cases ha'
  exact own_apart h hw hne hx ha
theorem takeF_step {l m : List (Int × Int × Int)} {k : Nat} (h1 : k < l.length) (h2 : k < m.length) (h : l.take k = m.take k) : l[k].1 = m[k].1 → l[k].2.1 = m[k].2.1 → l[k].2.2 = m[k].2.2 → l.take (k + 1) = m.take (k + 1) := fun a b c => by
  rw [List.take_succ_eq_append_getElem h1, List.take_succ_eq_append_getElem h2, h, Prod.ext a (Prod.ext b c)]
end Go.Proofs.Ytpfjbecpfdgnpaa
