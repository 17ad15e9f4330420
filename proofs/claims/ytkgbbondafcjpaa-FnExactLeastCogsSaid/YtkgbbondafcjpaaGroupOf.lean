/- GroupOf, program and model. -/
import Derived.Test.YtkgbbondafcjpaaJoin
namespace Go.Proofs.Ytkgbbondafcjpaa
open Go.ChangeShapes Go.WideShapes Go.ChangeAt Go.RowKit Go.Joins Go.Deep
set_option linter.unusedSimpArgs false
set_option linter.unusedVariables false
set_option maxRecDepth 100000
set_option maxHeartbeats 2000000
def groupB (R C : Int) (l : List (Int × Int)) (i j : Int) : List Int := if okJ R C l i j then nI (grpL C l (atI C i j)) else []
theorem grpL_len (C : Int) (l : List (Int × Int)) (k : Nat) : (grpL C l k).length ≤ l.length := by
  unfold grpL
  have := List.length_filter_le (fun x => decide (nmb C l x = nmb C l k)) (List.range l.length)
  rwa [List.length_range] at this
theorem groupB_len (R C : Int) (l : List (Int × Int)) (i j : Int) (h : l.length ≤ 1048576) : (groupB R C l i j).length ≤ 1048576 := by
  unfold groupB
  split
  · rw [nI_length]
    have := grpL_len C l (atI C i j)
    omega
  · simp
theorem PostL.of_irow {w w' : World} {l : List Int} {v : Value} {base : Nat} (h : IRow w' base v l) (hbase : w.heap.size ≤ base) (hb : Below w.heap.size w w') (ok : Bool) : PostL w l ok (.returned (.tuple #[v, .bool ok])) w' := by
  obtain ⟨A', cap', rfl, ho, hn⟩ := h.shape
  exact PostL.mk ho (fun a ha => Nat.le_trans hbase (hn a ha)) hb
theorem PostL.of_post {w w1 w' : World} {l : List Int} {v : Value} (h : PostI w1 l (.returned v) w') (hb : Below w.heap.size w w1) (ok : Bool) : PostL w l ok (.returned (.tuple #[v, .bool ok])) w' := by
  obtain ⟨A', cap', e, ho, hn, hb'⟩ := h
  cases e
  exact PostL.mk ho (hn.mono hb.size) (hb.trans (hb'.mono hb.size))
theorem PostI.value {w w' : World} {l : List Int} {e : Ending} (h : PostI w l e w') : ∃ A cap, e = .returned (.slice A l.length cap) ∧ Own w' A 3 (ints l) ∧ New w A ∧ Below w.heap.size w w' := h
def numsTo (C : Int) (l : List (Int × Int)) (k m : Nat) : List Nat := (List.range m).filter fun x => decide (nmb C l x = nmb C l k)
theorem numsTo_yes {C : Int} {l : List (Int × Int)} {k m : Nat} (h : nmb C l m = nmb C l k) : numsTo C l k (m + 1) = numsTo C l k m ++ [m] := by
  unfold numsTo
  rw [List.range_succ, List.filter_append]
  simp [h]
theorem numsTo_no {C : Int} {l : List (Int × Int)} {k m : Nat} (h : ¬ nmb C l m = nmb C l k) : numsTo C l k (m + 1) = numsTo C l k m := by
  unfold numsTo
  rw [List.range_succ, List.filter_append]
  simp [h]
theorem numsTo_len (C : Int) (l : List (Int × Int)) (k m : Nat) : (numsTo C l k m).length ≤ m := by
  unfold numsTo
  have := List.length_filter_le (fun x => decide (nmb C l x = nmb C l k)) (List.range m)
  rwa [List.length_range] at this
theorem numL_at {c : Nat} {l : List (Int × Int)} {x : Nat} (h : x < l.length) : (ints (numL c l))[x]? = some (.int .i64 (nmb (c : Int) l x)) := by
  unfold numL nmb GG
  rw [Int.toNat_natCast]
  exact numV_at h
theorem numL_len (c : Nat) (l : List (Int × Int)) : (numL c l).length = l.length := numV_len _ _
theorem spec_GroupOf (R C : Int) (A : Option Addr) (cap : Nat) (l : List (Int × Int)) (i j : Int) (w : World) (hn : l.length ≤ 1048576) (hr : Rd w w.heap.size A (flat l)) :
    Calls Try.prog 23 #[.agg #[.int .i64 R, .int .i64 C, .slice A l.length cap], .int .i64 i, .int .i64 j] w (PostL w (groupB R C l i j) (okJ R C l i j)) := by
  unfold groupB
  rcases Bool.eq_false_or_eq_true (okJ R C l i j) with hh | hh
  · rw [hh, if_pos rfl]
    have HH := Lib.hid hh
    obtain ⟨hg, hi, hJ⟩ := okJ_parts hh
    obtain ⟨_, _, hkl, h90⟩ := at_bound hg hi
    obtain ⟨m1, m2⟩ := wrap_at hg hi
    obtain ⟨r, c, rfl, rfl, hG⟩ := geo_of hg
    clear hg hi hJ hh
    go_enter Try.func23, Try.ntmps23
    obtain ⟨v0, hv0⟩ : ∃ v, v = w.alloc (.cells #[.int .i64 (r : Int), .int .i64 (c : Int), .slice A l.length cap] 31) := ⟨_, rfl⟩
    have X0 : Whole v0 w.heap.size 31 [.int .i64 (r : Int), .int .i64 (c : Int), .slice A l.length cap] := by rw [hv0]; exact heap_alloc_new w _
    have hb : Below w.heap.size w v0 := by rw [hv0]; exact (Below.refl _ _).alloc (Nat.le_refl _) _
    have HV := Lib.hid hv0.symm
    clear hv0
    go_upto_region 1 with (fail)
    rewrite [HV.out]
    clear HV
    have X0k0 : v0.cell? ⟨w.heap.size, 0, none⟩ = some (.int .i64 (r : Int)) := (X0.cell 0).trans rfl; have X0k1 : v0.cell? ⟨w.heap.size, 1, none⟩ = some (.int .i64 (c : Int)) := (X0.cell 1).trans rfl; have X0k2 : v0.cell? ⟨w.heap.size, 2, none⟩ = some (.slice A l.length cap) := (X0.cell 2).trans rfl
    go_wp2_with fail
    refine (spec_ggHas _ _ _ _ l _ _ _ hn ((hr.below hb).mono hb.size)).mono ?_; rintro e w1 ⟨rfl, b1⟩
    rewrite [HH.out]
    clear X0k0 X0k1 X0k2
    replace X0 := X0.below b1 X0.lt
    replace hb := hb.trans (b1.mono hb.size)
    clear b1
    have X0k0 : w1.cell? ⟨w.heap.size, 0, none⟩ = some (.int .i64 (r : Int)) := (X0.cell 0).trans rfl; have X0k1 : w1.cell? ⟨w.heap.size, 1, none⟩ = some (.int .i64 (c : Int)) := (X0.cell 1).trans rfl; have X0k2 : w1.cell? ⟨w.heap.size, 2, none⟩ = some (.slice A l.length cap) := (X0.cell 2).trans rfl
    go_wp2_with fail
    refine (spec_ggGroups r c A cap l _ hG ((hr.below hb).mono hb.size)).mono ?_
    rintro e w2 hP
    obtain ⟨A2, c2, rfl, o2, n2, b2⟩ := hP.value
    clear hP
    clear X0k0 X0k1 X0k2
    replace X0 := X0.below b2 X0.lt
    replace hb := hb.trans (b2.mono hb.size)
    obtain ⟨g, rest, rfl, hw⟩ := o2 (by rw [ints_length, numL_len]; omega)
    clear o2 n2 b2
    rewrite [numL_len]
    have hz0 := X0.lt
    have hzg := hw.lt
    have hzb := hb.size
    go_wp2_with fail
    generalize hB : w2.heap.size = base at hz0 hzg hzb
    go_loopw [21, 9] (fun t v wr => ∃ k : Nat, t = .int .i64 k ∧ k ≤ l.length ∧ IRow wr base v (nI (numsTo (c : Int) l (atI (c : Int) i j) k)) ∧ Whole wr w.heap.size 31 [.int .i64 (r : Int), .int .i64 (c : Int), .slice A l.length cap] ∧ Whole wr g 3 (ints (numL c l) ++ rest) ∧ Below w.heap.size w wr ∧ base ≤ wr.heap.size) (fun t _ _ => l.length - (intOf t).toNat)
    case atStart => exact ⟨0, rfl, Nat.zero_le _, IRow.nil, X0, hw, hb, by omega⟩
    case round =>
      clear X0 hw hb
      obtain ⟨k, rfl, hk, hrow, X0, hw, hb, hs⟩ := hrel
      by_cases hlt : k < l.length
      · have hck : wr.cell? ⟨g, k, none⟩ = some (.int .i64 (nmb (c : Int) l k)) := by rw [hw.cell k, List.getElem?_append_left (by rw [ints_length, numL_len]; exact hlt)]; exact numL_at hlt
        have hci : wr.cell? ⟨g, atI (c : Int) i j, none⟩ = some (.int .i64 (nmb (c : Int) l (atI (c : Int) i j))) := by rw [hw.cell _, List.getElem?_append_left (by rw [ints_length, numL_len]; exact hkl)]; exact numL_at hkl
        have HY := Lib.hid (numsTo_yes (C := (c : Int)) (l := l) (k := atI (c : Int) i j) (m := k))
        have HN := Lib.hid (numsTo_no (C := (c : Int)) (l := l) (k := atI (c : Int) i j) (m := k))
        have hle := numsTo_len (c : Int) l (atI (c : Int) i j) k
        have hl5 : (nI (numsTo (c : Int) l (atI (c : Int) i j) k)).length ≤ 1048576 := by rw [nI_length]; omega
        have X0k0 : wr.cell? ⟨w.heap.size, 0, none⟩ = some (.int .i64 (r : Int)) := (X0.cell 0).trans rfl; have X0k1 : wr.cell? ⟨w.heap.size, 1, none⟩ = some (.int .i64 (c : Int)) := (X0.cell 1).trans rfl; have X0k2 : wr.cell? ⟨w.heap.size, 2, none⟩ = some (.slice A l.length cap) := (X0.cell 2).trans rfl
        by_cases he : nmb (c : Int) l k = nmb (c : Int) l (atI (c : Int) i j)
        · have HE := Lib.hid (HY.out he)
          clear HY HN
          rw [he] at hck
          clear he
          generalize nmb (c : Int) l (atI (c : Int) i j) = x at *
          go_wp2_with (first | (at_builtin; refine wpList_push (x0 := (k : Int)) hrow hl5 hs rfl _ _ rfl rfl rfl ?_; intro v6 w6 hrow6 hg6 hb6 hl6; have hX6 := X0.below hb6 hz0; have hw6 := hw.below hb6 hzg; have hb7 := hb.trans (hb6.mono hzb); have hs6 := Nat.le_trans hs hb6.size) | fail)
          go_roundw
          case rel => exact ⟨k + 1, by go_num, by omega, by rw [HE.out, nI_append]; exact hrow6, hX6, hw6, hb7, hs6⟩
          case measure => simp [intOf]; omega
        · have HE := Lib.hid (HN.out he)
          clear HY HN
          generalize nmb (c : Int) l (atI (c : Int) i j) = x at *
          generalize nmb (c : Int) l k = y at *
          go_wp2_with fail
          go_roundw
          case rel => exact ⟨k + 1, by go_num, by omega, by rw [HE.out]; exact hrow, X0, hw, hb, hs⟩
          case measure => simp [intOf]; omega
      · obtain rfl : k = l.length := by omega
        go_wp2
        go_returns
        exact PostL.of_irow hrow hzb hb true
  · rw [hh]
    have HH := Lib.hid hh
    clear hh
    go_enter Try.func23, Try.ntmps23
    go_wp2_with fail
    refine (spec_ggHas _ _ _ _ l _ _ _ hn ((hr.below (by (repeat' (first | (with_reducible exact Below.refl _ _) | (with_reducible assumption) | (with_reducible refine Below.alloc ?_ ?_ _) | (with_reducible refine Below.setCell ?_ ?_ _) | (with_reducible refine Below.drew ?_) | (with_reducible refine below_drewN ?_ _) | (with_reducible refine Below.trans ?_ (Below.mono (by assumption) ?_)) | (with_reducible exact Nat.le_refl _) | (simp; done) | omega | (simp at *; omega))) : Below w.heap.size w _)).mono (by go_size))).mono ?_; rintro e w1 ⟨rfl, b1⟩
    rewrite [HH.out]
    go_wp2
    go_returns
    exact PostL.none_ (by (repeat' (first | (with_reducible exact Below.refl _ _) | (with_reducible assumption) | (with_reducible refine Below.alloc ?_ ?_ _) | (with_reducible refine Below.setCell ?_ ?_ _) | (with_reducible refine Below.drew ?_) | (with_reducible refine below_drewN ?_ _) | (with_reducible refine Below.trans ?_ (Below.mono (by assumption) ?_)) | (with_reducible exact Nat.le_refl _) | (simp; done) | omega | (simp at *; omega))))
theorem impl_GroupOf (R C : Int) (A : Option Addr) (cap : Nat) (l : List (Int × Int)) (i j : Int) (w : World) (hn : l.length ≤ 1048576) (hr : Rd w w.heap.size A (flat l)) :
    Calls Try.prog 24 #[.agg #[.int .i64 R, .int .i64 C, .slice A l.length cap], .int .i64 i, .int .i64 j] w (PostL w (groupB R C l i j) (okJ R C l i j)) := by
  unfold groupB
  rcases Bool.eq_false_or_eq_true (okJ R C l i j) with hh | hh
  · rw [hh, if_pos rfl]
    have HH := Lib.hid hh
    obtain ⟨hg, hi, hJ⟩ := okJ_parts hh
    obtain ⟨_, _, hkl, h90⟩ := at_bound hg hi
    obtain ⟨r, c, rfl, rfl, hG⟩ := geo_of hg
    have HE := Lib.hid (grp_of_cell hG hkl hJ)
    rw [← HE.out]
    clear hg hi hh
    have HJ := Lib.hid hJ
    clear hJ
    go_enter Try.func24, Try.ntmps24
    obtain ⟨v0, hv0⟩ : ∃ v, v = w.alloc (.cells #[.int .i64 (r : Int), .int .i64 (c : Int), .slice A l.length cap] 31) := ⟨_, rfl⟩
    have X0 : Whole v0 w.heap.size 31 [.int .i64 (r : Int), .int .i64 (c : Int), .slice A l.length cap] := by rw [hv0]; exact heap_alloc_new w _
    have hb : Below w.heap.size w v0 := by rw [hv0]; exact (Below.refl _ _).alloc (Nat.le_refl _) _
    have HV := Lib.hid hv0.symm
    clear hv0
    go_upto_region 1 with (fail)
    rewrite [HV.out]
    clear HV
    have X0k0 : v0.cell? ⟨w.heap.size, 0, none⟩ = some (.int .i64 (r : Int)) := (X0.cell 0).trans rfl; have X0k1 : v0.cell? ⟨w.heap.size, 1, none⟩ = some (.int .i64 (c : Int)) := (X0.cell 1).trans rfl; have X0k2 : v0.cell? ⟨w.heap.size, 2, none⟩ = some (.slice A l.length cap) := (X0.cell 2).trans rfl
    go_wp2_with fail
    refine (impl_joiningIndex _ _ _ _ l _ _ _ hn ((hr.below hb).mono hb.size)).mono ?_; rintro e w1 ⟨rfl, b1⟩
    rewrite [HH.out, show selI true (atI (c : Int) i j : Int) = (atI (c : Int) i j : Int) from rfl]
    clear X0k0 X0k1 X0k2
    replace X0 := X0.below b1 X0.lt
    replace hb := hb.trans (b1.mono hb.size)
    clear b1
    have X0k0 : w1.cell? ⟨w.heap.size, 0, none⟩ = some (.int .i64 (r : Int)) := (X0.cell 0).trans rfl; have X0k1 : w1.cell? ⟨w.heap.size, 1, none⟩ = some (.int .i64 (c : Int)) := (X0.cell 1).trans rfl; have X0k2 : w1.cell? ⟨w.heap.size, 2, none⟩ = some (.slice A l.length cap) := (X0.cell 2).trans rfl
    go_wp2_with fail
    refine (impl_groupWith r c A cap l _ _ hG ((hr.below hb).mono hb.size) hkl HJ.out).mono ?_
    rintro e w2 hP
    obtain ⟨A2, c2, rfl, o2, n2, b2⟩ := hP.value
    go_wp2
    go_returns
    exact PostL.mk o2 (n2.mono hb.size) (hb.trans (b2.mono hb.size))
  · rw [hh]
    have HH := Lib.hid hh
    clear hh
    go_enter Try.func24, Try.ntmps24
    go_wp2_with fail
    refine (impl_joiningIndex _ _ _ _ l _ _ _ hn ((hr.below (by (repeat' (first | (with_reducible exact Below.refl _ _) | (with_reducible assumption) | (with_reducible refine Below.alloc ?_ ?_ _) | (with_reducible refine Below.setCell ?_ ?_ _) | (with_reducible refine Below.drew ?_) | (with_reducible refine below_drewN ?_ _) | (with_reducible refine Below.trans ?_ (Below.mono (by assumption) ?_)) | (with_reducible exact Nat.le_refl _) | (simp; done) | omega | (simp at *; omega))) : Below w.heap.size w _)).mono (by go_size))).mono ?_; rintro e w1 ⟨rfl, b1⟩
    rewrite [HH.out]
    go_wp2
    go_returns
    exact PostL.none_ (by (repeat' (first | (with_reducible exact Below.refl _ _) | (with_reducible assumption) | (with_reducible refine Below.alloc ?_ ?_ _) | (with_reducible refine Below.setCell ?_ ?_ _) | (with_reducible refine Below.drew ?_) | (with_reducible refine below_drewN ?_ _) | (with_reducible refine Below.trans ?_ (Below.mono (by assumption) ?_)) | (with_reducible exact Nat.le_refl _) | (simp; done) | omega | (simp at *; omega))))
end Go.Proofs.Ytkgbbondafcjpaa
