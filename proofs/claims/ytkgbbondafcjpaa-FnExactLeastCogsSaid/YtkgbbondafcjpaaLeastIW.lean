/- LeastCogs, the program's, walked. -/
import Derived.Test.YtkgbbondafcjpaaLeastI
namespace Go.Proofs.Ytkgbbondafcjpaa
open Go.ChangeShapes Go.WideShapes Go.ChangeAt Go.RowKit Go.Joins Go.Deep
set_option linter.unusedSimpArgs false
set_option linter.unusedVariables false
set_option maxRecDepth 100000
set_option maxHeartbeats 4000000
theorem ret_ib {a b : Int} {c d : Bool} (h1 : a = b) (h2 : c = d) : Ending.returned (.tuple #[.int .i64 a, .bool c]) = .returned (.tuple #[.int .i64 b, .bool d]) := by rw [h1, h2]
theorem impl_LeastCogs (R C : Int) (A : Option Addr) (cap : Nat) (l : List (Int × Int)) (i j i2 j2 : Int) (w : World) (hn : l.length ≤ 1048576) (hr : Rd w w.heap.size A (flat l)) : Calls Try.prog 33 #[.agg #[.int .i64 R, .int .i64 C, .slice A l.length cap], .int .i64 i, .int .i64 j, .int .i64 i2, .int .i64 j2] w (fun e w' => e = .returned (.tuple #[.int .i64 (lcV R C l i j i2 j2), .bool (okC R C l i j i2 j2)]) ∧ Below w.heap.size w w') := by
  unfold lcV okC okJJ
  rcases Bool.eq_false_or_eq_true (okJ R C l i j && okJ R C l i2 j2) with h12 | h12
  · rw [h12, Bool.true_and]
    rw [Bool.and_eq_true] at h12
    obtain ⟨h1, h2⟩ := h12
    have H1 := Lib.hid h1
    have H2 := Lib.hid h2
    obtain ⟨hg, hi, hJ⟩ := okJ_parts h1
    obtain ⟨_, hi2, _⟩ := okJ_parts h2
    obtain ⟨_, _, hk1, h90⟩ := at_bound hg hi
    obtain ⟨_, _, hk2, _⟩ := at_bound hg hi2
    obtain ⟨r, c, rfl, rfl, hG⟩ := geo_of hg
    clear hg hi hi2 h1 h2 hJ
    generalize ha : atI (c : Int) i j = a at *
    generalize hb2 : atI (c : Int) i2 j2 = tt at *
    have HIn := Lib.hid (fun k h => lcF_in (b := tt) (k := k) hG hk1 h)
    have HOut := Lib.hid (fun h => lcF_out (b := tt) hG hk1 hk2 h)
    have HInv := Lib.hid (fun k => lsk_inv hG hk1 k)
    have HLo := Lib.hid (lo_ok c l a)
    have HNil := Lib.hid (fun k h => LQ_nil (J := J l) (E := emp l) (near := nearL c l.length) (n := l.length) (src := a) (k := k) h)
    generalize lcF (c : Int) l a tt = F at *
    go_enter Try.func33, Try.ntmps33
    obtain ⟨v0, hv0⟩ : ∃ v, v = w.alloc (.cells #[.int .i64 (r : Int), .int .i64 (c : Int), .slice A l.length cap] 31) := ⟨_, rfl⟩; have X0 : Whole v0 w.heap.size 31 [.int .i64 (r : Int), .int .i64 (c : Int), .slice A l.length cap] := (by rw [hv0]; exact heap_alloc_new w _); have hb : Below w.heap.size w v0 := (by rw [hv0]; exact (Below.refl _ _).alloc (Nat.le_refl _) _); have HV := Lib.hid hv0.symm; clear hv0; go_upto_region 1 with (fail); rewrite [HV.out]; clear HV; have X0k0 : v0.cell? ⟨w.heap.size, 0, none⟩ = some (.int .i64 (r : Int)) := (X0.cell 0).trans rfl; have X0k1 : v0.cell? ⟨w.heap.size, 1, none⟩ = some (.int .i64 (c : Int)) := (X0.cell 1).trans rfl; have X0k2 : v0.cell? ⟨w.heap.size, 2, none⟩ = some (.slice A l.length cap) := (X0.cell 2).trans rfl
    go_wp2_with fail
    refine (impl_joiningIndex _ _ _ _ l _ _ _ hn ((hr.below hb).mono hb.size)).mono ?_; rintro e w1 ⟨rfl, b1⟩
    rewrite [H1.out, ha, show selI true (a : Int) = (a : Int) from rfl]
    (clear X0k0 X0k1 X0k2; replace X0 := X0.below b1 X0.lt; replace hb := hb.trans (b1.mono hb.size); clear b1; have X0k0 : w1.cell? ⟨w.heap.size, 0, none⟩ = some (.int .i64 (r : Int)) := (X0.cell 0).trans rfl; have X0k1 : w1.cell? ⟨w.heap.size, 1, none⟩ = some (.int .i64 (c : Int)) := (X0.cell 1).trans rfl; have X0k2 : w1.cell? ⟨w.heap.size, 2, none⟩ = some (.slice A l.length cap) := (X0.cell 2).trans rfl)
    go_wp2_with fail
    refine (impl_joiningIndex _ _ _ _ l _ _ _ hn ((hr.below hb).mono hb.size)).mono ?_; rintro e w2 ⟨rfl, b2⟩
    rewrite [H2.out, hb2, show selI true (tt : Int) = (tt : Int) from rfl]
    (clear X0k0 X0k1 X0k2; replace X0 := X0.below b2 X0.lt; replace hb := hb.trans (b2.mono hb.size); clear b2; have X0k0 : w2.cell? ⟨w.heap.size, 0, none⟩ = some (.int .i64 (r : Int)) := (X0.cell 0).trans rfl; have X0k1 : w2.cell? ⟨w.heap.size, 1, none⟩ = some (.int .i64 (c : Int)) := (X0.cell 1).trans rfl; have X0k2 : w2.cell? ⟨w.heap.size, 2, none⟩ = some (.slice A l.length cap) := (X0.cell 2).trans rfl)
    go_wp2_with fail
    refine (impl_openCells2 _ _ _ _ l _ hn ((hr.below hb).mono hb.size)).mono ?_; rintro e w3 ⟨B, rfl, hB, hK, b3⟩
    have hB' : w.heap.size ≤ B := Nat.le_trans hb.size hB
    (clear X0k0 X0k1 X0k2; replace X0 := X0.below b3 X0.lt; replace hb := hb.trans (b3.mono hb.size); clear b3; have X0k0 : w3.cell? ⟨w.heap.size, 0, none⟩ = some (.int .i64 (r : Int)) := (X0.cell 0).trans rfl; have X0k1 : w3.cell? ⟨w.heap.size, 1, none⟩ = some (.int .i64 (c : Int)) := (X0.cell 1).trans rfl; have X0k2 : w3.cell? ⟨w.heap.size, 2, none⟩ = some (.slice A l.length cap) := (X0.cell 2).trans rfl)
    clear X0k0 X0k1 X0k2
    clear hB
    go_upto_region 7 with (fail)
    have hrow : IRow (w3.alloc (.cells #[.int .i64 (a : Int)] 3)) (w.heap.size + 1) (.slice (some ⟨w3.heap.size, 0, none⟩) 1 1) (nI (lsk c l a 0).2) := (irow_lit (heap_alloc_new w3 _)).mono X0.lt
    have b4 : Below w3.heap.size w3 (w3.alloc (.cells #[.int .i64 (a : Int)] 3)) := (Below.refl _ _).alloc (Nat.le_refl _) _
    replace X0 := X0.below b4 X0.lt
    replace hb := hb.trans (b4.mono hb.size)
    have hK4 : Keys (w3.alloc (.cells #[.int .i64 (a : Int)] 3)) B l.length (lo c l a 0) := hK.alloc _
    clear hK b4
    generalize w3.alloc (.cells #[.int .i64 (a : Int)] 3) = w4 at *
    generalize Value.slice (some (⟨w3.heap.size, 0, none⟩ : Addr)) 1 1 = v4 at *
    go_wp2_with fail
    go_loopw [17, 18, 19] (fun bd k _ wr => ∃ (m : Nat) (vd : Value), vd = bd ∧ k = .int .i64 m ∧ m ≤ (lsk c l a m).1.length ∧ (∀ j, j < m → tt ∉ LQ (J l) (emp l) (nearL c l.length) l.length a j) ∧ Whole wr w.heap.size 31 [.int .i64 (r : Int), .int .i64 (c : Int), .slice A l.length cap] ∧ IRow wr (w.heap.size + 1) vd (nI (lsk c l a m).2) ∧ Keys wr B l.length (lo c l a m) ∧ Below w.heap.size w wr) (fun _ k _ _ => l.length + 1 - (intOf k).toNat)
    case atStart => exact ⟨0, _, rfl, rfl, Nat.zero_le _, fun j hj => absurd hj (Nat.not_lt_zero j), X0, hrow, hK4, hb⟩
    case round =>
      clear X0 hrow hK4 hb
      obtain ⟨m, vd, rfl, rfl, hm, hno, X0, hrow, hK, hb⟩ := hrel
      obtain ⟨hnd, hlt, hsum, hQl, hQlt⟩ := HInv.out m
      have hl0 := HLo.out m
      have hLQ : LQ (J l) (emp l) (nearL c l.length) l.length a m = lvQ (J l) (nearL c l.length) l.length (lsk c l a m) := rfl
      rcases Nat.eq_zero_or_pos (lsk c l a m).2.length with hz | hz
      · have hnil : (lsk c l a m).2 = [] := List.eq_nil_of_length_eq_zero hz
        have hout := HOut.out (fun j hj => by
          by_cases hjm : j < m
          · exact hno j hjm hj
          · rw [(HNil.out m hnil j (by omega)).2] at hj
            exact List.not_mem_nil hj)
        have hd : decide (0 ≤ F) = false := by simp; omega
        obtain ⟨A5, c5, rfl, _, _⟩ := hrow.shape
        rw [nI_length, hz] at *
        have HD := Lib.hid hd
        clear hd hl0 hLQ hno hK hrow
        go_wp2
        go_returns
        exact ⟨ret_ib (by rw [HD.out]; rfl) (by rw [HD.out]), hb⟩
      · obtain ⟨A5, c5, rfl, o5, _⟩ := hrow.shape
        obtain ⟨g5, rest5, rfl, X5⟩ := o5 (by rw [ints_length, nI_length]; exact hz)
        have hrd := o5.rd
        rw [nI_length] at *
        have X0k0 : wr.cell? ⟨w.heap.size, 0, none⟩ = some (.int .i64 (r : Int)) := (X0.cell 0).trans rfl; have X0k1 : wr.cell? ⟨w.heap.size, 1, none⟩ = some (.int .i64 (c : Int)) := (X0.cell 1).trans rfl; have X0k2 : wr.cell? ⟨w.heap.size, 2, none⟩ = some (.slice A l.length cap) := (X0.cell 2).trans rfl
        have hsp := impl_spread2 r c A cap l B l.length g5 0 c5 (lsk c l a m).2 (lsk c l a m).1 (lo c l a m) wr hG ((hr.below hb).mono hb.size) hz hnd hlt hK hl0 hrd
        go_wp2_with fail
        refine hsp.mono ?_
        rintro e w5 ⟨v, v2, rfl, hr1, hr2, hK5, hg5⟩
        clear X0k0 X0k1 X0k2
        have X0' := X0.grown hg5 (fun e => hK.whole X0 (by cases e; rfl))
        have hb' := hb.grown hg5 hb.size (fun k hk => by cases hk; exact hB')
        have hr2' : IRow w5 (w.heap.size + 1) v2 (nI (lsk c l a (m + 1)).2) := hr2.mono (by have := X0.lt; omega)
        have hK' : Keys w5 B l.length (lo c l a (m + 1)) := hK5
        have hQp : 0 < (lvQ (J l) (nearL c l.length) l.length (lsk c l a m)).length := by
          have hm0 : (lsk c l a m).2[0] ∈ lvQ (J l) (nearL c l.length) l.length (lsk c l a m) := brs_le (List.getElem_mem hz) _
          exact List.length_pos_of_mem hm0
        have hm1 : m + 1 ≤ (lsk c l a (m + 1)).1.length := by
          show m + 1 ≤ ((lsk c l a m).1 ++ lvQ (J l) (nearL c l.length) l.length (lsk c l a m)).length
          rw [List.length_append]
          omega
        have hr1' : IRow w5 (wr.heap.size + 1) v (nI (lvQ (J l) (nearL c l.length) l.length (lsk c l a m))) := hr1
        clear hsp hr1 hr2 hK5 hg5 hrd o5 X5 hrow X0 hb hK hl0 hnd hlt
        generalize hQ : lvQ (J l) (nearL c l.length) l.length (lsk c l a m) = Q at *
        obtain ⟨A6, c6, rfl, o6, _⟩ := hr1'.shape
        obtain ⟨g6, rest6, rfl, X6⟩ := o6 (by rw [ints_length, nI_length]; exact hQp)
        have hcl := Try.slices_Contains_int g6 0 (nI Q).length c6 (nI Q) (tt : Int) w5 (Nat.le_refl _) (by rw [nI_length]; omega) (fun q hq => by
          rw [Nat.zero_add, X6.cell q, List.getElem?_append_left (by rw [ints_length]; exact hq), ints_at _ q hq, List.getD_eq_getElem?_getD, List.getElem?_eq_getElem hq]; rfl)
        rw [nI_has] at hcl
        go_wp2_with fail
        refine hcl.mono ?_; rintro e w6 ⟨rfl, rfl⟩
        clear hcl X6 o6 hr1'
        rcases Bool.eq_false_or_eq_true (Q.contains tt) with hq | hq
        · rewrite [hq]
          have hF := HIn.out m (by rw [hLQ]; exact List.contains_iff_mem.1 hq)
          have HF := Lib.hid hF
          have HD := Lib.hid (show decide (0 ≤ F) = true by rw [hF]; simp)
          clear hF hq hLQ
          go_wp2
          go_returns
          exact ⟨ret_ib (by rw [HD.out, HF.out]; rfl) (by rw [HD.out]), hb'⟩
        · rewrite [hq]
          have hno' : ∀ j, j < m + 1 → tt ∉ LQ (J l) (emp l) (nearL c l.length) l.length a j := fun j hj h => by
            rcases Nat.eq_or_lt_of_le (show j ≤ m by omega) with e | e
            · subst e
              rw [hLQ, ← List.contains_iff_mem, hq] at h
              cases h
            · exact hno j e h
          clear hq hLQ hno
          go_wp2
          go_roundw
          case rel => exact ⟨m + 1, _, rfl, by go_num, hm1, hno', X0', hr2', hK', hb'⟩
          case measure => simp [intOf]; omega
  · rw [h12, Bool.false_and]
    rcases Bool.eq_false_or_eq_true (okJ R C l i j) with h1 | h1
    · have H1 := Lib.hid h1
      have H2 : Hid (okJ R C l i2 j2 = false) := Lib.hid (by rw [h1, Bool.true_and] at h12; exact h12)
      clear h1 h12
      go_enter Try.func33, Try.ntmps33
      obtain ⟨v0, hv0⟩ : ∃ v, v = w.alloc (.cells #[.int .i64 R, .int .i64 C, .slice A l.length cap] 31) := ⟨_, rfl⟩; have X0 : Whole v0 w.heap.size 31 [.int .i64 R, .int .i64 C, .slice A l.length cap] := (by rw [hv0]; exact heap_alloc_new w _); have hb : Below w.heap.size w v0 := (by rw [hv0]; exact (Below.refl _ _).alloc (Nat.le_refl _) _); have HV := Lib.hid hv0.symm; clear hv0; go_upto_region 1 with (fail); rewrite [HV.out]; clear HV; have X0k0 : v0.cell? ⟨w.heap.size, 0, none⟩ = some (.int .i64 R) := (X0.cell 0).trans rfl; have X0k1 : v0.cell? ⟨w.heap.size, 1, none⟩ = some (.int .i64 C) := (X0.cell 1).trans rfl; have X0k2 : v0.cell? ⟨w.heap.size, 2, none⟩ = some (.slice A l.length cap) := (X0.cell 2).trans rfl
      go_wp2_with fail
      refine (impl_joiningIndex _ _ _ _ l _ _ _ hn ((hr.below hb).mono hb.size)).mono ?_; rintro e w1 ⟨rfl, b1⟩
      rewrite [H1.out]
      (clear X0k0 X0k1 X0k2; replace X0 := X0.below b1 X0.lt; replace hb := hb.trans (b1.mono hb.size); clear b1; have X0k0 : w1.cell? ⟨w.heap.size, 0, none⟩ = some (.int .i64 R) := (X0.cell 0).trans rfl; have X0k1 : w1.cell? ⟨w.heap.size, 1, none⟩ = some (.int .i64 C) := (X0.cell 1).trans rfl; have X0k2 : w1.cell? ⟨w.heap.size, 2, none⟩ = some (.slice A l.length cap) := (X0.cell 2).trans rfl)
      go_wp2_with fail
      refine (impl_joiningIndex _ _ _ _ l _ _ _ hn ((hr.below hb).mono hb.size)).mono ?_; rintro e w2 ⟨rfl, b2⟩
      rewrite [H2.out]
      (clear X0k0 X0k1 X0k2; replace X0 := X0.below b2 X0.lt; replace hb := hb.trans (b2.mono hb.size); clear b2; have X0k0 : w2.cell? ⟨w.heap.size, 0, none⟩ = some (.int .i64 R) := (X0.cell 0).trans rfl; have X0k1 : w2.cell? ⟨w.heap.size, 1, none⟩ = some (.int .i64 C) := (X0.cell 1).trans rfl; have X0k2 : w2.cell? ⟨w.heap.size, 2, none⟩ = some (.slice A l.length cap) := (X0.cell 2).trans rfl)
      go_wp2
      go_returns
      exact ⟨ret_ib rfl rfl, by (repeat' (first | (with_reducible exact Below.refl _ _) | (with_reducible assumption) | (with_reducible refine Below.alloc ?_ ?_ _) | (with_reducible refine Below.setCell ?_ ?_ _) | (with_reducible refine Below.drew ?_) | (with_reducible refine below_drewN ?_ _) | (with_reducible refine Below.trans ?_ (Below.mono (by assumption) ?_)) | (with_reducible exact Nat.le_refl _) | (simp; done) | omega | (simp at *; omega)))⟩
    · have H1 := Lib.hid h1
      clear h1 h12
      go_enter Try.func33, Try.ntmps33
      obtain ⟨v0, hv0⟩ : ∃ v, v = w.alloc (.cells #[.int .i64 R, .int .i64 C, .slice A l.length cap] 31) := ⟨_, rfl⟩; have X0 : Whole v0 w.heap.size 31 [.int .i64 R, .int .i64 C, .slice A l.length cap] := (by rw [hv0]; exact heap_alloc_new w _); have hb : Below w.heap.size w v0 := (by rw [hv0]; exact (Below.refl _ _).alloc (Nat.le_refl _) _); have HV := Lib.hid hv0.symm; clear hv0; go_upto_region 1 with (fail); rewrite [HV.out]; clear HV; have X0k0 : v0.cell? ⟨w.heap.size, 0, none⟩ = some (.int .i64 R) := (X0.cell 0).trans rfl; have X0k1 : v0.cell? ⟨w.heap.size, 1, none⟩ = some (.int .i64 C) := (X0.cell 1).trans rfl; have X0k2 : v0.cell? ⟨w.heap.size, 2, none⟩ = some (.slice A l.length cap) := (X0.cell 2).trans rfl
      go_wp2_with fail
      refine (impl_joiningIndex _ _ _ _ l _ _ _ hn ((hr.below hb).mono hb.size)).mono ?_; rintro e w1 ⟨rfl, b1⟩
      rewrite [H1.out]
      (clear X0k0 X0k1 X0k2; replace X0 := X0.below b1 X0.lt; replace hb := hb.trans (b1.mono hb.size); clear b1; have X0k0 : w1.cell? ⟨w.heap.size, 0, none⟩ = some (.int .i64 R) := (X0.cell 0).trans rfl; have X0k1 : w1.cell? ⟨w.heap.size, 1, none⟩ = some (.int .i64 C) := (X0.cell 1).trans rfl; have X0k2 : w1.cell? ⟨w.heap.size, 2, none⟩ = some (.slice A l.length cap) := (X0.cell 2).trans rfl)
      go_wp2_with fail
      refine (impl_joiningIndex _ _ _ _ l _ _ _ hn ((hr.below hb).mono hb.size)).mono ?_; rintro e w2 ⟨rfl, b2⟩
      (clear X0k0 X0k1 X0k2; replace X0 := X0.below b2 X0.lt; replace hb := hb.trans (b2.mono hb.size); clear b2; have X0k0 : w2.cell? ⟨w.heap.size, 0, none⟩ = some (.int .i64 R) := (X0.cell 0).trans rfl; have X0k1 : w2.cell? ⟨w.heap.size, 1, none⟩ = some (.int .i64 C) := (X0.cell 1).trans rfl; have X0k2 : w2.cell? ⟨w.heap.size, 2, none⟩ = some (.slice A l.length cap) := (X0.cell 2).trans rfl)
      go_wp2
      go_returns
      exact ⟨ret_ib rfl rfl, by (repeat' (first | (with_reducible exact Below.refl _ _) | (with_reducible assumption) | (with_reducible refine Below.alloc ?_ ?_ _) | (with_reducible refine Below.setCell ?_ ?_ _) | (with_reducible refine Below.drew ?_) | (with_reducible refine below_drewN ?_ _) | (with_reducible refine Below.trans ?_ (Below.mono (by assumption) ?_)) | (with_reducible exact Nat.le_refl _) | (simp; done) | omega | (simp at *; omega)))⟩
end Go.Proofs.Ytkgbbondafcjpaa
