/- Contracts of the program and of the model, walked, part 7 of 9. No condition but what each says. -/
import Derived.Deep.RegionHeld3
import Derived.Laws.StructEq
import Derived.Test.YtoflhjekldlaiaaM6
import Derived.Lib.SlicesCompact
import Derived.Lib.RowBridge
import Derived.Test.YtoflhjekldlaiaaM3
import Derived.Test.YtoflhjekldlaiaaM5
import Derived.Test.YtoflhjekldlaiaaM4
import Derived.Deep.DeepCutAuto
namespace Go.Proofs.Ytoflhjekldlaiaa
open Go.ChangeShapes Go.WideShapes Go.ChangeAt Go.RowKit Go.Joins Go.Deep
set_option linter.unusedSimpArgs false
set_option linter.unusedVariables false
set_option maxRecDepth 100000
set_option maxHeartbeats 4000000
theorem ends_part {E : List (Int × Int × Int)} {i : Nat} (hi : i < E.length) (w : World) : (Go.part 27 (flatF E).toArray (i * 3)).run Try.prog w = .ok (.agg #[.int .i64 (E.getD i (0, 0, 0)).1, .int .i64 (E.getD i (0, 0, 0)).2.1, .int .i64 (E.getD i (0, 0, 0)).2.2]) w := by
  obtain ⟨i0, h1, h2, h3, h4⟩ := info_parts fallInfo
  have hsz : (sizeOf 27).run Try.prog w = .ok 3 w := by simp [sizeOf, typeInfo, h1, h3]
  have hagg : (isAgg 27).run Try.prog w = .ok true w := by
    unfold isAgg
    rw [Sem.run_bind, run_underlying Try.underlying27 w]
    rfl
  have hx : (flatF E).toArray.extract (i * 3) (i * 3 + 3) = #[.int .i64 (E.getD i (0, 0, 0)).1, .int .i64 (E.getD i (0, 0, 0)).2.1, .int .i64 (E.getD i (0, 0, 0)).2.2] := by
    obtain ⟨q0, q1, q2⟩ := flatF_at E i hi
    have hl := flatF_len E
    apply Array.ext_getElem?
    intro j
    rw [Array.getElem?_extract]
    by_cases hj : j < 3
    · rw [if_pos (by simp [hl]; omega)]
      have h3 : j = 0 ∨ j = 1 ∨ j = 2 := by omega
      rcases h3 with rfl | rfl | rfl
      · simpa using q0
      · simpa using q1
      · simpa using q2
    · rw [if_neg (by simp [hl]; omega), Array.getElem?_eq_none (by simp; omega)]
  simp only [Go.part, Sem.run_bind, hagg, hsz, Result.andThen_ok, if_true, Sem.run_pure, hx]
theorem fall_eql (d : Nat) (a b c a' b' c' : Int) (w : World) : (Op.equalIn (d + 2) 27 (.agg #[.int .i64 a, .int .i64 b, .int .i64 c]) (.agg #[.int .i64 a', .int .i64 b', .int .i64 c'])).run Try.prog w = .ok (decide ((a, b, c) = (a', b', c'))) w := by
  have hf : Try.prog.underlying 27 = some (.struct (Try.prog.fieldsOf 27)) := by kernel_rfl
  rw [show d + 2 = (d + 1) + 1 from rfl, run_equalIn_struct w (d + 1) _ _ _ hf heldFall]
  have hi := Try.underlying3
  by_cases h1 : a = a'
  · by_cases h2 : b = b'
    · by_cases h3 : c = c'
      · simp [Program.fieldsOf, Try.underlying27, Op.eqFields, Go.part, isAgg, run_underlying hi, run_equalIn_int, hi, Sem.run_bind, h1, h2, h3]
      · simp [Program.fieldsOf, Try.underlying27, Op.eqFields, Go.part, isAgg, run_underlying hi, run_equalIn_int, hi, Sem.run_bind, h1, h2, h3]
    · simp [Program.fieldsOf, Try.underlying27, Op.eqFields, Go.part, isAgg, run_underlying hi, run_equalIn_int, hi, Sem.run_bind, h1, h2]
  · simp [Program.fieldsOf, Try.underlying27, Op.eqFields, Go.part, isAgg, run_underlying hi, run_equalIn_int, hi, Sem.run_bind, h1]
theorem all_range9 {E F : List (Int × Int × Int)} (hE : E.length = 9) (hF : F.length = 9) : ((List.range 9).all fun i => decide (E.getD i (0, 0, 0) = F.getD i (0, 0, 0))) = decide (E = F) := by
  rw [Bool.eq_iff_iff, List.all_eq_true, decide_eq_true_eq]
  constructor
  · intro h
    apply List.ext_getElem (by omega)
    intro i h1 h2
    have := h i (List.mem_range.2 (by omega))
    rw [decide_eq_true_eq, List.getD_eq_getElem?_getD, List.getD_eq_getElem?_getD, List.getElem?_eq_getElem h1, List.getElem?_eq_getElem h2] at this
    exact this
  · rintro rfl i _
    simp
theorem run_eql_ends (d : Nat) (w : World) {E F : List (Int × Int × Int)} (hE : E.length = 9) (hF : F.length = 9) :
    (Op.equalIn (d + 3) 85 (.agg (flatF E).toArray) (.agg (flatF F).toArray)).run Try.prog w = .ok (decide (E = F)) w := by
  obtain ⟨i0, h1, h2, h3, h4⟩ := info_parts fallInfo
  have hsz : ∀ w, (sizeOf 27).run Try.prog w = .ok 3 w := fun w => by simp [sizeOf, typeInfo, h1, h3]
  rw [← all_range9 hE hF, List.range_eq_range', Op.equalIn]
  simp only [Sem.run_bind, run_underlying endsUnder, Result.andThen_ok, hsz, Std.Legacy.Range.forIn_eq_forIn_range', Std.Legacy.Range.size, Nat.sub_zero, Nat.add_sub_cancel, Nat.div_one]
  have hl : ∀ i ∈ List.range' 0 9 1, i < 9 := fun i hi => by simpa using (List.mem_range'_1.1 hi).2
  generalize List.range' 0 9 1 = l at hl ⊢
  induction l with
  | nil => simp
  | cons i l ih =>
    have hi : i < 9 := hl i (by simp)
    simp only [List.forIn_cons, Sem.run_bind, ends_part (E := E) (show i < E.length by omega), ends_part (E := F) (show i < F.length by omega), fall_eql, Result.andThen_ok, List.all_cons]
    cases hb : decide (E.getD i (0, 0, 0) = F.getD i (0, 0, 0))
    · have hb' : decide (((E.getD i (0, 0, 0)).1, (E.getD i (0, 0, 0)).2.1, (E.getD i (0, 0, 0)).2.2) = ((F.getD i (0, 0, 0)).1, (F.getD i (0, 0, 0)).2.1, (F.getD i (0, 0, 0)).2.2)) = false := hb
      simp [hb']
    · have hb' : decide (((E.getD i (0, 0, 0)).1, (E.getD i (0, 0, 0)).2.1, (E.getD i (0, 0, 0)).2.2) = ((F.getD i (0, 0, 0)).1, (F.getD i (0, 0, 0)).2.1, (F.getD i (0, 0, 0)).2.2)) = true := hb
      simp only [hb', Bool.not_true, Bool.false_eq_true, if_false, Sem.run_pure, Result.andThen_ok, Bool.true_and]
      exact ih fun j hj => hl j (by simp [hj])
theorem feqTo_iff {R C : Int} {l : List (Int × Int)} {R' C' : Int} {m : List (Int × Int)} : ∀ k, feqTo R C l R' C' m k = true ↔ ∀ i, i < k → feq R C l R' C' m i = true
  | 0 => ⟨fun _ i h => absurd h (Nat.not_lt_zero i), fun _ => rfl⟩
  | k + 1 => by
    rw [feqTo, Bool.and_eq_true, feqTo_iff k]
    constructor
    · rintro ⟨h1, h2⟩ i hi
      rcases Nat.lt_or_eq_of_le (Nat.lt_succ_iff.1 hi) with h | rfl
      · exact h1 i h
      · exact h2
    · intro h
      exact ⟨fun i hi => h i (by omega), h k (by omega)⟩
theorem ends_feq {R C : Int} {l : List (Int × Int)} {R' C' : Int} {m : List (Int × Int)} {k : Nat} (hk : k ≤ 9) : decide (endsK R C l k = endsK R' C' m k) = feqTo R C l R' C' m k := by
  rw [Bool.eq_iff_iff, decide_eq_true_eq, feqTo_iff]
  constructor
  · intro h i hi
    have h1 : (endsK R C l k).getD i (0, 0, 0) = (endsK R' C' m k).getD i (0, 0, 0) := by rw [h]
    rw [endsK_getD hi (by omega), endsK_getD hi (by omega)] at h1
    unfold tri at h1
    simp only [Prod.mk.injEq] at h1
    exact decide_eq_true h1
  · intro h
    unfold endsK
    refine List.map_congr_left fun i hi => ?_
    by_cases hik : i < k
    · rw [if_pos hik, if_pos hik]
      have := of_decide_eq_true (h i hik)
      unfold tri
      rw [this.1, this.2.1, this.2.2]
    · rw [if_neg hik, if_neg hik]
theorem impl_SameFalls (R C : Int) (A : Option Addr) (cap : Nat) (l : List (Int × Int)) (R' C' : Int) (A' : Option Addr) (cap' : Nat) (m : List (Int × Int)) (w : World) (hn : l.length ≤ 1048576) (hr : Rd w w.heap.size A (flat l)) (hm : m.length ≤ 1048576) (hr' : Rd w w.heap.size A' (flat m)) :
    Calls Try.prog 46 #[.agg #[.int .i64 R, .int .i64 C, .slice A l.length cap], .agg #[.int .i64 R', .int .i64 C', .slice A' m.length cap']] w fun e w' => e = .returned (.tuple #[.bool (sameF R C l R' C' m), .bool (okS R C l R' C' m)]) ∧ Below w.heap.size w w' := by
  unfold sameF
  rcases Bool.eq_false_or_eq_true (goodB R C l) with hg | hg
  · have HG := Lib.hid hg
    rcases Bool.eq_false_or_eq_true (goodB R' C' m) with hg' | hg'
    · have HG' := Lib.hid hg'
      by_cases hC : C = C'
      · have ho : okS R C l R' C' m = true := by unfold okS; rw [hg, hg', decide_eq_true hC]; rfl
        rw [ho, Bool.true_and]
        subst hC
        clear ho
        obtain ⟨_, _, hpos⟩ := goodB_parts hg
        obtain ⟨_, _, hpos'⟩ := goodB_parts hg'
        obtain ⟨b, o, rfl, hbl, hc⟩ := hr (by rw [flat_length]; omega)
        have hrl : Rd w w.heap.size (some ⟨b, o, none⟩) (flat l) := fun _ => ⟨b, o, rfl, hbl, hc⟩
        obtain ⟨b', o', rfl, hbl', hc'⟩ := hr' (by rw [flat_length]; omega)
        have hrm : Rd w w.heap.size (some ⟨b', o', none⟩) (flat m) := fun _ => ⟨b', o', rfl, hbl', hc'⟩
        obtain ⟨r, c, rfl, rfl, hG⟩ := geo_of hg
        obtain ⟨r', c', rfl, ec, hG'⟩ := geo_of hg'
        obtain rfl : c = c' := by omega
        obtain ⟨s1, s2, s3, s4⟩ := sizeB_iff.1 (goodB_iff.1 hg).1
        rw [Int.toNat_natCast]
        have HEq := Lib.hid (ends_feq (R := (r : Int)) (C := (c : Int)) (l := l) (R' := (r' : Int)) (C' := (c : Int)) (m := m) (k := c) (by omega))
        have HL1 := Lib.hid (endsK_len (r : Int) (c : Int) l c)
        have HL2 := Lib.hid (endsK_len (r' : Int) (c : Int) m c)
        have HRu := Lib.hid (fun w => run_eql_ends 9997 w HL1.out HL2.out)
        have hgE := guardEnds
        clear hr hr' hc hc' hG hG' ec
        go_enter Try.func46, Try.ntmps46
        obtain ⟨v0, hv0, X0, X1, B0, hz0⟩ := two_boxes w [.int .i64 (r : Int), .int .i64 (c : Int), .slice (some ⟨b, o, none⟩) l.length cap] 32 [.int .i64 (r' : Int), .int .i64 (c : Int), .slice (some ⟨b', o', none⟩) m.length cap'] 32; have HV := Lib.hid hv0; have hz : w.heap.size + 1 < v0.heap.size := (by omega); have hy : w.heap.size < v0.heap.size := (by omega); have hb0 := B0.size; clear hv0 hz0; go_wp2_with fail; rewrite [show (w.alloc (.cells ([.int .i64 (r : Int), .int .i64 (c : Int), .slice (some ⟨b, o, none⟩) l.length cap] : List Value).toArray 32)).alloc (.cells ([.int .i64 (r' : Int), .int .i64 (c : Int), .slice (some ⟨b', o', none⟩) m.length cap'] : List Value).toArray 32) = v0 from HV.out]; clear HV
        refine (impl_IsBoard _ _ _ _ l _ hn ((hrl.below B0).mono B0.size)).mono ?_; rintro e w1 ⟨rfl, b1⟩
        rewrite [HG.out]
        replace X0 := X0.below b1 X0.lt; replace X1 := X1.below b1 X1.lt; replace B0 := B0.trans (b1.mono B0.size); have hy := X0.lt; have hz := X1.lt; have hb0 := B0.size; clear b1
        have X1k0 : w1.cell? ⟨w.heap.size + 1, 0, none⟩ = some (.int .i64 (r' : Int)) := (X1.cell 0).trans rfl; have X1k1 : w1.cell? ⟨w.heap.size + 1, 1, none⟩ = some (.int .i64 (c : Int)) := (X1.cell 1).trans rfl; have X1k2 : w1.cell? ⟨w.heap.size + 1, 2, none⟩ = some (.slice (some ⟨b', o', none⟩) m.length cap') := (X1.cell 2).trans rfl
        go_wp2_with fail
        refine (impl_IsBoard _ _ _ _ m _ hm ((hrm.below B0).mono B0.size)).mono ?_; rintro e w2 ⟨rfl, b2⟩
        rewrite [HG'.out]
        clear X1k0 X1k1 X1k2
        replace X0 := X0.below b2 X0.lt; replace X1 := X1.below b2 X1.lt; replace B0 := B0.trans (b2.mono B0.size); have hy := X0.lt; have hz := X1.lt; have hb0 := B0.size; clear b2
        have X0k0 : w2.cell? ⟨w.heap.size, 0, none⟩ = some (.int .i64 (r : Int)) := (X0.cell 0).trans rfl; have X0k1 : w2.cell? ⟨w.heap.size, 1, none⟩ = some (.int .i64 (c : Int)) := (X0.cell 1).trans rfl; have X0k2 : w2.cell? ⟨w.heap.size, 2, none⟩ = some (.slice (some ⟨b, o, none⟩) l.length cap) := (X0.cell 2).trans rfl
        have X1k0 : w2.cell? ⟨w.heap.size + 1, 0, none⟩ = some (.int .i64 (r' : Int)) := (X1.cell 0).trans rfl; have X1k1 : w2.cell? ⟨w.heap.size + 1, 1, none⟩ = some (.int .i64 (c : Int)) := (X1.cell 1).trans rfl; have X1k2 : w2.cell? ⟨w.heap.size + 1, 2, none⟩ = some (.slice (some ⟨b', o', none⟩) m.length cap') := (X1.cell 2).trans rfl
        go_upto_region 3 with (fail)
        have KS := Lib.hid (fun (w' : World) (h : Below w2.heap.size w2 w') => (⟨(h.cell (p := ⟨w.heap.size, 0, none⟩) hy).trans X0k0, (h.cell (p := ⟨w.heap.size, 1, none⟩) hy).trans X0k1, (h.cell (p := ⟨w.heap.size, 2, none⟩) hy).trans X0k2, (h.cell (p := ⟨w.heap.size + 1, 0, none⟩) hz).trans X1k0, (h.cell (p := ⟨w.heap.size + 1, 1, none⟩) hz).trans X1k1, (h.cell (p := ⟨w.heap.size + 1, 2, none⟩) hz).trans X1k2⟩ : w'.cell? ⟨w.heap.size, 0, none⟩ = some (.int .i64 (r : Int)) ∧ w'.cell? ⟨w.heap.size, 1, none⟩ = some (.int .i64 (c : Int)) ∧ w'.cell? ⟨w.heap.size, 2, none⟩ = some (.slice (some ⟨b, o, none⟩) l.length cap) ∧ w'.cell? ⟨w.heap.size + 1, 0, none⟩ = some (.int .i64 (r' : Int)) ∧ w'.cell? ⟨w.heap.size + 1, 1, none⟩ = some (.int .i64 (c : Int)) ∧ w'.cell? ⟨w.heap.size + 1, 2, none⟩ = some (.slice (some ⟨b', o', none⟩) m.length cap')))
        clear X0k0 X0k1 X0k2 X1k0 X1k1 X1k2
        have hru := HRu.out
        have HA := Lib.hid (fun w' h => impl_endsAlone r c b o cap l w' hg h)
        have HB := Lib.hid (fun w' h => impl_endsAlone r' c b' o' cap' m w' hg' h)
        generalize (flatF (endsK (r : Int) (c : Int) l c)).toArray = EA at *
        generalize (flatF (endsK (r' : Int) (c : Int) m c)).toArray = EB at *
        go_region_held3 (fun w' => w'.cell? ⟨w.heap.size, 0, none⟩ = some (.int .i64 (r : Int)) ∧ w'.cell? ⟨w.heap.size, 1, none⟩ = some (.int .i64 (c : Int)) ∧ w'.cell? ⟨w.heap.size, 2, none⟩ = some (.slice (some ⟨b, o, none⟩) l.length cap) ∧ w'.cell? ⟨w.heap.size + 1, 0, none⟩ = some (.int .i64 (r' : Int)) ∧ w'.cell? ⟨w.heap.size + 1, 1, none⟩ = some (.int .i64 (c : Int)) ∧ w'.cell? ⟨w.heap.size + 1, 2, none⟩ = some (.slice (some ⟨b', o', none⟩) m.length cap'))
          (exact KS.out _ (by (repeat' (first | (with_reducible exact Below.refl _ _) | (with_reducible assumption) | (with_reducible refine Below.alloc ?_ ?_ _) | (with_reducible refine Below.setCell ?_ ?_ _) | (with_reducible refine Below.drew ?_) | (with_reducible refine below_drewN ?_ _) | (with_reducible refine Below.trans ?_ (Below.mono (by assumption) ?_)) | go_size))))
          ((first
            | (go_at_call 66; (with_reducible refine (HA.out _ ?_).mono ?_); (focus exact (hrl.below (B0.trans ((by (repeat' (first | (with_reducible exact Below.refl _ _) | (with_reducible assumption) | (with_reducible refine Below.alloc ?_ ?_ _) | (with_reducible refine Below.setCell ?_ ?_ _) | (with_reducible refine Below.drew ?_) | (with_reducible refine below_drewN ?_ _) | (with_reducible refine Below.trans ?_ (Below.mono (by assumption) ?_)) | go_size)) : Below w2.heap.size w2 _).mono B0.size))).mono (Nat.le_trans B0.size (by (repeat' (first | (with_reducible exact Below.refl _ _) | (with_reducible assumption) | (with_reducible refine Below.alloc ?_ ?_ _) | (with_reducible refine Below.setCell ?_ ?_ _) | (with_reducible refine Below.drew ?_) | (with_reducible refine below_drewN ?_ _) | (with_reducible refine Below.trans ?_ (Below.mono (by assumption) ?_)) | go_size)) : Below w2.heap.size w2 _).size)); rintro e w3 ⟨rfl, b3⟩; have s3 : w2.heap.size ≤ w3.heap.size := (by (repeat' (first | (with_reducible exact Below.refl _ _) | (with_reducible assumption) | (with_reducible refine Below.alloc ?_ ?_ _) | (with_reducible refine Below.setCell ?_ ?_ _) | (with_reducible refine Below.drew ?_) | (with_reducible refine below_drewN ?_ _) | (with_reducible refine Below.trans ?_ (Below.mono (by assumption) ?_)) | go_size)) : Below w2.heap.size w2 w3).size)
            | (go_at_call 66; (with_reducible refine (HB.out _ ?_).mono ?_); (focus exact (hrm.below (B0.trans ((by (repeat' (first | (with_reducible exact Below.refl _ _) | (with_reducible assumption) | (with_reducible refine Below.alloc ?_ ?_ _) | (with_reducible refine Below.setCell ?_ ?_ _) | (with_reducible refine Below.drew ?_) | (with_reducible refine below_drewN ?_ _) | (with_reducible refine Below.trans ?_ (Below.mono (by assumption) ?_)) | go_size)) : Below w2.heap.size w2 _).mono B0.size))).mono (Nat.le_trans B0.size (by (repeat' (first | (with_reducible exact Below.refl _ _) | (with_reducible assumption) | (with_reducible refine Below.alloc ?_ ?_ _) | (with_reducible refine Below.setCell ?_ ?_ _) | (with_reducible refine Below.drew ?_) | (with_reducible refine below_drewN ?_ _) | (with_reducible refine Below.trans ?_ (Below.mono (by assumption) ?_)) | go_size)) : Below w2.heap.size w2 _).size)); rintro e w4 ⟨rfl, b4⟩; have s4 : w2.heap.size ≤ w4.heap.size := (by (repeat' (first | (with_reducible exact Below.refl _ _) | (with_reducible assumption) | (with_reducible refine Below.alloc ?_ ?_ _) | (with_reducible refine Below.setCell ?_ ?_ _) | (with_reducible refine Below.drew ?_) | (with_reducible refine below_drewN ?_ _) | (with_reducible refine Below.trans ?_ (Below.mono (by assumption) ?_)) | go_size)) : Below w2.heap.size w2 w4).size)
            | fail))
        all_goals (go_wp2)
        all_goals go_returns
        all_goals exact ⟨by (rewrite [← HEq.out]; rfl), B0.trans ((by (repeat' (first | (with_reducible exact Below.refl _ _) | (with_reducible assumption) | (with_reducible refine Below.alloc ?_ ?_ _) | (with_reducible refine Below.setCell ?_ ?_ _) | (with_reducible refine Below.drew ?_) | (with_reducible refine below_drewN ?_ _) | (with_reducible refine Below.trans ?_ (Below.mono (by assumption) ?_)) | go_size)) : Below w2.heap.size w2 _).mono hb0)⟩
      · have ho : okS R C l R' C' m = false := by unfold okS; rw [decide_eq_false hC, Bool.and_false]
        rw [ho, Bool.false_and]
        have hCb : (C != C') = true := by simpa using hC
        clear ho hg hg'
        go_enter Try.func46, Try.ntmps46
        obtain ⟨v0, hv0, X0, X1, B0, hz0⟩ := two_boxes w [.int .i64 R, .int .i64 C, .slice A l.length cap] 32 [.int .i64 R', .int .i64 C', .slice A' m.length cap'] 32; have HV := Lib.hid hv0; have hz : w.heap.size + 1 < v0.heap.size := (by omega); have hy : w.heap.size < v0.heap.size := (by omega); have hb0 := B0.size; clear hv0 hz0; go_wp2_with fail; rewrite [show (w.alloc (.cells ([.int .i64 R, .int .i64 C, .slice A l.length cap] : List Value).toArray 32)).alloc (.cells ([.int .i64 R', .int .i64 C', .slice A' m.length cap'] : List Value).toArray 32) = v0 from HV.out]; clear HV
        refine (impl_IsBoard _ _ _ _ l _ hn ((hr.below B0).mono B0.size)).mono ?_; rintro e w1 ⟨rfl, b1⟩
        rewrite [HG.out]
        replace X0 := X0.below b1 X0.lt; replace X1 := X1.below b1 X1.lt; replace B0 := B0.trans (b1.mono B0.size); have hy := X0.lt; have hz := X1.lt; have hb0 := B0.size; clear b1
        have X1k0 : w1.cell? ⟨w.heap.size + 1, 0, none⟩ = some (.int .i64 R') := (X1.cell 0).trans rfl; have X1k1 : w1.cell? ⟨w.heap.size + 1, 1, none⟩ = some (.int .i64 C') := (X1.cell 1).trans rfl; have X1k2 : w1.cell? ⟨w.heap.size + 1, 2, none⟩ = some (.slice A' m.length cap') := (X1.cell 2).trans rfl
        go_wp2_with fail
        refine (impl_IsBoard _ _ _ _ m _ hm ((hr'.below B0).mono B0.size)).mono ?_; rintro e w2 ⟨rfl, b2⟩
        rewrite [HG'.out]
        clear X1k0 X1k1 X1k2
        replace X0 := X0.below b2 X0.lt; replace X1 := X1.below b2 X1.lt; replace B0 := B0.trans (b2.mono B0.size); have hy := X0.lt; have hz := X1.lt; have hb0 := B0.size; clear b2
        have X0k0 : w2.cell? ⟨w.heap.size, 0, none⟩ = some (.int .i64 R) := (X0.cell 0).trans rfl; have X0k1 : w2.cell? ⟨w.heap.size, 1, none⟩ = some (.int .i64 C) := (X0.cell 1).trans rfl; have X0k2 : w2.cell? ⟨w.heap.size, 2, none⟩ = some (.slice A l.length cap) := (X0.cell 2).trans rfl
        have X1k0 : w2.cell? ⟨w.heap.size + 1, 0, none⟩ = some (.int .i64 R') := (X1.cell 0).trans rfl; have X1k1 : w2.cell? ⟨w.heap.size + 1, 1, none⟩ = some (.int .i64 C') := (X1.cell 1).trans rfl; have X1k2 : w2.cell? ⟨w.heap.size + 1, 2, none⟩ = some (.slice A' m.length cap') := (X1.cell 2).trans rfl
        go_wp2
        go_returns
        exact ⟨rfl, by (repeat' (first | (with_reducible exact Below.refl _ _) | (with_reducible assumption) | (with_reducible refine Below.alloc ?_ ?_ _) | (with_reducible refine Below.setCell ?_ ?_ _) | (with_reducible refine Below.drew ?_) | (with_reducible refine below_drewN ?_ _) | (with_reducible refine Below.trans ?_ (Below.mono (by assumption) ?_)) | (with_reducible exact Nat.le_refl _) | (simp; done) | omega | (simp at *; omega)))⟩
    · have HG' := Lib.hid hg'
      have ho : okS R C l R' C' m = false := by unfold okS; rw [hg', Bool.and_false, Bool.false_and]
      rw [ho, Bool.false_and]
      clear ho hg hg'
      go_enter Try.func46, Try.ntmps46
      obtain ⟨v0, hv0, X0, X1, B0, hz0⟩ := two_boxes w [.int .i64 R, .int .i64 C, .slice A l.length cap] 32 [.int .i64 R', .int .i64 C', .slice A' m.length cap'] 32; have HV := Lib.hid hv0; have hz : w.heap.size + 1 < v0.heap.size := (by omega); have hy : w.heap.size < v0.heap.size := (by omega); have hb0 := B0.size; clear hv0 hz0; go_wp2_with fail; rewrite [show (w.alloc (.cells ([.int .i64 R, .int .i64 C, .slice A l.length cap] : List Value).toArray 32)).alloc (.cells ([.int .i64 R', .int .i64 C', .slice A' m.length cap'] : List Value).toArray 32) = v0 from HV.out]; clear HV
      refine (impl_IsBoard _ _ _ _ l _ hn ((hr.below B0).mono B0.size)).mono ?_; rintro e w1 ⟨rfl, b1⟩
      rewrite [HG.out]
      replace X0 := X0.below b1 X0.lt; replace X1 := X1.below b1 X1.lt; replace B0 := B0.trans (b1.mono B0.size); have hy := X0.lt; have hz := X1.lt; have hb0 := B0.size; clear b1
      have X1k0 : w1.cell? ⟨w.heap.size + 1, 0, none⟩ = some (.int .i64 R') := (X1.cell 0).trans rfl; have X1k1 : w1.cell? ⟨w.heap.size + 1, 1, none⟩ = some (.int .i64 C') := (X1.cell 1).trans rfl; have X1k2 : w1.cell? ⟨w.heap.size + 1, 2, none⟩ = some (.slice A' m.length cap') := (X1.cell 2).trans rfl
      go_wp2_with fail
      refine (impl_IsBoard _ _ _ _ m _ hm ((hr'.below B0).mono B0.size)).mono ?_; rintro e w2 ⟨rfl, b2⟩
      rewrite [HG'.out]
      clear X1k0 X1k1 X1k2
      replace X0 := X0.below b2 X0.lt; replace X1 := X1.below b2 X1.lt; replace B0 := B0.trans (b2.mono B0.size); have hy := X0.lt; have hz := X1.lt; have hb0 := B0.size; clear b2
      go_wp2
      go_returns
      exact ⟨rfl, by (repeat' (first | (with_reducible exact Below.refl _ _) | (with_reducible assumption) | (with_reducible refine Below.alloc ?_ ?_ _) | (with_reducible refine Below.setCell ?_ ?_ _) | (with_reducible refine Below.drew ?_) | (with_reducible refine below_drewN ?_ _) | (with_reducible refine Below.trans ?_ (Below.mono (by assumption) ?_)) | (with_reducible exact Nat.le_refl _) | (simp; done) | omega | (simp at *; omega)))⟩
  · have HG := Lib.hid hg
    have ho : okS R C l R' C' m = false := by unfold okS; rw [hg, Bool.false_and, Bool.false_and]
    rw [ho, Bool.false_and]
    clear ho hg
    go_enter Try.func46, Try.ntmps46
    obtain ⟨v0, hv0, X0, X1, B0, hz0⟩ := two_boxes w [.int .i64 R, .int .i64 C, .slice A l.length cap] 32 [.int .i64 R', .int .i64 C', .slice A' m.length cap'] 32; have HV := Lib.hid hv0; have hz : w.heap.size + 1 < v0.heap.size := (by omega); have hy : w.heap.size < v0.heap.size := (by omega); have hb0 := B0.size; clear hv0 hz0; go_wp2_with fail; rewrite [show (w.alloc (.cells ([.int .i64 R, .int .i64 C, .slice A l.length cap] : List Value).toArray 32)).alloc (.cells ([.int .i64 R', .int .i64 C', .slice A' m.length cap'] : List Value).toArray 32) = v0 from HV.out]; clear HV
    refine (impl_IsBoard _ _ _ _ l _ hn ((hr.below B0).mono B0.size)).mono ?_; rintro e w1 ⟨rfl, b1⟩
    rewrite [HG.out]
    replace X0 := X0.below b1 X0.lt; replace X1 := X1.below b1 X1.lt; replace B0 := B0.trans (b1.mono B0.size); have hy := X0.lt; have hz := X1.lt; have hb0 := B0.size; clear b1
    go_wp2
    go_returns
    exact ⟨rfl, by (repeat' (first | (with_reducible exact Below.refl _ _) | (with_reducible assumption) | (with_reducible refine Below.alloc ?_ ?_ _) | (with_reducible refine Below.setCell ?_ ?_ _) | (with_reducible refine Below.drew ?_) | (with_reducible refine below_drewN ?_ _) | (with_reducible refine Below.trans ?_ (Below.mono (by assumption) ?_)) | (with_reducible exact Nat.le_refl _) | (simp; done) | omega | (simp at *; omega)))⟩
end Go.Proofs.Ytoflhjekldlaiaa
namespace Go.Proofs.Ytoflhjekldlaiaa
open Go.ChangeShapes Go.WideShapes Go.ChangeAt Go.RowKit Go.Joins Go.Deep
set_option linter.unusedSimpArgs false
set_option linter.unusedVariables false
set_option maxRecDepth 100000
set_option maxHeartbeats 1000000
theorem rising_eqI : ∀ {a b : List Int}, a.Pairwise (· < ·) → b.Pairwise (· < ·) → (∀ x, x ∈ a ↔ x ∈ b) → a = b
  | [], [], _, _, _ => rfl
  | [], y :: b, _, _, h => absurd ((h y).2 (List.mem_cons_self ..)) (List.not_mem_nil)
  | x :: a, [], _, _, h => absurd ((h x).1 (List.mem_cons_self ..)) (List.not_mem_nil)
  | x :: a, y :: b, ha, hb, h => by
    rw [List.pairwise_cons] at ha hb
    have e : x = y := by
      rcases List.mem_cons.1 ((h x).1 (List.mem_cons_self ..)) with e | e
      · exact e
      · rcases List.mem_cons.1 ((h y).2 (List.mem_cons_self ..)) with e' | e'
        · exact e'.symm
        · have := hb.1 x e
          have := ha.1 y e'
          omega
    subst e
    rw [rising_eqI ha.2 hb.2 (fun z => ?_)]
    constructor
    · intro hz
      rcases List.mem_cons.1 ((h z).1 (List.mem_cons_of_mem _ hz)) with e | e
      · have := ha.1 z hz; omega
      · exact e
    · intro hz
      rcases List.mem_cons.1 ((h z).2 (List.mem_cons_of_mem _ hz)) with e | e
      · have := hb.1 z hz; omega
      · exact e
theorem arr_get {zs : List Int} {j : Nat} (h : j < zs.length) : zs.toArray[j]! = zs[j] := by simp [h]
theorem compact_upto {zs : List Int} (hs : zs.Pairwise (· ≤ ·)) : ∀ m, m ≤ zs.length → (Lib.compactUpTo zs.toArray m).Pairwise (· < ·) ∧ ∀ x, x ∈ Lib.compactUpTo zs.toArray m ↔ ∃ j, ∃ h : j < zs.length, j < m ∧ zs[j] = x
  | 0, _ => by
    have e : Lib.compactUpTo zs.toArray 0 = [] := by simp [Lib.compactUpTo]
    rw [e]
    exact ⟨List.Pairwise.nil, fun x => ⟨fun h => absurd h List.not_mem_nil, fun ⟨j, _, h, _⟩ => absurd h (Nat.not_lt_zero j)⟩⟩
  | m + 1, hm => by
    obtain ⟨ih1, ih2⟩ := compact_upto hs m (by omega)
    have hle : ∀ i j (hi : i < zs.length) (hj : j < zs.length), i ≤ j → zs[i] ≤ zs[j] := fun i j hi hj hij => by
      rcases Nat.lt_or_eq_of_le hij with h | rfl
      · exact List.pairwise_iff_getElem.1 hs i j hi hj h
      · exact Int.le_refl _
    rw [Lib.compactUpTo_succ]
    by_cases hk : m = 0 ∨ zs.toArray[m]! ≠ zs.toArray[m - 1]!
    · have hkk : Lib.keeps zs.toArray m = true := by unfold Lib.keeps; exact decide_eq_true hk
      rw [if_pos hkk, arr_get (show m < zs.length by omega)]
      refine ⟨?_, fun x => ?_⟩
      · rw [List.pairwise_append]
        refine ⟨ih1, List.pairwise_singleton _ _, fun a ha b hb => ?_⟩
        rw [List.mem_singleton] at hb
        subst hb
        obtain ⟨j, hj, hjm, rfl⟩ := (ih2 a).1 ha
        rcases hk with h0 | h0
        · omega
        · rw [arr_get (show m < zs.length by omega), arr_get (show m - 1 < zs.length by omega)] at h0
          have h1 := hle j (m - 1) hj (by omega) (by omega)
          have h2 := hle (m - 1) m (by omega) (by omega) (by omega)
          omega
      · rw [List.mem_append, ih2, List.mem_singleton]
        constructor
        · rintro (⟨j, hj, hjm, e⟩ | e)
          · exact ⟨j, hj, by omega, e⟩
          · exact ⟨m, by omega, by omega, e.symm⟩
        · rintro ⟨j, hj, hjm, e⟩
          by_cases h : j = m
          · subst h; exact .inr e.symm
          · exact .inl ⟨j, hj, by omega, e⟩
    · have hkk : Lib.keeps zs.toArray m = false := by unfold Lib.keeps; exact decide_eq_false hk
      rw [hkk]
      simp only [Bool.false_eq_true, if_false, List.append_nil]
      refine ⟨ih1, fun x => ?_⟩
      rw [ih2]
      constructor
      · rintro ⟨j, hj, hjm, e⟩
        exact ⟨j, hj, by omega, e⟩
      · rintro ⟨j, hj, hjm, e⟩
        by_cases h : j = m
        · subst h
          have h0 : j ≠ 0 := fun h => hk (.inl h)
          have h1 : zs.toArray[j]! = zs.toArray[j - 1]! := by
            by_cases h2 : zs.toArray[j]! = zs.toArray[j - 1]!
            · exact h2
            · exact absurd (.inr h2) hk
          rw [arr_get hj, arr_get (show j - 1 < zs.length by omega)] at h1
          exact ⟨j - 1, by omega, by omega, by rw [← h1]; exact e⟩
        · exact ⟨j, hj, by omega, e⟩
theorem compact_rising {zs : List Int} (hs : zs.Pairwise (· ≤ ·)) : (Lib.compact zs).Pairwise (· < ·) ∧ ∀ x, x ∈ Lib.compact zs ↔ x ∈ zs := by
  obtain ⟨h1, h2⟩ := compact_upto hs zs.length (Nat.le_refl _)
  refine ⟨h1, fun x => (h2 x).trans ?_⟩
  rw [List.mem_iff_getElem]
  exact ⟨fun ⟨j, hj, _, e⟩ => ⟨j, hj, e⟩, fun ⟨j, hj, e⟩ => ⟨j, hj, hj, e⟩⟩
theorem sorted_compact {n : Nat} {q : List Nat} (hl : ∀ x ∈ q, x < n) : Lib.compact ((nI q).mergeSort fun x y => decide (x ≤ y)) = nI (sortN n q) := by
  have hp := List.mergeSort_perm (nI q) (fun x y => decide (x ≤ y))
  have hs := List.pairwise_mergeSort (le := fun x y : Int => decide (x ≤ y)) (fun a b c h1 h2 => by simp at *; omega) (fun a b => by simp; omega) (nI q)
  obtain ⟨c1, c2⟩ := compact_rising (zs := (nI q).mergeSort fun x y => decide (x ≤ y)) (hs.imp (fun h => by simpa using h))
  refine rising_eqI c1 ?_ (fun x => ?_)
  · unfold nI
    rw [List.pairwise_map]
    exact (sortN_sorted n q).imp (fun h => by omega)
  · rw [c2, hp.mem_iff]
    unfold nI
    simp only [List.mem_map]
    constructor
    · rintro ⟨k, hk, rfl⟩
      exact ⟨k, mem_sortN.2 ⟨hl k hk, hk⟩, rfl⟩
    · rintro ⟨k, hk, rfl⟩
      exact ⟨k, (mem_sortN.1 hk).2, rfl⟩
theorem put_same {n k x : Nat} {q : List Nat} (hk : k < (sortN n q).length) (h : (sortN n q)[k] = x) : sortN n (q ++ [x]) = sortN n q := by
  have hx : x ∈ q := by
    have := List.getElem_mem hk
    rw [h, mem_sortN] at this
    exact this.2
  refine sortN_congr fun y => ?_
  rw [List.mem_append, List.mem_singleton]
  constructor
  · rintro (h | rfl)
    · exact h
    · exact hx
  · exact .inl
theorem put_new {n k x : Nat} {q : List Nat} (hx : x < n) (hk : k ≤ (sortN n q).length) (h1 : ∀ i (hi : i < (sortN n q).length), i < k → (sortN n q)[i] < x) (h2 : ∀ h : k < (sortN n q).length, x < (sortN n q)[k]) :
    sortN n (q ++ [x]) = (sortN n q).take k ++ x :: (sortN n q).drop k := by
  have hs := sortN_sorted n q
  have hm : ∀ y, y ∈ sortN n q ↔ y < n ∧ y ∈ q := fun y => mem_sortN
  generalize hS : sortN n q = S at *
  have hT : ∀ a ∈ S.take k, a < x := fun a ha => by
    obtain ⟨i, hi, rfl⟩ := List.mem_iff_getElem.1 ha
    rw [List.getElem_take]
    rw [List.length_take] at hi
    exact h1 i (by omega) (by omega)
  have hD : ∀ a ∈ S.drop k, x < a := fun a ha => by
    obtain ⟨i, hi, rfl⟩ := List.mem_iff_getElem.1 ha
    rw [List.getElem_drop]
    rw [List.length_drop] at hi
    have hkl : k < S.length := by omega
    have h3 := h2 hkl
    rcases Nat.eq_zero_or_pos i with rfl | hi0
    · simpa using h3
    · have := List.pairwise_iff_getElem.1 hs k (k + i) hkl (by omega) (by omega)
      omega
  refine rising_eq (sortN_sorted n _) ?_ (fun y => ?_)
  · rw [List.pairwise_append]
    refine ⟨hs.sublist (List.take_sublist k S), ?_, fun a ha b hb => ?_⟩
    · rw [List.pairwise_cons]
      exact ⟨hD, hs.sublist (List.drop_sublist k S)⟩
    · have ha' := hT a ha
      rcases List.mem_cons.1 hb with rfl | hb
      · exact ha'
      · have := hD b hb
        omega
  · rw [mem_sortN, List.mem_append, List.mem_singleton, List.mem_append, List.mem_cons]
    have happ : y ∈ S ↔ (y ∈ S.take k ∨ y ∈ S.drop k) := by
      rw [← List.mem_append, List.take_append_drop]
    constructor
    · rintro ⟨hy, hq | rfl⟩
      · rcases happ.1 ((hm y).2 ⟨hy, hq⟩) with h | h
        · exact .inl h
        · exact .inr (.inr h)
      · exact .inr (.inl rfl)
    · rintro (h | rfl | h)
      · have := (hm y).1 (happ.2 (.inl h))
        exact ⟨this.1, .inl this.2⟩
      · exact ⟨hx, .inr rfl⟩
      · have := (hm y).1 (happ.2 (.inr h))
        exact ⟨this.1, .inl this.2⟩
/-- The cells that a way meets. -/
def wayN (c : Nat) (wy : List (List Nat)) : List Nat := wy.map fun p => p.getD 0 0 * c + p.getD 1 0
theorem wayI_nI (c : Nat) (wy : List (List Nat)) : wayI c wy = nI (wayN c wy) := by
  unfold wayI nI wayN
  rw [List.map_map]
  rfl
def wayOK (r c : Nat) (wy : List (List Nat)) : Prop := ∀ p ∈ wy, ∃ a b, p = [a, b] ∧ a < r ∧ b < c
theorem flG_wayOK (nm : List Int) (r c : Nat) : ∀ (n row : Nat) (l : List (Int × Int)) (col : Nat) (side : Int) (way : List (List Nat)), row + n ≤ r → col < c → wayOK r c way → wayOK r c (flG nm r c n row l col side way).way
  | 0, _, _, _, _, _, _, _, h => h
  | n + 1, row, l, col, side, way, hrow, hcol, h => by
    have h2 : wayOK r c (way ++ [[row, col]]) := fun p hp => by
      rcases List.mem_append.1 hp with h1 | h1
      · exact h p h1
      · rw [List.mem_singleton] at h1
        exact ⟨row, col, h1, by omega, hcol⟩
    rw [flG_step nm r c n row l col side way _ _ rfl rfl]
    split
    · exact h2
    · split
      · next hin => exact flG_wayOK nm r c n _ _ _ _ _ (by omega) (by omega) h2
      · exact h2
theorem flG_wayLen (nm : List Int) (r c : Nat) : ∀ (n row : Nat) (l : List (Int × Int)) (col : Nat) (side : Int) (way : List (List Nat)), (flG nm r c n row l col side way).way.length ≤ way.length + n
  | 0, _, _, _, _, _ => Nat.le_refl _
  | n + 1, row, l, col, side, way => by
    rw [flG_step nm r c n row l col side way _ _ rfl rfl]
    split
    · rw [List.length_append, List.length_singleton]; omega
    · split
      · have := flG_wayLen nm r c n (row + 1) (passL nm l (row * c + col)) ((col : Int) + goN (l.getD (row * c + col) (0, 0)).1 (l.getD (row * c + col) (0, 0)).2 side).toNat (-goN (l.getD (row * c + col) (0, 0)).1 (l.getD (row * c + col) (0, 0)).2 side) (way ++ [[row, col]])
        rw [List.length_append, List.length_singleton] at this
        omega
      · rw [List.length_append, List.length_singleton]; omega
def metN (R C : Int) (l : List (Int × Int)) : Nat → List Nat
  | 0 => []
  | k + 1 => metN R C l k ++ wayN C.toNat (marO R C l k).way
theorem wayN_lt {r c : Nat} {wy : List (List Nat)} (h : wayOK r c wy) : ∀ x ∈ wayN c wy, x < r * c := fun x hx => by
  unfold wayN at hx
  obtain ⟨p, hp, rfl⟩ := List.mem_map.1 hx
  obtain ⟨a, b, rfl, ha, hb⟩ := h p hp
  have h1 := Nat.mul_le_mul (show a + 1 ≤ r by omega) (Nat.le_refl c)
  rw [Nat.succ_mul] at h1
  show a * c + b < r * c
  omega
theorem marO_wayOK {r c : Nat} {l : List (Int × Int)} {k : Nat} (hk : k < c) : wayOK r c (marO (r : Int) (c : Int) l (k : Int)).way :=
  flG_wayOK _ r c r 0 l _ _ _ (by omega) hk (fun p hp => absurd hp List.not_mem_nil)
theorem metN_lt {r c : Nat} {l : List (Int × Int)} : ∀ k, k ≤ c → ∀ x ∈ metN (r : Int) (c : Int) l k, x < r * c
  | 0, _, x, h => absurd h List.not_mem_nil
  | k + 1, hk, x, h => by
    rcases List.mem_append.1 h with h1 | h1
    · exact metN_lt k (by omega) x h1
    · exact wayN_lt (marO_wayOK (show k < c by omega)) x h1
def metL (R C : Int) (l : List (Int × Int)) : List Int := if goodB R C l then nI (sortN l.length (metN R C l C.toNat)) else []
theorem metL_len (R C : Int) (l : List (Int × Int)) (hn : l.length ≤ 1048576) : (metL R C l).length ≤ 1048576 := by
  unfold metL
  split
  · rw [nI_length]
    have := sortN_length (n := l.length) (metN R C l C.toNat)
    omega
  · simp
end Go.Proofs.Ytoflhjekldlaiaa
namespace Go.Proofs.Ytoflhjekldlaiaa
open Go.ChangeShapes Go.WideShapes Go.ChangeAt Go.RowKit Go.Joins Go.Deep
set_option linter.unusedSimpArgs false
set_option linter.unusedVariables false
set_option maxRecDepth 100000
set_option maxHeartbeats 4000000
def MRow (w : World) (base : Nat) (v : Value) (S : List Nat) : Prop := IRow w base v (nI S) ∧ (S = [] → v = .slice none 0 0)
theorem MRow.keep {w w' : World} {base : Nat} {v : Value} {S : List Nat} (h : MRow w base v S) (hb : Below w.heap.size w w') : MRow w' base v S := ⟨h.1.keep hb, h.2⟩
theorem nI_take_drop (S : List Nat) (k x : Nat) : ints (nI (S.take k)) ++ [.int .i64 (x : Int)] ++ ints (nI (S.drop k)) = ints (nI (S.take k ++ x :: S.drop k)) := by
  simp [nI, ints]
theorem one_nI {l : List Int} : ∀ u ∈ ints l, u.oneCell' = true := by
  intro u hu
  unfold ints at hu
  obtain ⟨x, _, rfl⟩ := List.mem_map.1 hu
  rfl
theorem nI_atP {S : List Nat} {k : Nat} (h : k < S.length) : (ints (nI S))[k]? = some (.int .i64 ((S[k] : Nat) : Int)) := by
  rw [ints_at _ k (by rw [nI_length]; exact h)]
  simp [nI]
theorem row_to {w : World} {base n : Nat} {v : Value} {xs : List Value} {l : List Int} (h : w.ownsRow base 3 1 v n xs) (hn : n = l.length) (hx : xs = ints l) : IRow w base v l := by
  subst hn hx
  exact h
theorem rd_piece {w : World} {B b o : Nat} {S : List Nat} (k : Nat) (h : Rd w B (some ⟨b, o, none⟩) (ints (nI S))) : Rd w B (some ⟨b, o, none⟩) (ints (nI (S.take k))) ∧ Rd w B (some ⟨b, o + k, none⟩) (ints (nI (S.drop k))) := by
  constructor
  · intro hx
    rw [ints_length, nI_length, List.length_take] at hx
    obtain ⟨b', o', e, h1, h2⟩ := h (by rw [ints_length, nI_length]; omega)
    refine ⟨b', o', e, h1, fun j u hu => h2 j u ?_⟩
    have hj : j < (S.take k).length := by have := (List.getElem?_eq_some_iff.1 hu).1; rw [ints_length, nI_length] at this; exact this
    rw [nI_atP hj] at hu
    rw [nI_atP (show j < S.length by rw [List.length_take] at hj; omega), ← hu, List.getElem_take]
  · intro hx
    rw [ints_length, nI_length, List.length_drop] at hx
    obtain ⟨b', o', e, h1, h2⟩ := h (by rw [ints_length, nI_length]; omega)
    cases e
    refine ⟨b, o + k, rfl, h1, fun j u hu => ?_⟩
    have hj : j < (S.drop k).length := by have := (List.getElem?_eq_some_iff.1 hu).1; rw [ints_length, nI_length] at this; exact this
    rw [nI_atP hj] at hu
    rw [Nat.add_assoc]
    refine h2 (k + j) u ?_
    rw [nI_atP (show k + j < S.length by rw [List.length_drop] at hj; omega), ← hu, List.getElem_drop]
theorem rd_drop0 {w : World} {B g : Nat} {S : List Nat} (k : Nat) (h : Rd w B (some ⟨g, 0, none⟩) (ints (nI S))) : Rd w B (some ⟨g, k, none⟩) (ints (nI (S.drop k))) := by
  have h2 := (rd_piece k h).2
  rw [Nat.zero_add] at h2
  exact h2
theorem spec_l1Put_nil (x : Nat) (w : World) :
    Calls Try.prog 68 #[.slice none 0 0, .int .i64 (x : Int)] w fun e w' => ∃ v', e = .returned v' ∧ IRow w' w.heap.size v' [(x : Int)] ∧ Below w.heap.size w w' := by
  obtain ⟨i0, hi, hz0, hz1, hz2⟩ := info_parts intInfo
  go_enter Try.func68, Try.ntmps68
  go_wp2
  go_loop [5] (fun i => i = .int .i64 0) (fun _ => 0)
  case atStart => rfl
  case round =>
    subst hrel
    go_wp2_with (first
      | (at_builtin; refine wpList_append_rd rfl (.tmp 34) (.tmp 37) 45 rfl w.heap.size 3 i0 _ 1 8 Try.underlying45 hi hz0 hz1 hz2 rfl (by omega) _ 0 [] rfl (row_empty w _ _) none 0 0 0 [] rfl rfl (fun _ => rfl) (fun h => absurd h (by simp)) (fun u hu => absurd hu (by simp)) (by unfold maxLen; omega) (by omega) (by simp) ?_; intro v1 w1 hown1 hg1)
      | (at_builtin; refine wpList_append_own _ rfl (.tmp 39) (.tmp 41) 45 rfl w.heap.size 3 i0 _ 1 8 Try.underlying45 hi hz0 hz1 hz2 rfl (by omega) _ _ _ rfl (hown1.alloc _) ⟨w1.heap.size, 0, none⟩ 1 1 [.int .i64 (x : Int)] rfl rfl one_cellI one_oneI (by unfold maxLen; omega) (by omega) (by have h1 := hg1.size; rw [World.size_alloc] at h1 ⊢; omega) ?_; intro v2 w2 hown2 hg2 _)
      | (at_builtin; refine wpList_append_rd rfl (.tmp 43) (.tmp 46) 45 rfl w.heap.size 3 i0 _ 1 8 Try.underlying45 hi hz0 hz1 hz2 rfl (by omega) _ _ _ rfl hown2 none 0 0 0 [] rfl rfl (fun _ => rfl) (fun h => absurd h (by simp)) (fun u hu => absurd hu (by simp)) (by unfold maxLen; omega) (by omega) (by have h1 := hg1.size; have h2 := hg2.size; rw [World.size_alloc] at h1 h2; omega) ?_; intro v3 w3 hown3 hg3)
      | fail)
    have hb1 := row_below (row_empty w 3 1) ((Below.refl _ _).alloc (Nat.le_refl _) _) (by simp) hg1
    have hb2 := row_below (hown1.alloc (.cells #[.int .i64 (x : Int)] 3)) (hb1.alloc hb1.size _) (by rw [World.size_alloc]; have := hb1.size; omega) hg2
    have hb3 := row_below hown2 hb2 hb2.size hg3
    go_returns
    exact ⟨v3, rfl, row_to hown3 rfl rfl, hb3⟩
/-- What l1Put leaves behind: the list itself if the number stands in it, and a new one with it in its place if not. -/
def PostPut (g cap : Nat) (S : List Nat) (x : Nat) (w : World) (e : Ending) (w' : World) : Prop :=
  ∃ k, k ≤ S.length ∧ (∀ i (h : i < S.length), i < k → S[i] < x) ∧
    ((∃ h : k < S.length, S[k] = x ∧ e = .returned (.slice (some ⟨g, 0, none⟩) S.length cap) ∧ Below w.heap.size w w') ∨
     ((∀ h : k < S.length, x < S[k]) ∧ ∃ v', e = .returned v' ∧ IRow w' w.heap.size v' (nI (S.take k ++ x :: S.drop k)) ∧ Below w.heap.size w w'))
theorem PostPut.same {g cap : Nat} {S : List Nat} {x k : Nat} {w w' : World} (hk : k < S.length) (h1 : ∀ i (h : i < S.length), i < k → S[i] < x) (h : S[k] = x) (hb : Below w.heap.size w w') : PostPut g cap S x w (.returned (.slice (some ⟨g, 0, none⟩) S.length cap)) w' :=
  ⟨k, Nat.le_of_lt hk, h1, .inl ⟨hk, h, rfl, hb⟩⟩
theorem PostPut.new {g cap : Nat} {S : List Nat} {x k : Nat} {w w' : World} {v' : Value} (hk : k ≤ S.length) (h1 : ∀ i (h : i < S.length), i < k → S[i] < x) (h : ∀ h : k < S.length, x < S[k]) (hv : IRow w' w.heap.size v' (nI (S.take k ++ x :: S.drop k))) (hb : Below w.heap.size w w') : PostPut g cap S x w (.returned v') w' :=
  ⟨k, hk, h1, .inr ⟨h, v', rfl, hv, hb⟩⟩
theorem spec_l1Put_some (g cap : Nat) (S : List Nat) (x : Nat) (w : World) (hpos : 0 < S.length) (hn : S.length ≤ 1048576) (hcap : S.length ≤ cap) (hcm : cap ≤ maxLen) (hr : Rd w w.heap.size (some ⟨g, 0, none⟩) (ints (nI S))) :
    Calls Try.prog 68 #[.slice (some ⟨g, 0, none⟩) S.length cap, .int .i64 (x : Int)] w (PostPut g cap S x w) := by
  obtain ⟨i0, hi, hz0, hz1, hz2⟩ := info_parts intInfo
  obtain ⟨b, o, e, hbl, hc⟩ := hr (by rw [ints_length, nI_length]; exact hpos)
  cases e
  unfold maxLen at hcm
  go_enter Try.func68, Try.ntmps68
  go_wp2
  go_loop [5] (fun i => ∃ k : Nat, i = .int .i64 k ∧ k ≤ S.length ∧ ∀ i (h : i < S.length), i < k → S[i] < x) (fun i => S.length - (intOf i).toNat)
  case atStart => exact ⟨0, rfl, Nat.zero_le _, fun i _ h => absurd h (Nat.not_lt_zero i)⟩
  case round =>
    obtain ⟨k, rfl, hk, hlow⟩ := hrel
    have HLow := Lib.hid hlow
    by_cases hlt : k < S.length
    · have hck := hc k _ (nI_atP hlt)
      rw [Nat.zero_add] at hck
      have HL2 := Lib.hid (show S[k] < x → ∀ i (h : i < S.length), i < k + 1 → S[i] < x from fun hx i h hik => by
        rcases Nat.lt_or_eq_of_le (Nat.lt_succ_iff.1 hik) with h1 | rfl
        · exact hlow i h h1
        · exact hx)
      have HPo := Lib.hid (fun (w' : World) (h : S[k] = x) (hb : Below w.heap.size w w') => PostPut.same (g := g) (cap := cap) hlt hlow h hb)
      have HPn := Lib.hid (fun (w' : World) (v' : Value) (h : x < S[k]) (hv : IRow w' w.heap.size v' (nI (S.take k ++ x :: S.drop k))) (hb : Below w.heap.size w w') => PostPut.new (g := g) (cap := cap) hk hlow (fun _ => h) hv hb)
      clear hlow
      generalize hy : S[k] = y at *
      clear hy
      by_cases hx : y < x
      · have hx' : (y : Int) < (x : Int) := by omega
        have HL3 := Lib.hid (HL2.out hx)
        clear HL2 HPo HPn
        go_wp2
        go_round
        case rel => exact ⟨k + 1, by go_num, by omega, HL3.out⟩
        case measure => simp [intOf]; omega
      · have hx' : ¬ (y : Int) < (x : Int) := by omega
        by_cases he : y = x
        · subst he
          clear HL2 HPn hx hx'
          go_wp2
          go_returns
          exact HPo.out _ trivial (Below.refl _ _)
        · have he' : ¬ (y : Int) = (x : Int) := by omega
          have hlt2 : x < y := by omega
          clear HL2 HPo hx he
          go_wp2_with (first
      | (at_builtin; refine wpList_append_rd rfl (.tmp 34) (.tmp 37) 45 rfl w.heap.size 3 i0 _ 1 8 Try.underlying45 hi hz0 hz1 hz2 rfl (by omega) _ 0 [] rfl (row_empty w _ _) (some ⟨g, 0, none⟩) k cap w.heap.size (ints (nI (S.take k))) rfl (by rw [ints_length, nI_length, List.length_take]; omega) (fun h => absurd h (by simp)) ((rd_piece k hr).1.below ((Below.refl _ _).alloc (Nat.le_refl _) _)) one_nI (by unfold maxLen; omega) (by omega) (by simp) ?_; intro v1 w1 hown1 hg1; have hb1 := row_below (row_empty w 3 1) ((Below.refl _ _).alloc (Nat.le_refl _) _) (by simp) hg1; have hs1 := hb1.size)
      | (at_builtin; refine wpList_append_own _ rfl (.tmp 39) (.tmp 41) 45 rfl w.heap.size 3 i0 _ 1 8 Try.underlying45 hi hz0 hz1 hz2 rfl (by omega) _ _ _ rfl (hown1.alloc _) ⟨w1.heap.size, 0, none⟩ 1 1 [.int .i64 (x : Int)] rfl rfl one_cellI one_oneI (by unfold maxLen; omega) (by omega) (by rw [World.size_alloc]; omega) ?_; intro v2 w2 hown2 hg2 _; have hb2 := row_below (hown1.alloc (.cells #[.int .i64 (x : Int)] 3)) (hb1.alloc hs1 _) (by rw [World.size_alloc]; omega) hg2; have hs2 := hb2.size)
      | (at_builtin; refine wpList_append_rd rfl (.tmp 43) (.tmp 46) 45 rfl w.heap.size 3 i0 _ 1 8 Try.underlying45 hi hz0 hz1 hz2 rfl (by omega) _ _ _ rfl hown2 (some ⟨g, k, none⟩) (S.length - k) (cap - k) w.heap.size (ints (nI (S.drop k))) rfl (by rw [ints_length, nI_length, List.length_drop]; omega) (fun h => absurd h (by simp)) ((rd_drop0 k hr).below hb2) one_nI (by unfold maxLen; omega) (by omega) hs2 ?_; intro v3 w3 hown3 hg3; have hb3 := row_below hown2 hb2 hs2 hg3)
      | fail)
          go_returns
          exact HPn.out _ v3 hlt2 (row_to hown3 (by rw [nI_length, List.length_append, List.length_cons, List.length_take, List.length_drop]; omega) (by rw [List.nil_append]; exact nI_take_drop S k x)) hb3
    · obtain rfl : k = S.length := by omega
      have HPn := Lib.hid (fun (w' : World) (v' : Value) (hv : IRow w' w.heap.size v' (nI (S.take S.length ++ x :: S.drop S.length))) (hb : Below w.heap.size w w') => PostPut.new (g := g) (cap := cap) hk hlow (fun h => absurd h hlt) hv hb)
      clear hlow HLow
      by_cases hce : cap = S.length
      · subst hce
        go_wp2_with (first
      | (at_builtin; refine wpList_append_rd rfl (.tmp 34) (.tmp 37) 45 rfl w.heap.size 3 i0 _ 1 8 Try.underlying45 hi hz0 hz1 hz2 rfl (by omega) _ 0 [] rfl (row_empty w _ _) (some ⟨g, 0, none⟩) S.length S.length w.heap.size (ints (nI (S.take S.length))) rfl (by rw [ints_length, nI_length, List.length_take]; omega) (fun h => absurd h (by simp)) ((rd_piece S.length hr).1.below ((Below.refl _ _).alloc (Nat.le_refl _) _)) one_nI (by unfold maxLen; omega) (by omega) (by simp) ?_; intro v1 w1 hown1 hg1; have hb1 := row_below (row_empty w 3 1) ((Below.refl _ _).alloc (Nat.le_refl _) _) (by simp) hg1; have hs1 := hb1.size)
      | (at_builtin; refine wpList_append_own _ rfl (.tmp 39) (.tmp 41) 45 rfl w.heap.size 3 i0 _ 1 8 Try.underlying45 hi hz0 hz1 hz2 rfl (by omega) _ _ _ rfl (hown1.alloc _) ⟨w1.heap.size, 0, none⟩ 1 1 [.int .i64 (x : Int)] rfl rfl one_cellI one_oneI (by unfold maxLen; omega) (by omega) (by rw [World.size_alloc]; omega) ?_; intro v2 w2 hown2 hg2 _; have hb2 := row_below (hown1.alloc (.cells #[.int .i64 (x : Int)] 3)) (hb1.alloc hs1 _) (by rw [World.size_alloc]; omega) hg2; have hs2 := hb2.size)
      | (at_builtin; refine wpList_append_rd rfl (.tmp 43) (.tmp 46) 45 rfl w.heap.size 3 i0 _ 1 8 Try.underlying45 hi hz0 hz1 hz2 rfl (by omega) _ _ _ rfl hown2 (some ⟨g, 0, none⟩) 0 (0) w.heap.size (ints (nI (S.drop S.length))) rfl (by rw [ints_length, nI_length, List.length_drop]; omega) (fun h => absurd h (by simp)) (fun h => absurd h (by simp [nI, ints])) one_nI (by unfold maxLen; omega) (by omega) hs2 ?_; intro v3 w3 hown3 hg3; have hb3 := row_below hown2 hb2 hs2 hg3)
      | fail)
        go_returns
        exact HPn.out _ v3 (row_to hown3 (by rw [nI_length, List.length_append, List.length_cons, List.length_take, List.length_drop]; omega) (by rw [List.nil_append]; exact nI_take_drop S S.length x)) hb3
      · have hcl : S.length < cap := by omega
        go_wp2_with (first
      | (at_builtin; refine wpList_append_rd rfl (.tmp 34) (.tmp 37) 45 rfl w.heap.size 3 i0 _ 1 8 Try.underlying45 hi hz0 hz1 hz2 rfl (by omega) _ 0 [] rfl (row_empty w _ _) (some ⟨g, 0, none⟩) S.length cap w.heap.size (ints (nI (S.take S.length))) rfl (by rw [ints_length, nI_length, List.length_take]; omega) (fun h => absurd h (by simp)) ((rd_piece S.length hr).1.below ((Below.refl _ _).alloc (Nat.le_refl _) _)) one_nI (by unfold maxLen; omega) (by omega) (by simp) ?_; intro v1 w1 hown1 hg1; have hb1 := row_below (row_empty w 3 1) ((Below.refl _ _).alloc (Nat.le_refl _) _) (by simp) hg1; have hs1 := hb1.size)
      | (at_builtin; refine wpList_append_own _ rfl (.tmp 39) (.tmp 41) 45 rfl w.heap.size 3 i0 _ 1 8 Try.underlying45 hi hz0 hz1 hz2 rfl (by omega) _ _ _ rfl (hown1.alloc _) ⟨w1.heap.size, 0, none⟩ 1 1 [.int .i64 (x : Int)] rfl rfl one_cellI one_oneI (by unfold maxLen; omega) (by omega) (by rw [World.size_alloc]; omega) ?_; intro v2 w2 hown2 hg2 _; have hb2 := row_below (hown1.alloc (.cells #[.int .i64 (x : Int)] 3)) (hb1.alloc hs1 _) (by rw [World.size_alloc]; omega) hg2; have hs2 := hb2.size)
      | (at_builtin; refine wpList_append_rd rfl (.tmp 43) (.tmp 46) 45 rfl w.heap.size 3 i0 _ 1 8 Try.underlying45 hi hz0 hz1 hz2 rfl (by omega) _ _ _ rfl hown2 (some ⟨g, S.length, none⟩) 0 (cap - S.length) w.heap.size (ints (nI (S.drop S.length))) rfl (by rw [ints_length, nI_length, List.length_drop]; omega) (fun h => absurd h (by simp)) (fun h => absurd h (by simp [nI, ints])) one_nI (by unfold maxLen; omega) (by omega) hs2 ?_; intro v3 w3 hown3 hg3; have hb3 := row_below hown2 hb2 hs2 hg3)
      | fail)
        go_returns
        exact HPn.out _ v3 (row_to hown3 (by rw [nI_length, List.length_append, List.length_cons, List.length_take, List.length_drop]; omega) (by rw [List.nil_append]; exact nI_take_drop S S.length x)) hb3
theorem spec_l1Put (base n : Nat) (v : Value) (q : List Nat) (x : Nat) (w : World) (h : MRow w base v (sortN n q)) (hbase : base ≤ w.heap.size) (hx : x < n) (hn : n ≤ 90) :
    Calls Try.prog 68 #[v, .int .i64 (x : Int)] w fun e w' => ∃ v', e = .returned v' ∧ MRow w' base v' (sortN n (q ++ [x])) ∧ Below w.heap.size w w' := by
  have hlen := sortN_length (n := n) q
  by_cases hS : sortN n q = []
  · rw [h.2 hS]
    refine (spec_l1Put_nil x w).mono ?_
    rintro e w' ⟨v', rfl, h1, h2⟩
    have e2 := put_new (k := 0) (q := q) hx (Nat.zero_le _) (fun i _ h => absurd h (Nat.not_lt_zero i)) (fun h => absurd h (by rw [hS]; simp))
    rw [hS] at e2
    refine ⟨v', rfl, ⟨?_, fun h => ?_⟩, h2⟩
    · rw [e2]
      exact IRow.mono h1 hbase
    · rw [e2] at h
      cases h
  · have hpos : 0 < (sortN n q).length := List.length_pos_iff.2 hS
    rcases h.1.2 with ⟨_, h0⟩ | ⟨g, cap, cur, rfl, hbg, hh, hle, hmax, _, _⟩
    · rw [nI_length] at h0; omega
    · rw [nI_length] at hle
      have hrow := h.1
      obtain ⟨A, cp, e, ho, _⟩ := hrow.shape
      rw [nI_length] at e ⊢
      injection e with e1 e2 e3
      subst e1
      refine (spec_l1Put_some g cap (sortN n q) x w hpos (by omega) hle hmax ho.rd).mono ?_
      rintro e w' ⟨k, hk, hlow, ⟨hkl, hkx, rfl, hb⟩ | ⟨hhi, v', rfl, hv, hb⟩⟩
      · refine ⟨_, rfl, ⟨?_, fun h => ?_⟩, hb⟩
        · rw [put_same hkl hkx]
          have := hrow.keep hb
          rw [nI_length] at this
          exact this
        · rw [put_same hkl hkx] at h
          exact absurd h hS
      · refine ⟨v', rfl, ⟨?_, fun h => ?_⟩, hb⟩
        · rw [put_new hx hk hlow hhi]
          exact IRow.mono hv hbase
        · rw [put_new hx hk hlow hhi] at h
          simp at h
end Go.Proofs.Ytoflhjekldlaiaa
namespace Go.Proofs.Ytoflhjekldlaiaa
open Go.ChangeShapes Go.WideShapes Go.ChangeAt Go.RowKit Go.Joins Go.Deep
set_option linter.unusedSimpArgs false
set_option linter.unusedVariables false
set_option maxRecDepth 100000
set_option maxHeartbeats 4000000
theorem wayN_take {c : Nat} {wy : List (List Nat)} {i : Nat} (h : i < wy.length) : wayN c (wy.take (i + 1)) = wayN c (wy.take i) ++ [wy[i].getD 0 0 * c + wy[i].getD 1 0] := by
  unfold wayN
  rw [List.take_succ_eq_append_getElem h, List.map_append]
  rfl
theorem spec_MetCells_good (r c b o cap : Nat) (l : List (Int × Int)) (w : World) (hg : goodB (r : Int) (c : Int) l = true) (hn : l.length ≤ 1048576) (hr : Rd w w.heap.size (some ⟨b, o, none⟩) (flat l)) :
    Calls Try.prog 43 #[.agg #[.int .i64 (r : Int), .int .i64 (c : Int), .slice (some ⟨b, o, none⟩) l.length cap]] w (PostL w (nI (sortN l.length (metN (r : Int) (c : Int) l c))) true) := by
  have HG := Lib.hid hg
  obtain ⟨r', c', er, ec, hGe⟩ := geo_of hg
  obtain rfl : r = r' := by omega
  obtain rfl : c = c' := by omega
  obtain ⟨_, h90, hpos⟩ := goodB_parts hg
  obtain ⟨s1, s2, s3, s4⟩ := sizeB_iff.1 (goodB_iff.1 hg).1
  have hlrc := Lib.hid hGe.cells
  have HNl := Lib.hid (numL_len c l)
  have HGe := Lib.hid hGe
  clear er ec
  go_enter Try.func43, Try.ntmps43
  obtain ⟨v0, hv0⟩ : ∃ v, v = w.alloc (.cells #[.int .i64 (r : Int), .int .i64 (c : Int), .slice (some ⟨b, o, none⟩) l.length cap] 32) := ⟨_, rfl⟩; have X0 : Whole v0 w.heap.size 32 [.int .i64 (r : Int), .int .i64 (c : Int), .slice (some ⟨b, o, none⟩) l.length cap] := (by rw [hv0]; exact heap_alloc_new w _); have hb : Below w.heap.size w v0 := (by rw [hv0]; exact (Below.refl _ _).alloc (Nat.le_refl _) _); have HV := Lib.hid hv0.symm; clear hv0; go_upto_region 1 with (fail); rewrite [HV.out]; clear HV; have X0k0 : v0.cell? ⟨w.heap.size, 0, none⟩ = some (.int .i64 (r : Int)) := (X0.cell 0).trans rfl; have X0k1 : v0.cell? ⟨w.heap.size, 1, none⟩ = some (.int .i64 (c : Int)) := (X0.cell 1).trans rfl; have X0k2 : v0.cell? ⟨w.heap.size, 2, none⟩ = some (.slice (some ⟨b, o, none⟩) l.length cap) := (X0.cell 2).trans rfl
  go_wp2_with fail
  refine (spec_boGood _ _ _ _ l _ hn ((hr.below hb).mono hb.size)).mono ?_; rintro e w1 ⟨rfl, b1⟩
  rewrite [HG.out]
  (clear X0k0 X0k1 X0k2; replace X0 := X0.below b1 X0.lt; replace hb := hb.trans (b1.mono hb.size); clear b1; have X0k0 : w1.cell? ⟨w.heap.size, 0, none⟩ = some (.int .i64 (r : Int)) := (X0.cell 0).trans rfl; have X0k1 : w1.cell? ⟨w.heap.size, 1, none⟩ = some (.int .i64 (c : Int)) := (X0.cell 1).trans rfl; have X0k2 : w1.cell? ⟨w.heap.size, 2, none⟩ = some (.slice (some ⟨b, o, none⟩) l.length cap) := (X0.cell 2).trans rfl)
  go_wp2_with fail
  refine (spec_ggGroups r c (some ⟨b, o, none⟩) cap l _ HGe.out ((hr.below hb).mono hb.size)).mono ?_; rintro e w2 hP
  obtain ⟨A6, c6, rfl, o6, n6, b2⟩ := hP.value
  clear hP
  rewrite [HNl.out]
  have h6w : ∀ a, A6 = some a → w.heap.size < a.block := fun a ha => by have h1 := n6 a ha; have h2 := X0.lt; omega
  clear X0k0 X0k1 X0k2
  replace X0 := X0.below b2 X0.lt; replace hb := hb.trans (b2.mono hb.size); clear b2
  obtain ⟨g6, rest6, rfl, X6⟩ := o6 (by rw [ints_length, HNl.out]; omega)
  have h6 : w.heap.size < g6 := h6w _ rfl
  clear o6 n6 h6w
  go_wp2
  go_loopw [4, 6] (fun v i wr => ∃ k : Nat, i = .int .i64 k ∧ k ≤ c ∧ MRow wr w.heap.size v (sortN l.length (metN (r : Int) (c : Int) l k)) ∧ Whole wr w.heap.size 32 [.int .i64 (r : Int), .int .i64 (c : Int), .slice (some ⟨b, o, none⟩) l.length cap] ∧ Whole wr g6 3 (ints (numL c l) ++ rest6) ∧ Below w.heap.size w wr) (fun _ i _ => c - (intOf i).toNat)
  case atStart => exact ⟨0, rfl, Nat.zero_le _, ⟨by rw [show sortN l.length (metN (r : Int) (c : Int) l 0) = [] from by simp [sortN, metN]]; exact IRow.nil, fun _ => rfl⟩, X0, X6, hb⟩
  case round =>
    clear X0 X6 hb
    obtain ⟨k, rfl, hk, hM, X0, X6, hb⟩ := hrel
    have hs := hb.size
    by_cases hlt : k < c
    · have HF := spec_flGo r c b o cap g6 c6 l (numL c l) rest6 k wr HGe.out hg ((hr.below hb).mono hs) HNl.out X6 hlt
      rw [HNl.out] at HF
      have hW := marO_wayOK (r := r) (l := l) hlt
      have hWl := flG_wayLen (numL c l) r c r 0 l k 0 []
      have HMt := Lib.hid (show metN (r : Int) (c : Int) l (k + 1) = metN (r : Int) (c : Int) l k ++ wayN c (flG (numL c l) r c r 0 l k 0 []).way from rfl)
      rw [show marO (r : Int) (c : Int) l (k : Int) = flG (numL c l) r c r 0 l k 0 [] from rfl] at hW
      generalize flG (numL c l) r c r 0 l k 0 [] = F at *
      generalize metN (r : Int) (c : Int) l k = Q at *
      have hWl9 : F.way.length ≤ 10 := by simp at hWl; omega
      clear hWl
      have X0k0 : wr.cell? ⟨w.heap.size, 0, none⟩ = some (.int .i64 (r : Int)) := (X0.cell 0).trans rfl; have X0k1 : wr.cell? ⟨w.heap.size, 1, none⟩ = some (.int .i64 (c : Int)) := (X0.cell 1).trans rfl; have X0k2 : wr.cell? ⟨w.heap.size, 2, none⟩ = some (.slice (some ⟨b, o, none⟩) l.length cap) := (X0.cell 2).trans rfl
      go_wp2_with fail
      refine HF.mono ?_; rintro e w5 ⟨A5, c5, v5, rfl, O5, N5, L5, b5⟩
      clear HF O5 N5
      clear X0k0 X0k1 X0k2
      replace hM := hM.keep b5
      replace X0 := X0.below b5 X0.lt
      replace X6 := X6.below b5 X6.lt
      replace hb := hb.trans (b5.mono hs)
      have hs5 := b5.size
      clear b5
      obtain ⟨A7, c7, rfl⟩ := L5.shape
      replace L5 := L5.mono hs
      go_upto_region 10 with (fail)
      obtain ⟨v7, hv7, Xf, Xb, b7, hz7⟩ := two_boxes w5 [.int .i64 F.e, .int .i64 F.row, .int .i64 F.col] 27 [.int .i64 (r : Int), .int .i64 (c : Int), .slice A5 l.length c5] 32
      rewrite [show (w5.alloc (.cells ([.int .i64 F.e, .int .i64 F.row, .int .i64 F.col] : List Value).toArray 27)).alloc (.cells ([.int .i64 (r : Int), .int .i64 (c : Int), .slice A5 l.length c5] : List Value).toArray 32) = v7 from hv7]
      clear hv7 Xf Xb hz7
      replace hM := hM.keep b7
      replace X0 := X0.below b7 X0.lt
      replace X6 := X6.below b7 X6.lt
      replace L5 := L5.keep b7
      replace hb := hb.trans (b7.mono hb.size)
      clear b7 hs hs5
      rw [show Q = Q ++ wayN c (F.way.take 0) by simp [wayN]] at hM
      go_loopw [4, 33] (fun v i wr => ∃ j : Nat, i = .int .i64 j ∧ j ≤ F.way.length ∧ MRow wr w.heap.size v (sortN l.length (Q ++ wayN c (F.way.take j))) ∧ Whole wr w.heap.size 32 [.int .i64 (r : Int), .int .i64 (c : Int), .slice (some ⟨b, o, none⟩) l.length cap] ∧ Whole wr g6 3 (ints (numL c l) ++ rest6) ∧ LRow wr w.heap.size (.slice A7 F.way.length c7) F.way ∧ Below w.heap.size w wr) (fun _ i _ => F.way.length - (intOf i).toNat)
      case atStart => exact ⟨0, rfl, Nat.zero_le _, hM, X0, X6, L5, hb⟩
      case round =>
        clear hM X0 X6 L5 hb
        obtain ⟨j, rfl, hj, hM, X0, X6, L5, hb⟩ := hrel
        have hs := hb.size
        by_cases hjl : j < F.way.length
        · obtain ⟨go, cap0, Aj, cj, e4, hh, hoj, hbj, hgo⟩ := L5.at_ hjl
          have eA : A7 = some ⟨go, 0, none⟩ := by injection e4
          subst eA
          clear e4
          have HWt := Lib.hid (wayN_take (c := c) hjl)
          obtain ⟨ra, rb, hp, hra, hrb⟩ := hW _ (List.getElem_mem hjl)
          have HLw := Lib.hid (L5)
          rw [hp] at hoj hh HWt
          clear hp L5
          obtain ⟨gj, restj, rfl, Xj⟩ := hoj (by simp [nI, ints])
          have p0 : wr.cell? ⟨gj, 0, none⟩ = some (.int .i64 (ra : Int)) := (Xj.cell 0).trans rfl
          have p1 : wr.cell? ⟨gj, 1, none⟩ = some (.int .i64 (rb : Int)) := (Xj.cell 1).trans rfl
          have hgj := Xj.lt
          have hyw := X0.lt
          have k0 : wr.cell? ⟨w.heap.size, 0, none⟩ = some (.int .i64 (r : Int)) := (X0.cell 0).trans rfl
          have k1 : wr.cell? ⟨w.heap.size, 1, none⟩ = some (.int .i64 (c : Int)) := (X0.cell 1).trans rfl
          have hix : ra * c + rb < l.length := by
            have h1 := Nat.mul_le_mul (show ra + 1 ≤ r by omega) (Nat.le_refl c)
            rw [Nat.succ_mul] at h1
            have h2 := hlrc.out
            omega
          have m1 : IntKind.i64.wrap ((ra : Int) * (c : Int)) = (ra : Int) * (c : Int) := by
            have e : (ra : Int) * (c : Int) = ((ra * c : Nat) : Int) := by push_cast; rfl
            rw [e]; exact IntWalk.i64_in _ (by omega)
          have m2 : IntKind.i64.wrap ((ra : Int) * (c : Int) + (rb : Int)) = ((ra * c + rb : Nat) : Int) := by
            have e : (ra : Int) * (c : Int) + (rb : Int) = ((ra * c + rb : Nat) : Int) := by push_cast; rfl
            rw [e]; exact IntWalk.i64_in _ (by omega)
          have HQp := Lib.hid (fun w0 h1 h2 => spec_l1Put w.heap.size l.length u4 (Q ++ wayN c (F.way.take j)) (ra * c + rb) w0 h1 h2 hix h90)
          have HQe := Lib.hid (show Q ++ wayN c (F.way.take (j + 1)) = Q ++ wayN c (F.way.take j) ++ [ra * c + rb] by rw [HWt.out, List.append_assoc]; rfl)
          generalize hixe : ra * c + rb = ix at *
          go_upto_region 12 with (fail)
          have KS := Lib.hid (fun (w' : World) (h : Below wr.heap.size wr w') => (⟨(h.cell (p := ⟨w.heap.size, 0, none⟩) hyw).trans k0, (h.cell (p := ⟨w.heap.size, 1, none⟩) hyw).trans k1, (h.cell (p := ⟨gj, 0, none⟩) hgj).trans p0, (h.cell (p := ⟨gj, 1, none⟩) hgj).trans p1⟩ : w'.cell? ⟨w.heap.size, 0, none⟩ = some (.int .i64 (r : Int)) ∧ w'.cell? ⟨w.heap.size, 1, none⟩ = some (.int .i64 (c : Int)) ∧ w'.cell? ⟨gj, 0, none⟩ = some (.int .i64 (ra : Int)) ∧ w'.cell? ⟨gj, 1, none⟩ = some (.int .i64 (rb : Int))))
          clear k0 k1 p0 p1 hh
          go_region_held3 (fun w' => w'.cell? ⟨w.heap.size, 0, none⟩ = some (.int .i64 (r : Int)) ∧ w'.cell? ⟨w.heap.size, 1, none⟩ = some (.int .i64 (c : Int)) ∧ w'.cell? ⟨gj, 0, none⟩ = some (.int .i64 (ra : Int)) ∧ w'.cell? ⟨gj, 1, none⟩ = some (.int .i64 (rb : Int)))
            (first | exact KS.out _ (by (repeat' (first | (with_reducible exact Below.refl _ _) | (with_reducible assumption) | (with_reducible refine Below.alloc ?_ ?_ _) | (with_reducible refine Below.setCell ?_ ?_ _) | (with_reducible refine Below.drew ?_) | (with_reducible refine below_drewN ?_ _) | (with_reducible refine Below.trans ?_ (Below.mono (by assumption) ?_)) | go_size))) | fail)
            ((first
              | (go_at_call 68; (with_reducible refine (HQp.out _ ?_ ?_).mono ?_); (focus exact hM.keep (by (repeat' (first | (with_reducible exact Below.refl _ _) | (with_reducible assumption) | (with_reducible refine Below.alloc ?_ ?_ _) | (with_reducible refine Below.setCell ?_ ?_ _) | (with_reducible refine Below.drew ?_) | (with_reducible refine below_drewN ?_ _) | (with_reducible refine Below.trans ?_ (Below.mono (by assumption) ?_)) | go_size)) : Below wr.heap.size wr _)); (focus exact Nat.le_trans hs (by (repeat' (first | (with_reducible exact Below.refl _ _) | (with_reducible assumption) | (with_reducible refine Below.alloc ?_ ?_ _) | (with_reducible refine Below.setCell ?_ ?_ _) | (with_reducible refine Below.drew ?_) | (with_reducible refine below_drewN ?_ _) | (with_reducible refine Below.trans ?_ (Below.mono (by assumption) ?_)) | go_size)) : Below wr.heap.size wr _).size); rintro e w8 ⟨v8, rfl, hM8, b8⟩; have bb : Below wr.heap.size wr w8 := (by (repeat' (first | (with_reducible exact Below.refl _ _) | (with_reducible assumption) | (with_reducible refine Below.alloc ?_ ?_ _) | (with_reducible refine Below.setCell ?_ ?_ _) | (with_reducible refine Below.drew ?_) | (with_reducible refine below_drewN ?_ _) | (with_reducible refine Below.trans ?_ (Below.mono (by assumption) ?_)) | go_size))))
              | fail))
          all_goals (have L8 := HLw.out.keep bb; have X08 := X0.below bb X0.lt; have X68 := X6.below bb X6.lt; have B8 := hb.trans (bb.mono hs))
          all_goals rw [← HQe.out] at hM8
          all_goals clear KS HQp HLw hM X0 X6 hb Xj hoj b8 bb m1 m2
          all_goals go_wp2
          all_goals go_roundw
          all_goals first
            | exact ⟨j + 1, by go_num, by omega, hM8, X08, X68, L8, B8⟩
            | (simp [intOf]; omega)
            | fail
        · obtain rfl : j = F.way.length := by omega
          rw [List.take_length, ← HMt.out] at hM
          clear hjl
          have X0k0 : wr.cell? ⟨w.heap.size, 0, none⟩ = some (.int .i64 (r : Int)) := (X0.cell 0).trans rfl; have X0k1 : wr.cell? ⟨w.heap.size, 1, none⟩ = some (.int .i64 (c : Int)) := (X0.cell 1).trans rfl; have X0k2 : wr.cell? ⟨w.heap.size, 2, none⟩ = some (.slice (some ⟨b, o, none⟩) l.length cap) := (X0.cell 2).trans rfl
          go_wp2
          go_roundw
          case rel => exact ⟨k + 1, by go_num, by omega, hM, X0, X6, hb⟩
          case measure => simp [intOf]; omega
    · obtain rfl : k = c := by omega
      obtain ⟨A7, c7, rfl, ho, hnw⟩ := hM.1.shape
      have X0k0 : wr.cell? ⟨w.heap.size, 0, none⟩ = some (.int .i64 (r : Int)) := (X0.cell 0).trans rfl; have X0k1 : wr.cell? ⟨w.heap.size, 1, none⟩ = some (.int .i64 (k : Int)) := (X0.cell 1).trans rfl; have X0k2 : wr.cell? ⟨w.heap.size, 2, none⟩ = some (.slice (some ⟨b, o, none⟩) l.length cap) := (X0.cell 2).trans rfl
      clear hlt
      go_wp2
      go_returns
      exact PostL.mk ho hnw hb
end Go.Proofs.Ytoflhjekldlaiaa
namespace Go.Proofs.Ytoflhjekldlaiaa
open Go.ChangeShapes Go.WideShapes Go.ChangeAt Go.RowKit Go.Joins Go.Deep
set_option linter.unusedSimpArgs false
set_option linter.unusedVariables false
set_option maxRecDepth 100000
set_option maxHeartbeats 4000000
theorem flG_wayGe (nm : List Int) (r c : Nat) : ∀ (n row : Nat) (l : List (Int × Int)) (col : Nat) (side : Int) (way : List (List Nat)), way.length ≤ (flG nm r c n row l col side way).way.length
  | 0, _, _, _, _, _ => Nat.le_refl _
  | n + 1, row, l, col, side, way => by
    rw [flG_step nm r c n row l col side way _ _ rfl rfl]
    split
    · rw [List.length_append]; omega
    · split
      · have := flG_wayGe nm r c n (row + 1) (passL nm l (row * c + col)) ((col : Int) + goN (l.getD (row * c + col) (0, 0)).1 (l.getD (row * c + col) (0, 0)).2 side).toNat (-goN (l.getD (row * c + col) (0, 0)).1 (l.getD (row * c + col) (0, 0)).2 side) (way ++ [[row, col]])
        rw [List.length_append] at this
        omega
      · rw [List.length_append]; omega
theorem flG_wayPos (nm : List Int) (r c n row : Nat) (l : List (Int × Int)) (col : Nat) (side : Int) : 0 < (flG nm r c (n + 1) row l col side []).way.length := by
  rw [flG_step nm r c n row l col side [] _ _ rfl rfl]
  split
  · simp
  · split
    · have := flG_wayGe nm r c n (row + 1) (passL nm l (row * c + col)) ((col : Int) + goN (l.getD (row * c + col) (0, 0)).1 (l.getD (row * c + col) (0, 0)).2 side).toNat (-goN (l.getD (row * c + col) (0, 0)).1 (l.getD (row * c + col) (0, 0)).2 side) ([] ++ [[row, col]])
      simp at this ⊢
      omega
    · simp
theorem marO_wayPos {r c : Nat} {l : List (Int × Int)} {k : Int} (hr : 1 ≤ r) : 0 < (marO (r : Int) (c : Int) l k).way.length := by
  obtain ⟨n, rfl⟩ : ∃ n, r = n + 1 := ⟨r - 1, by omega⟩
  exact flG_wayPos _ (n + 1) c n 0 l _ _
theorem wayN_len (c : Nat) (wy : List (List Nat)) : (wayN c wy).length = wy.length := by simp [wayN]
theorem metN_len {r c : Nat} {l : List (Int × Int)} : ∀ k, (metN (r : Int) (c : Int) l k).length ≤ k * r
  | 0 => by simp [metN]
  | k + 1 => by
    have ih := metN_len (r := r) (c := c) (l := l) k
    have h := flG_wayLen (numL c l) r c r 0 l (k : Int).toNat 0 []
    rw [metN, List.length_append, wayN_len, Nat.succ_mul]
    have h2 : (marO (r : Int) (c : Int) l (k : Int)).way.length ≤ r := by
      show (flG (numL c l) r c r 0 l k 0 []).way.length ≤ r
      simpa using h
    omega
open Go.Sort in
theorem sort_rowI {w : World} {base g cap : Nat} {q : List Int} (hrow : IRow w base (.slice (some ⟨g, 0, none⟩) q.length cap) q) (hq : q.length ≤ 1048576) :
    Calls Try.prog 70 #[.slice (some ⟨g, 0, none⟩) q.length cap] w fun e w' => e = .returned (.tuple #[]) ∧ IRow w' base (.slice (some ⟨g, 0, none⟩) q.length cap) (q.mergeSort fun x y => decide (x ≤ y)) ∧ w.grownBy w' (some g) := by
  rcases hrow.2 with ⟨h0, _⟩ | ⟨g', cap', cur, e, hbase, hb, h1, h2, h3, h4⟩
  · cases h0
  cases e
  have hH : Sort.Holds (Value.int .i64) w g 0 q.toArray := holds_of_blockI hb (by rw [Nat.mul_one] at h4; exact h4)
  have hc := Try.slices_Sort_int g 0 cap q w hH (Array.getElem?_eq_some_iff.1 hb).1 (by omega)
  refine hc.mono ?_
  rintro e w' ⟨rfl, nn, os, rfl⟩
  refine ⟨rfl, ?_, grownBy_sortedI _⟩
  have h := ownsRow_sortedI (n := nn) (os := os) (ts := q.mergeSort fun x y => decide (x ≤ y)) (ss := q) (by rw [List.length_mergeSort]) hbase hb h1 h2 h3
  unfold IRow
  rw [List.length_mergeSort]
  exact h
open Go.Sort in
theorem compact_rowI {w : World} {base g cap : Nat} {q : List Int} (hrow : IRow w base (.slice (some ⟨g, 0, none⟩) q.length cap) q) (hq : q.length ≤ 1048576) :
    Calls Try.prog 71 #[.slice (some ⟨g, 0, none⟩) q.length cap] w fun e w' => e = .returned (.slice (some ⟨g, 0, none⟩) (Lib.compact q).length cap) ∧ Own w' (some ⟨g, 0, none⟩) 3 (ints (Lib.compact q)) ∧ base ≤ g ∧ w.grownBy w' (some g) := by
  rcases hrow.2 with ⟨h0, _⟩ | ⟨g', cap', cur, e, hbase, hb, h1, h2, h3, h4⟩
  · cases h0
  cases e
  have hle := Lib.compact_length_le q
  have hH : Sort.Holds (Value.int .i64) w g 0 q.toArray := holds_of_blockI hb (by rw [Nat.mul_one] at h4; exact h4)
  refine (Try.slices_Compact_int g 0 cap q w hH (by omega) h1).mono ?_
  rintro e w' ⟨rfl, nn, rfl⟩
  have h := ownsRow_sortedI (n := nn) (os := #[]) (ts := Lib.compact q ++ List.replicate (q.length - (Lib.compact q).length) 0) (ss := q) (by rw [List.length_append, List.length_replicate]; omega) hbase hb h1 h2 h3
  have hgb := grownBy_sortedI (w := w) (g := g) (n := nn) (os := #[]) (Lib.compact q ++ List.replicate (q.length - (Lib.compact q).length) 0).toArray
  rw [grow_empty] at h hgb
  refine ⟨rfl, fun hx => ?_, hbase, hgb⟩
  obtain ⟨g2, rest, e2, hw⟩ := (own_of_row h).1 (by rw [List.length_map, List.length_append]; rw [ints_length] at hx; omega)
  cases e2
  refine ⟨g, (List.replicate (q.length - (Lib.compact q).length) (0 : Int)).map (Value.int .i64) ++ rest, rfl, ?_⟩
  rw [← List.append_assoc]
  rw [List.map_append] at hw
  exact hw
theorem impl_MetCells_good (r c b o cap : Nat) (l : List (Int × Int)) (w : World) (hg : goodB (r : Int) (c : Int) l = true) (hn : l.length ≤ 1048576) (hr : Rd w w.heap.size (some ⟨b, o, none⟩) (flat l)) :
    Calls Try.prog 44 #[.agg #[.int .i64 (r : Int), .int .i64 (c : Int), .slice (some ⟨b, o, none⟩) l.length cap]] w (PostL w (nI (sortN l.length (metN (r : Int) (c : Int) l c))) true) := by
  have HG := Lib.hid hg
  obtain ⟨r', c', er, ec, hGe⟩ := geo_of hg
  obtain rfl : r = r' := by omega
  obtain rfl : c = c' := by omega
  obtain ⟨_, h90, hpos⟩ := goodB_parts hg
  obtain ⟨s1, s2, s3, s4⟩ := sizeB_iff.1 (goodB_iff.1 hg).1
  have hlrc := Lib.hid hGe.cells
  obtain ⟨i0, hi, hz0, hz1, hz2⟩ := info_parts intInfo
  have HSC := Lib.hid (sorted_compact (n := l.length) (q := metN (r : Int) (c : Int) l c) (by rw [hlrc.out]; exact metN_lt c (Nat.le_refl _)))
  clear er ec hGe
  go_enter Try.func44, Try.ntmps44
  obtain ⟨v0, hv0⟩ : ∃ v, v = w.alloc (.cells #[.int .i64 (r : Int), .int .i64 (c : Int), .slice (some ⟨b, o, none⟩) l.length cap] 32) := ⟨_, rfl⟩; have X0 : Whole v0 w.heap.size 32 [.int .i64 (r : Int), .int .i64 (c : Int), .slice (some ⟨b, o, none⟩) l.length cap] := (by rw [hv0]; exact heap_alloc_new w _); have hb : Below w.heap.size w v0 := (by rw [hv0]; exact (Below.refl _ _).alloc (Nat.le_refl _) _); have HV := Lib.hid hv0.symm; clear hv0; go_upto_region 1 with (fail); rewrite [HV.out]; clear HV; have X0k0 : v0.cell? ⟨w.heap.size, 0, none⟩ = some (.int .i64 (r : Int)) := (X0.cell 0).trans rfl; have X0k1 : v0.cell? ⟨w.heap.size, 1, none⟩ = some (.int .i64 (c : Int)) := (X0.cell 1).trans rfl; have X0k2 : v0.cell? ⟨w.heap.size, 2, none⟩ = some (.slice (some ⟨b, o, none⟩) l.length cap) := (X0.cell 2).trans rfl
  go_wp2_with fail
  refine (impl_IsBoard _ _ _ _ l _ hn ((hr.below hb).mono hb.size)).mono ?_; rintro e w1 ⟨rfl, b1⟩
  rewrite [HG.out]
  (clear X0k0 X0k1 X0k2; replace X0 := X0.below b1 X0.lt; replace hb := hb.trans (b1.mono hb.size); clear b1; have X0k0 : w1.cell? ⟨w.heap.size, 0, none⟩ = some (.int .i64 (r : Int)) := (X0.cell 0).trans rfl; have X0k1 : w1.cell? ⟨w.heap.size, 1, none⟩ = some (.int .i64 (c : Int)) := (X0.cell 1).trans rfl; have X0k2 : w1.cell? ⟨w.heap.size, 2, none⟩ = some (.slice (some ⟨b, o, none⟩) l.length cap) := (X0.cell 2).trans rfl)
  go_wp2
  clear X0k0 X0k1 X0k2
  go_loopw [4, 13] (fun v i wr => ∃ k : Nat, i = .int .i64 k ∧ k ≤ c ∧ IRow wr w.heap.size v (nI (metN (r : Int) (c : Int) l k)) ∧ Whole wr w.heap.size 32 [.int .i64 (r : Int), .int .i64 (c : Int), .slice (some ⟨b, o, none⟩) l.length cap] ∧ Below w.heap.size w wr) (fun _ i _ => c - (intOf i).toNat)
  case atStart => exact ⟨0, rfl, Nat.zero_le _, IRow.nil, X0, hb⟩
  case round =>
    clear X0 hb
    obtain ⟨k, rfl, hk, hM, X0, hb⟩ := hrel
    have hs := hb.size
    have hml := metN_len (r := r) (c := c) (l := l) k
    have hkr : k * r ≤ 90 := by
      have := Nat.mul_le_mul (show k ≤ 9 by omega) (show r ≤ 10 by omega)
      omega
    by_cases hlt : k < c
    · have HMt := Lib.hid (show metN (r : Int) (c : Int) l (k + 1) = metN (r : Int) (c : Int) l k ++ wayN c (marO (r : Int) (c : Int) l (k : Int)).way from rfl)
      have hwp := marO_wayPos (r := r) (c := c) (l := l) (k := (k : Int)) (by omega)
      have hwl : (marO (r : Int) (c : Int) l (k : Int)).way.length ≤ r := by
        have h := flG_wayLen (numL c l) r c r 0 l (k : Int).toNat 0 []
        show (flG (numL c l) r c r 0 l k 0 []).way.length ≤ r
        simpa using h
      have X0k0 : wr.cell? ⟨w.heap.size, 0, none⟩ = some (.int .i64 (r : Int)) := (X0.cell 0).trans rfl; have X0k1 : wr.cell? ⟨w.heap.size, 1, none⟩ = some (.int .i64 (c : Int)) := (X0.cell 1).trans rfl; have X0k2 : wr.cell? ⟨w.heap.size, 2, none⟩ = some (.slice (some ⟨b, o, none⟩) l.length cap) := (X0.cell 2).trans rfl
      go_wp2_with fail
      refine (impl_fallAlone r c b o cap l k _ hg ((hr.below hb).mono hs) hlt).mono ?_; rintro e w2 ⟨A5, c5, rfl, O5, N5, b2⟩
      clear X0k0 X0k1 X0k2
      rw [wayI_nI] at O5
      clear N5
      generalize marO (r : Int) (c : Int) l (k : Int) = F at *
      generalize metN (r : Int) (c : Int) l k = Q at *
      obtain ⟨g5, rest5, rfl, X5⟩ := O5 (by rw [ints_length, nI_length, wayN_len]; exact hwp)
      replace hM := hM.keep b2
      replace X0 := X0.below b2 X0.lt
      replace hb := hb.trans (b2.mono hs)
      replace hs := hb.size
      clear b2 O5
      have X5a := X5.alloc (.cells #[.int .i64 F.e, .int .i64 F.row, .int .i64 F.col] 27)
      go_wp2_with (first
        | (at_builtin; refine wpList_append_rd rfl (.tmp 22) (.tmp 23) 45 rfl w.heap.size 3 i0 _ 1 8 Try.underlying45 hi hz0 hz1 hz2 rfl (by omega) _ (nI Q).length (ints (nI Q)) rfl (World.ownsRow.alloc hM _) (some ⟨g5, 0, none⟩) F.way.length c5 (w2.heap.size + 1) (ints (nI (wayN c F.way))) rfl (by rw [ints_length, nI_length, wayN_len]; omega) (fun h => absurd h (by simp)) (by have h := Whole.rdA X5a; rw [World.size_alloc] at h; exact h) one_nI (by rw [nI_length]; unfold maxLen; omega) (by rw [nI_length]; omega) (by rw [World.size_alloc]; omega) ?_; intro v3 w3 hown3 hg3)
        | fail)
      have hMa := hM.alloc (.cells #[.int .i64 F.e, .int .i64 F.row, .int .i64 F.col] 27)
      have hb3 : Below w.heap.size w w3 := row_below hMa (hb.alloc (by omega) _) (by rw [World.size_alloc]; omega) hg3
      have X03 := (X0.alloc (.cells #[.int .i64 F.e, .int .i64 F.row, .int .i64 F.col] 27)).grown hg3 (row_apart hMa (X0.alloc (.cells #[.int .i64 F.e, .int .i64 F.row, .int .i64 F.col] 27)) (by decide))
      go_roundw
      case rel => exact ⟨k + 1, by go_num, by omega, row_to hown3 (by rw [HMt.out, nI_length, nI_length, List.length_append, wayN_len]) (by rw [HMt.out]; simp [nI, ints]), X03, hb3⟩
      case measure => simp [intOf]; omega
    · obtain rfl : k = c := by omega
      have hmp : 0 < (metN (r : Int) (k : Int) l k).length := by
        obtain ⟨n, hn1⟩ : ∃ n, k = n + 1 := ⟨k - 1, by omega⟩
        have hwp := marO_wayPos (r := r) (c := k) (l := l) (k := (n : Int)) (by omega)
        have e : metN (r : Int) (k : Int) l k = metN (r : Int) (k : Int) l n ++ wayN (k : Int).toNat (marO (r : Int) (k : Int) l (n : Int)).way := by
          conv => lhs; rw [hn1]
          rw [metN, ← hn1]
        rw [e, List.length_append, wayN_len]
        omega
      generalize hQ : metN (r : Int) (k : Int) l k = Q at *
      have HQ := Lib.hid hQ
      clear hQ
      obtain ⟨g, cp, rfl, hbg⟩ := hM.form (by rw [nI_length]; exact hmp)
      have hql : (nI Q).length ≤ 1048576 := by rw [nI_length]; omega
      have X0k0 : wr.cell? ⟨w.heap.size, 0, none⟩ = some (.int .i64 (r : Int)) := (X0.cell 0).trans rfl; have X0k1 : wr.cell? ⟨w.heap.size, 1, none⟩ = some (.int .i64 (k : Int)) := (X0.cell 1).trans rfl; have X0k2 : wr.cell? ⟨w.heap.size, 2, none⟩ = some (.slice (some ⟨b, o, none⟩) l.length cap) := (X0.cell 2).trans rfl
      clear hlt
      go_wp2_with fail
      refine (sort_rowI hM hql).mono ?_; rintro e w3 ⟨rfl, hM3, gb3⟩
      have hb3 : Below w.heap.size w w3 := hb.grown gb3 hs (fun k e => by cases e; exact hbg)
      have hl3 : (nI Q).length = ((nI Q).mergeSort fun x y => decide (x ≤ y)).length := by rw [List.length_mergeSort]
      rewrite [hl3]
      rw [hl3] at hM3 hql
      clear hM hl3 X0k0 X0k1 X0k2 X0
      generalize hSt : (nI Q).mergeSort (fun x y => decide (x ≤ y)) = St at *
      have HSt := Lib.hid hSt
      clear hSt
      go_wp2_with fail
      refine (compact_rowI hM3 hql).mono ?_; rintro e w4 ⟨rfl, ho4, _, gb4⟩
      have hb4 : Below w.heap.size w w4 := hb3.grown gb4 hb3.size (fun k e => by cases e; exact hbg)
      rw [show Lib.compact St = nI (sortN l.length Q) from HSC.out] at ho4
      rewrite [show Lib.compact St = nI (sortN l.length Q) from HSC.out]
      clear hM3 gb3 gb4 hb3
      go_wp2
      go_returns
      exact PostL.mk ho4 (fun a ha => by cases ha; exact hbg) hb4
theorem spec_MetCells (R C : Int) (A : Option Addr) (cap : Nat) (l : List (Int × Int)) (w : World) (hn : l.length ≤ 1048576) (hr : Rd w w.heap.size A (flat l)) :
    Calls Try.prog 43 #[.agg #[.int .i64 R, .int .i64 C, .slice A l.length cap]] w (PostL w (metL R C l) (goodB R C l)) := by
  unfold metL
  rcases Bool.eq_false_or_eq_true (goodB R C l) with hg | hg
  · obtain ⟨_, _, hpos⟩ := goodB_parts hg
    obtain ⟨b, o, rfl, hbl, hc⟩ := hr (by rw [flat_length]; omega)
    have hr' : Rd w w.heap.size (some ⟨b, o, none⟩) (flat l) := fun _ => ⟨b, o, rfl, hbl, hc⟩
    obtain ⟨r, c, rfl, rfl, hG⟩ := geo_of hg
    rw [hg, if_pos rfl, Int.toNat_natCast]
    exact spec_MetCells_good r c b o cap l w hg hn hr'
  · have HG := Lib.hid hg
    rw [hg]
    clear hg
    go_enter Try.func43, Try.ntmps43
    obtain ⟨v0, hv0⟩ : ∃ v, v = w.alloc (.cells #[.int .i64 R, .int .i64 C, .slice A l.length cap] 32) := ⟨_, rfl⟩; have X0 : Whole v0 w.heap.size 32 [.int .i64 R, .int .i64 C, .slice A l.length cap] := (by rw [hv0]; exact heap_alloc_new w _); have hb : Below w.heap.size w v0 := (by rw [hv0]; exact (Below.refl _ _).alloc (Nat.le_refl _) _); have HV := Lib.hid hv0.symm; clear hv0; go_upto_region 1 with (fail); rewrite [HV.out]; clear HV; have X0k0 : v0.cell? ⟨w.heap.size, 0, none⟩ = some (.int .i64 R) := (X0.cell 0).trans rfl; have X0k1 : v0.cell? ⟨w.heap.size, 1, none⟩ = some (.int .i64 C) := (X0.cell 1).trans rfl; have X0k2 : v0.cell? ⟨w.heap.size, 2, none⟩ = some (.slice A l.length cap) := (X0.cell 2).trans rfl
    go_wp2_with fail
    refine (spec_boGood _ _ _ _ l _ hn ((hr.below hb).mono hb.size)).mono ?_; rintro e w1 ⟨rfl, b1⟩
    rewrite [HG.out]
    (clear X0k0 X0k1 X0k2; replace X0 := X0.below b1 X0.lt; replace hb := hb.trans (b1.mono hb.size); clear b1; have X0k0 : w1.cell? ⟨w.heap.size, 0, none⟩ = some (.int .i64 R) := (X0.cell 0).trans rfl; have X0k1 : w1.cell? ⟨w.heap.size, 1, none⟩ = some (.int .i64 C) := (X0.cell 1).trans rfl; have X0k2 : w1.cell? ⟨w.heap.size, 2, none⟩ = some (.slice A l.length cap) := (X0.cell 2).trans rfl)
    go_wp2
    go_returns
    exact PostL.none_ (by (repeat' (first | (with_reducible exact Below.refl _ _) | (with_reducible assumption) | (with_reducible refine Below.alloc ?_ ?_ _) | (with_reducible refine Below.setCell ?_ ?_ _) | (with_reducible refine Below.drew ?_) | (with_reducible refine below_drewN ?_ _) | (with_reducible refine Below.trans ?_ (Below.mono (by assumption) ?_)) | (with_reducible exact Nat.le_refl _) | (simp; done) | omega | (simp at *; omega))))
theorem impl_MetCells (R C : Int) (A : Option Addr) (cap : Nat) (l : List (Int × Int)) (w : World) (hn : l.length ≤ 1048576) (hr : Rd w w.heap.size A (flat l)) :
    Calls Try.prog 44 #[.agg #[.int .i64 R, .int .i64 C, .slice A l.length cap]] w (PostL w (metL R C l) (goodB R C l)) := by
  unfold metL
  rcases Bool.eq_false_or_eq_true (goodB R C l) with hg | hg
  · obtain ⟨_, _, hpos⟩ := goodB_parts hg
    obtain ⟨b, o, rfl, hbl, hc⟩ := hr (by rw [flat_length]; omega)
    have hr' : Rd w w.heap.size (some ⟨b, o, none⟩) (flat l) := fun _ => ⟨b, o, rfl, hbl, hc⟩
    obtain ⟨r, c, rfl, rfl, hG⟩ := geo_of hg
    rw [hg, if_pos rfl, Int.toNat_natCast]
    exact impl_MetCells_good r c b o cap l w hg hn hr'
  · have HG := Lib.hid hg
    rw [hg]
    clear hg
    go_enter Try.func44, Try.ntmps44
    obtain ⟨v0, hv0⟩ : ∃ v, v = w.alloc (.cells #[.int .i64 R, .int .i64 C, .slice A l.length cap] 32) := ⟨_, rfl⟩; have X0 : Whole v0 w.heap.size 32 [.int .i64 R, .int .i64 C, .slice A l.length cap] := (by rw [hv0]; exact heap_alloc_new w _); have hb : Below w.heap.size w v0 := (by rw [hv0]; exact (Below.refl _ _).alloc (Nat.le_refl _) _); have HV := Lib.hid hv0.symm; clear hv0; go_upto_region 1 with (fail); rewrite [HV.out]; clear HV; have X0k0 : v0.cell? ⟨w.heap.size, 0, none⟩ = some (.int .i64 R) := (X0.cell 0).trans rfl; have X0k1 : v0.cell? ⟨w.heap.size, 1, none⟩ = some (.int .i64 C) := (X0.cell 1).trans rfl; have X0k2 : v0.cell? ⟨w.heap.size, 2, none⟩ = some (.slice A l.length cap) := (X0.cell 2).trans rfl
    go_wp2_with fail
    refine (impl_IsBoard _ _ _ _ l _ hn ((hr.below hb).mono hb.size)).mono ?_; rintro e w1 ⟨rfl, b1⟩
    rewrite [HG.out]
    (clear X0k0 X0k1 X0k2; replace X0 := X0.below b1 X0.lt; replace hb := hb.trans (b1.mono hb.size); clear b1; have X0k0 : w1.cell? ⟨w.heap.size, 0, none⟩ = some (.int .i64 R) := (X0.cell 0).trans rfl; have X0k1 : w1.cell? ⟨w.heap.size, 1, none⟩ = some (.int .i64 C) := (X0.cell 1).trans rfl; have X0k2 : w1.cell? ⟨w.heap.size, 2, none⟩ = some (.slice A l.length cap) := (X0.cell 2).trans rfl)
    go_wp2
    go_returns
    exact PostL.none_ (by (repeat' (first | (with_reducible exact Below.refl _ _) | (with_reducible assumption) | (with_reducible refine Below.alloc ?_ ?_ _) | (with_reducible refine Below.setCell ?_ ?_ _) | (with_reducible refine Below.drew ?_) | (with_reducible refine below_drewN ?_ _) | (with_reducible refine Below.trans ?_ (Below.mono (by assumption) ?_)) | (with_reducible exact Nat.le_refl _) | (simp; done) | omega | (simp at *; omega))))
end Go.Proofs.Ytoflhjekldlaiaa
namespace Go.Proofs.Ytoflhjekldlaiaa
open Go.ChangeShapes Go.WideShapes Go.ChangeAt Go.RowKit Go.Joins Go.Deep
set_option linter.unusedSimpArgs false
set_option linter.unusedVariables false
set_option maxRecDepth 100000
set_option maxHeartbeats 4000000
def wayL (R C : Int) (l : List (Int × Int)) (j : Int) : List (List Nat) := if okF R C l j then (marO R C l j).way else []
theorem spec_WayOf (R C : Int) (A : Option Addr) (cap : Nat) (l : List (Int × Int)) (j : Int) (w : World) (hn : l.length ≤ 1048576) (hr0 : Rd w w.heap.size A (flat l)) :
    Calls Try.prog 23 #[.agg #[.int .i64 R, .int .i64 C, .slice A l.length cap], .int .i64 j] w fun e w' => ∃ v, e = .returned (.tuple #[v, .bool (okF R C l j)]) ∧ LRow w' w.heap.size v (wayL R C l j) ∧ Below w.heap.size w w' := by
  unfold wayL
  rcases Bool.eq_false_or_eq_true (okF R C l j) with ho | ho
  · have HO := Lib.hid ho
    obtain ⟨hg, h1, h2⟩ := okF_parts ho
    obtain ⟨_, _, hpos⟩ := goodB_parts hg
    obtain ⟨b, o, rfl, hbl, hc⟩ := hr0 (by rw [flat_length]; omega)
    have hr : Rd w w.heap.size (some ⟨b, o, none⟩) (flat l) := fun _ => ⟨b, o, rfl, hbl, hc⟩
    obtain ⟨r, c, rfl, rfl, hG⟩ := geo_of hg
    obtain ⟨col, rfl⟩ : ∃ cl : Nat, j = (cl : Int) := ⟨j.toNat, by omega⟩
    have hcol : col < c := by omega
    have HG := Lib.hid hG
    have HGd := Lib.hid hg
    have HM := Lib.hid (show marO (r : Int) (c : Int) l (col : Int) = flG (numL c l) r c r 0 l col 0 [] from rfl)
    have HNl := Lib.hid (numL_len c l)
    have hb9 : b < w.heap.size := hbl
    rw [ho]
    clear ho hr0 hG hg
    go_enter Try.func23, Try.ntmps23
    obtain ⟨v0, hv0⟩ : ∃ v, v = w.alloc (.cells #[.int .i64 (r : Int), .int .i64 (c : Int), .slice (some ⟨b, o, none⟩) l.length cap] 32) := ⟨_, rfl⟩; have X0 : Whole v0 w.heap.size 32 [.int .i64 (r : Int), .int .i64 (c : Int), .slice (some ⟨b, o, none⟩) l.length cap] := (by rw [hv0]; exact heap_alloc_new w _); have hb : Below w.heap.size w v0 := (by rw [hv0]; exact (Below.refl _ _).alloc (Nat.le_refl _) _); have HV := Lib.hid hv0.symm; clear hv0; go_upto_region 1 with (fail); rewrite [HV.out]; clear HV; have X0k0 : v0.cell? ⟨w.heap.size, 0, none⟩ = some (.int .i64 (r : Int)) := (X0.cell 0).trans rfl; have X0k1 : v0.cell? ⟨w.heap.size, 1, none⟩ = some (.int .i64 (c : Int)) := (X0.cell 1).trans rfl; have X0k2 : v0.cell? ⟨w.heap.size, 2, none⟩ = some (.slice (some ⟨b, o, none⟩) l.length cap) := (X0.cell 2).trans rfl
    go_wp2_with fail
    refine (spec_flHas _ _ _ _ l _ _ hn ((hr.below hb).mono hb.size)).mono ?_; rintro e w1x ⟨rfl, b1⟩
    rewrite [HO.out]
    (clear X0k0 X0k1 X0k2; replace X0 := X0.below b1 X0.lt; replace hb := hb.trans (b1.mono hb.size); clear b1; have X0k0 : w1x.cell? ⟨w.heap.size, 0, none⟩ = some (.int .i64 (r : Int)) := (X0.cell 0).trans rfl; have X0k1 : w1x.cell? ⟨w.heap.size, 1, none⟩ = some (.int .i64 (c : Int)) := (X0.cell 1).trans rfl; have X0k2 : w1x.cell? ⟨w.heap.size, 2, none⟩ = some (.slice (some ⟨b, o, none⟩) l.length cap) := (X0.cell 2).trans rfl)
    have B0 := hb
    have hy := X0.lt
    go_upto_region 3 with (fail)
    generalize w1x = vv at *
    have KS := Lib.hid (fun (w' : World) (h : Below vv.heap.size vv w') => (⟨(h.cell (p := ⟨w.heap.size, 0, none⟩) hy).trans X0k0, (h.cell (p := ⟨w.heap.size, 1, none⟩) hy).trans X0k1, (h.cell (p := ⟨w.heap.size, 2, none⟩) hy).trans X0k2⟩ : w'.cell? ⟨w.heap.size, 0, none⟩ = some (.int .i64 (r : Int)) ∧ w'.cell? ⟨w.heap.size, 1, none⟩ = some (.int .i64 (c : Int)) ∧ w'.cell? ⟨w.heap.size, 2, none⟩ = some (.slice (some ⟨b, o, none⟩) l.length cap)))
    go_cut [6, 7, 8] (fun z y v wx => ∃ (gf gb : Nat) (A : Option Addr) (c5 : Nat), z = .pointer (some ⟨gf, 0, none⟩) ∧ y = .pointer (some ⟨gb, 0, none⟩) ∧ vv.heap.size ≤ gf ∧ vv.heap.size ≤ gb ∧ Whole wx gf 27 [.int .i64 (flG (numL c l) r c r 0 l col 0 []).e, .int .i64 (flG (numL c l) r c r 0 l col 0 []).row, .int .i64 (flG (numL c l) r c r 0 l col 0 []).col] ∧ Whole wx gb 32 [.int .i64 (r : Int), .int .i64 (c : Int), .slice A l.length c5] ∧ Own wx A 92 (flat (flG (numL c l) r c r 0 l col 0 []).cells) ∧ New vv A ∧ LRow wx vv.heap.size v (flG (numL c l) r c r 0 l col 0 []).way ∧ Below vv.heap.size vv wx)
    case first =>
      (go_region_held3 (fun w' => w'.cell? ⟨w.heap.size, 0, none⟩ = some (.int .i64 (r : Int)) ∧ w'.cell? ⟨w.heap.size, 1, none⟩ = some (.int .i64 (c : Int)) ∧ w'.cell? ⟨w.heap.size, 2, none⟩ = some (.slice (some ⟨b, o, none⟩) l.length cap)) (exact KS.out _ (by (repeat' (first | (with_reducible exact Below.refl _ _) | (with_reducible assumption) | (with_reducible refine Below.alloc ?_ ?_ _) | (with_reducible refine Below.setCell ?_ ?_ _) | (with_reducible refine Below.drew ?_) | (with_reducible refine below_drewN ?_ _) | (with_reducible refine Below.trans ?_ (Below.mono (by assumption) ?_)) | go_size)))) ((first | (go_at_call 61; (with_reducible refine (spec_ggGroups r c (some ⟨b, o, none⟩) cap l _ HG.out ?_).mono ?_); (focus exact (hr.below (B0.trans ((by (repeat' (first | (with_reducible exact Below.refl _ _) | (with_reducible assumption) | (with_reducible refine Below.alloc ?_ ?_ _) | (with_reducible refine Below.setCell ?_ ?_ _) | (with_reducible refine Below.drew ?_) | (with_reducible refine below_drewN ?_ _) | (with_reducible refine Below.trans ?_ (Below.mono (by assumption) ?_)) | go_size)) : Below vv.heap.size vv _).mono B0.size))).mono (Nat.le_trans B0.size (by (repeat' (first | (with_reducible exact Below.refl _ _) | (with_reducible assumption) | (with_reducible refine Below.alloc ?_ ?_ _) | (with_reducible refine Below.setCell ?_ ?_ _) | (with_reducible refine Below.drew ?_) | (with_reducible refine below_drewN ?_ _) | (with_reducible refine Below.trans ?_ (Below.mono (by assumption) ?_)) | go_size)) : Below vv.heap.size vv _).size)); rintro e w1 hP; obtain ⟨A6, c6, rfl, o6, n6, bT⟩ := hP.value; clear hP; obtain ⟨g6, rest6, rfl, X6⟩ := o6 (by rw [ints_length, HNl.out]; exact hpos); clear o6 n6; have sT : vv.heap.size ≤ w1.heap.size := (by (repeat' (first | (with_reducible exact Below.refl _ _) | (with_reducible assumption) | (with_reducible refine Below.alloc ?_ ?_ _) | (with_reducible refine Below.setCell ?_ ?_ _) | (with_reducible refine Below.drew ?_) | (with_reducible refine below_drewN ?_ _) | (with_reducible refine Below.trans ?_ (Below.mono (by assumption) ?_)) | go_size)) : Below vv.heap.size vv w1).size; (first | have zf := newB (t := 27) (xs := [.int .i64 0, .int .i64 0, .int .i64 0]) bT | have zf := newB2 (t := 27) (xs := [.int .i64 0, .int .i64 0, .int .i64 0]) bT | have zf := newD (t := 27) (xs := [.int .i64 0, .int .i64 0, .int .i64 0]) bT | have zf := newD2 (t := 27) (xs := [.int .i64 0, .int .i64 0, .int .i64 0]) bT | skip); (first | have zb := newB (t := 32) (xs := [.int .i64 0, .int .i64 0, .slice none 0 0]) bT | have zb := newB2 (t := 32) (xs := [.int .i64 0, .int .i64 0, .slice none 0 0]) bT | have zb := newD (t := 32) (xs := [.int .i64 0, .int .i64 0, .slice none 0 0]) bT | have zb := newD2 (t := 32) (xs := [.int .i64 0, .int .i64 0, .slice none 0 0]) bT | skip); (try rw [World.size_alloc] at zf); (try rw [World.size_alloc] at zb); (try replace zf : Whole w1 vv.heap.size _ _ := zf); (try replace zb : Whole w1 vv.heap.size _ _ := zb); (try replace zf : Whole w1 (vv.heap.size + 1) _ _ := zf); (try replace zb : Whole w1 (vv.heap.size + 1) _ _ := zb); (first | have hzf1 := zf.lt | skip); (first | have hzb1 := zb.lt | skip); (try have nA1 : vv.heap.size ≠ w1.heap.size := by omega); (try have nA2 : w1.heap.size ≠ vv.heap.size := by omega)) | (go_at_call 60; (with_reducible refine (spec_flGo r c b o cap g6 c6 l (numL c l) rest6 col _ HG.out HGd.out ?_ (numL_len c l) ?_ hcol).mono ?_); (focus exact (hr.below (B0.trans ((by (repeat' (first | (with_reducible exact Below.refl _ _) | (with_reducible assumption) | (with_reducible refine Below.alloc ?_ ?_ _) | (with_reducible refine Below.setCell ?_ ?_ _) | (with_reducible refine Below.drew ?_) | (with_reducible refine below_drewN ?_ _) | (with_reducible refine Below.trans ?_ (Below.mono (by assumption) ?_)) | go_size)) : Below vv.heap.size vv _).mono B0.size))).mono (Nat.le_trans B0.size (by (repeat' (first | (with_reducible exact Below.refl _ _) | (with_reducible assumption) | (with_reducible refine Below.alloc ?_ ?_ _) | (with_reducible refine Below.setCell ?_ ?_ _) | (with_reducible refine Below.drew ?_) | (with_reducible refine below_drewN ?_ _) | (with_reducible refine Below.trans ?_ (Below.mono (by assumption) ?_)) | go_size)) : Below vv.heap.size vv _).size)); (focus exact X6.below (by (repeat' (first | (with_reducible exact Below.refl _ _) | (with_reducible assumption) | (with_reducible refine Below.alloc ?_ ?_ _) | (with_reducible refine Below.setCell ?_ ?_ _) | (with_reducible refine Below.drew ?_) | (with_reducible refine below_drewN ?_ _) | (with_reducible refine Below.trans ?_ (Below.mono (by assumption) ?_)) | go_size)) : Below w1.heap.size w1 _) X6.lt); rintro e w2 ⟨A5, c5, v5, rfl, O5, N5, L5, bF⟩; replace N5 : New vv A5 := N5.mono (by (repeat' (first | (with_reducible exact Below.refl _ _) | (with_reducible assumption) | (with_reducible refine Below.alloc ?_ ?_ _) | (with_reducible refine Below.setCell ?_ ?_ _) | (with_reducible refine Below.drew ?_) | (with_reducible refine below_drewN ?_ _) | (with_reducible refine Below.trans ?_ (Below.mono (by assumption) ?_)) | go_size)) : Below vv.heap.size vv _).size; replace L5 := L5.mono (by (repeat' (first | (with_reducible exact Below.refl _ _) | (with_reducible assumption) | (with_reducible refine Below.alloc ?_ ?_ _) | (with_reducible refine Below.setCell ?_ ?_ _) | (with_reducible refine Below.drew ?_) | (with_reducible refine below_drewN ?_ _) | (with_reducible refine Below.trans ?_ (Below.mono (by assumption) ?_)) | go_size)) : Below vv.heap.size vv _).size; have sF : w1.heap.size ≤ w2.heap.size := (by (repeat' (first | (with_reducible exact Below.refl _ _) | (with_reducible assumption) | (with_reducible refine Below.alloc ?_ ?_ _) | (with_reducible refine Below.setCell ?_ ?_ _) | (with_reducible refine Below.drew ?_) | (with_reducible refine below_drewN ?_ _) | (with_reducible refine Below.trans ?_ (Below.mono (by assumption) ?_)) | go_size)) : Below w1.heap.size w1 w2).size; (first | have zf := oldB zf bF | have zf := oldA zf bF | have zf := newB (t := 27) (xs := [.int .i64 0, .int .i64 0, .int .i64 0]) bF | have zf := newB2 (t := 27) (xs := [.int .i64 0, .int .i64 0, .int .i64 0]) bF | skip); (first | have zb := oldB zb bF | have zb := oldA zb bF | have zb := newB (t := 32) (xs := [.int .i64 0, .int .i64 0, .slice none 0 0]) bF | have zb := newB2 (t := 32) (xs := [.int .i64 0, .int .i64 0, .slice none 0 0]) bF | skip); (try rw [World.size_alloc] at zf); (try rw [World.size_alloc] at zb); (try have nB1 : w1.heap.size ≠ w2.heap.size := by (first | (have h1 := zf.lt; omega) | (have h1 := zb.lt; omega))); (try have nB2 : w2.heap.size ≠ w1.heap.size := by omega); (try have nC1 : vv.heap.size ≠ w2.heap.size := by (first | (have h1 := zf.lt; omega) | (have h1 := zb.lt; omega))); (try have nC2 : w2.heap.size ≠ vv.heap.size := by omega); (first | (have hzf2 := zf.lt; have qf0 := (zf.cell 0).trans rfl; have qf1 := (zf.cell 1).trans rfl; have qf2 := (zf.cell 2).trans rfl; have rf0 := zf.frozen 0; have rf1 := zf.frozen 1; have rf2 := zf.frozen 2) | skip); (first | (have hzb2 := zb.lt; have qb0 := (zb.cell 0).trans rfl; have qb1 := (zb.cell 1).trans rfl; have qb2 := (zb.cell 2).trans rfl; have rb0 := zb.frozen 0; have rb1 := zb.frozen 1; have rb2 := zb.frozen 2) | skip)) | fail)); all_goals (go_wp2_with fail; go_meet); all_goals (refine ⟨_, _, A5, c5, rfl, rfl, ?_, ?_, ?_, ?_, ?_, N5, ?_, by (repeat' (first | (with_reducible exact Below.refl _ _) | (with_reducible assumption) | (with_reducible refine Below.alloc ?_ ?_ _) | (with_reducible refine Below.setCell ?_ ?_ _) | (with_reducible refine Below.drew ?_) | (with_reducible refine below_drewN ?_ _) | (with_reducible refine Below.trans ?_ (Below.mono (by assumption) ?_)) | go_size))⟩); all_goals (repeat' (first | (with_reducible assumption) | (with_reducible exact newW) | (with_reducible exact newW1) | (with_reducible exact newW3) | (with_reducible refine wh_threeF ?_) | (with_reducible refine wh_threeB ?_) | (with_reducible refine three_far ?_ ?_) | (with_reducible refine Whole.alloc ?_ _) | (with_reducible refine own_threeF ?_ ?_) | (with_reducible refine own_threeB ?_ ?_) | (with_reducible refine Own.alloc_ ?_ _) | (with_reducible refine lrow_threeF ?_ ?_) | (with_reducible refine lrow_threeB ?_ ?_) | (with_reducible refine LRow.alloc ?_ _) | (focus omega) | (focus (simp; omega)))))
    case rest =>
      rename World => w3
      obtain ⟨gf, gb, A5, c5, rfl, rfl, hgf, hgb, Xf, Xb, O5, N5, L5, b3⟩ := hcut
      clear KS
      go_wp2
      go_returns
      rewrite [HM.out]
      exact ⟨_, rfl, L5.mono hb.size, hb.trans (b3.mono hb.size)⟩
  · have HO := Lib.hid ho
    rw [ho]
    clear ho
    go_enter Try.func23, Try.ntmps23
    obtain ⟨v0, hv0⟩ : ∃ v, v = w.alloc (.cells #[.int .i64 R, .int .i64 C, .slice A l.length cap] 32) := ⟨_, rfl⟩; have X0 : Whole v0 w.heap.size 32 [.int .i64 R, .int .i64 C, .slice A l.length cap] := (by rw [hv0]; exact heap_alloc_new w _); have hb : Below w.heap.size w v0 := (by rw [hv0]; exact (Below.refl _ _).alloc (Nat.le_refl _) _); have HV := Lib.hid hv0.symm; clear hv0; go_upto_region 1 with (fail); rewrite [HV.out]; clear HV; have X0k0 : v0.cell? ⟨w.heap.size, 0, none⟩ = some (.int .i64 R) := (X0.cell 0).trans rfl; have X0k1 : v0.cell? ⟨w.heap.size, 1, none⟩ = some (.int .i64 C) := (X0.cell 1).trans rfl; have X0k2 : v0.cell? ⟨w.heap.size, 2, none⟩ = some (.slice A l.length cap) := (X0.cell 2).trans rfl
    go_wp2_with fail
    refine (spec_flHas _ _ _ _ l _ _ hn ((hr0.below hb).mono hb.size)).mono ?_; rintro e w1 ⟨rfl, b1⟩
    rewrite [HO.out]
    (clear X0k0 X0k1 X0k2; replace X0 := X0.below b1 X0.lt; replace hb := hb.trans (b1.mono hb.size); clear b1; have X0k0 : w1.cell? ⟨w.heap.size, 0, none⟩ = some (.int .i64 R) := (X0.cell 0).trans rfl; have X0k1 : w1.cell? ⟨w.heap.size, 1, none⟩ = some (.int .i64 C) := (X0.cell 1).trans rfl; have X0k2 : w1.cell? ⟨w.heap.size, 2, none⟩ = some (.slice A l.length cap) := (X0.cell 2).trans rfl)
    go_wp2
    go_returns
    exact ⟨_, rfl, LRow.nil, by (repeat' (first | (with_reducible exact Below.refl _ _) | (with_reducible assumption) | (with_reducible refine Below.alloc ?_ ?_ _) | (with_reducible refine Below.setCell ?_ ?_ _) | (with_reducible refine Below.drew ?_) | (with_reducible refine below_drewN ?_ _) | (with_reducible refine Below.trans ?_ (Below.mono (by assumption) ?_)) | (with_reducible exact Nat.le_refl _) | (simp; done) | omega | (simp at *; omega)))⟩
end Go.Proofs.Ytoflhjekldlaiaa
