/- Contracts of the program and of the model, walked, part 8 of 10. No condition but what each says. -/
import Derived.Deep.RegionHeld3
import Derived.Laws.StructEq
import Derived.Test.YtlnekfbhpfhcpaaGreatM4
import Derived.Test.YtlnekfbhpfhcpaaGreatM7
import Derived.Test.YtlnekfbhpfhcpaaGreatM6
import Derived.Test.YtlnekfbhpfhcpaaGreatM5
import Derived.StillTailTactics
import Derived.Test.YtlnekfbhpfhcpaaGreatM1
import Derived.BigQuiet
import Derived.Deep.QuietTactic
import Derived.Deep.DeepCutAuto
import Derived.Lib.AppendZeros
import Derived.Laws.Bits64b
namespace Go.Proofs.YtlnekfbhpfhcpaaGreat
open Go.ChangeShapes Go.WideShapes Go.ChangeAt Go.RowKit Go.Joins Go.Deep
set_option linter.unusedSimpArgs false
set_option linter.unusedVariables false
set_option maxRecDepth 100000
set_option maxHeartbeats 4000000
theorem ends_part {E : List (Int × Int × Int)} {i : Nat} (hi : i < E.length) (w : World) : (Go.part 50 (flatF E).toArray (i * 3)).run Tryz.prog w = .ok (.agg #[.int .i64 (E.getD i (0, 0, 0)).1, .int .i64 (E.getD i (0, 0, 0)).2.1, .int .i64 (E.getD i (0, 0, 0)).2.2]) w := by
  obtain ⟨i0, h1, h2, h3, h4⟩ := info_parts fallInfo
  have hsz : (sizeOf 50).run Tryz.prog w = .ok 3 w := by simp [sizeOf, typeInfo, h1, h3]
  have hagg : (isAgg 50).run Tryz.prog w = .ok true w := by
    unfold isAgg
    rw [Sem.run_bind, run_underlying Tryz.underlying50 w]
    rfl
  have hx : (flatF E).toArray.extract (i * 3) (i * 3 + 3) = #[.int .i64 (E.getD i (0, 0, 0)).1, .int .i64 (E.getD i (0, 0, 0)).2.1, .int .i64 (E.getD i (0, 0, 0)).2.2] := by
    obtain ⟨q0, q1, q2⟩ := flatF_at E i hi
    have hl := flatF_len E
    apply Array.ext_getElem?
    intro j
    rw [Array.getElem?_extract]
    by_cases hj : j < 3
    · rw [if_pos (by simp [hl]; omega)]
      have h3 : j = 0 ∨ j = 1 ∨ j = 2 := by omega
      rcases h3 with rfl | rfl | rfl
      · simpa using q0
      · simpa using q1
      · simpa using q2
    · rw [if_neg (by simp [hl]; omega), Array.getElem?_eq_none (by simp; omega)]
  simp only [Go.part, Sem.run_bind, hagg, hsz, Result.andThen_ok, if_true, Sem.run_pure, hx]
theorem fall_eql (d : Nat) (a b c a' b' c' : Int) (w : World) : (Op.equalIn (d + 2) 50 (.agg #[.int .i64 a, .int .i64 b, .int .i64 c]) (.agg #[.int .i64 a', .int .i64 b', .int .i64 c'])).run Tryz.prog w = .ok (decide ((a, b, c) = (a', b', c'))) w := by
  have hf : Tryz.prog.underlying 50 = some (.struct (Tryz.prog.fieldsOf 50)) := by kernel_rfl
  rw [show d + 2 = (d + 1) + 1 from rfl, run_equalIn_struct w (d + 1) _ _ _ hf heldFall]
  have hi := Tryz.underlying3
  by_cases h1 : a = a'
  · by_cases h2 : b = b'
    · by_cases h3 : c = c'
      · simp [Program.fieldsOf, Tryz.underlying50, Op.eqFields, Go.part, isAgg, run_underlying hi, run_equalIn_int, hi, Sem.run_bind, h1, h2, h3]
      · simp [Program.fieldsOf, Tryz.underlying50, Op.eqFields, Go.part, isAgg, run_underlying hi, run_equalIn_int, hi, Sem.run_bind, h1, h2, h3]
    · simp [Program.fieldsOf, Tryz.underlying50, Op.eqFields, Go.part, isAgg, run_underlying hi, run_equalIn_int, hi, Sem.run_bind, h1, h2]
  · simp [Program.fieldsOf, Tryz.underlying50, Op.eqFields, Go.part, isAgg, run_underlying hi, run_equalIn_int, hi, Sem.run_bind, h1]
theorem all_range9 {E F : List (Int × Int × Int)} (hE : E.length = 9) (hF : F.length = 9) : ((List.range 9).all fun i => decide (E.getD i (0, 0, 0) = F.getD i (0, 0, 0))) = decide (E = F) := by
  rw [Bool.eq_iff_iff, List.all_eq_true, decide_eq_true_eq]
  constructor
  · intro h
    apply List.ext_getElem (by omega)
    intro i h1 h2
    have := h i (List.mem_range.2 (by omega))
    rw [decide_eq_true_eq, List.getD_eq_getElem?_getD, List.getD_eq_getElem?_getD, List.getElem?_eq_getElem h1, List.getElem?_eq_getElem h2] at this
    exact this
  · rintro rfl i _
    simp
theorem run_eql_ends (d : Nat) (w : World) {E F : List (Int × Int × Int)} (hE : E.length = 9) (hF : F.length = 9) :
    (Op.equalIn (d + 3) 73 (.agg (flatF E).toArray) (.agg (flatF F).toArray)).run Tryz.prog w = .ok (decide (E = F)) w := by
  obtain ⟨i0, h1, h2, h3, h4⟩ := info_parts fallInfo
  have hsz : ∀ w, (sizeOf 50).run Tryz.prog w = .ok 3 w := fun w => by simp [sizeOf, typeInfo, h1, h3]
  rw [← all_range9 hE hF, List.range_eq_range', Op.equalIn]
  simp only [Sem.run_bind, run_underlying endsUnder, Result.andThen_ok, hsz, Std.Legacy.Range.forIn_eq_forIn_range', Std.Legacy.Range.size, Nat.sub_zero, Nat.add_sub_cancel, Nat.div_one]
  have hl : ∀ i ∈ List.range' 0 9 1, i < 9 := fun i hi => by simpa using (List.mem_range'_1.1 hi).2
  generalize List.range' 0 9 1 = l at hl ⊢
  induction l with
  | nil => simp
  | cons i l ih =>
    have hi : i < 9 := hl i (by simp)
    simp only [List.forIn_cons, Sem.run_bind, ends_part (E := E) (show i < E.length by omega), ends_part (E := F) (show i < F.length by omega), fall_eql, Result.andThen_ok, List.all_cons]
    cases hb : decide (E.getD i (0, 0, 0) = F.getD i (0, 0, 0))
    · have hb' : decide (((E.getD i (0, 0, 0)).1, (E.getD i (0, 0, 0)).2.1, (E.getD i (0, 0, 0)).2.2) = ((F.getD i (0, 0, 0)).1, (F.getD i (0, 0, 0)).2.1, (F.getD i (0, 0, 0)).2.2)) = false := hb
      simp [hb']
    · have hb' : decide (((E.getD i (0, 0, 0)).1, (E.getD i (0, 0, 0)).2.1, (E.getD i (0, 0, 0)).2.2) = ((F.getD i (0, 0, 0)).1, (F.getD i (0, 0, 0)).2.1, (F.getD i (0, 0, 0)).2.2)) = true := hb
      simp only [hb', Bool.not_true, Bool.false_eq_true, if_false, Sem.run_pure, Result.andThen_ok, Bool.true_and]
      exact ih fun j hj => hl j (by simp [hj])
theorem feqTo_iff {R C : Int} {l : List (Int × Int)} {R' C' : Int} {m : List (Int × Int)} : ∀ k, feqTo R C l R' C' m k = true ↔ ∀ i, i < k → feq R C l R' C' m i = true
  | 0 => ⟨fun _ i h => absurd h (Nat.not_lt_zero i), fun _ => rfl⟩
  | k + 1 => by
    rw [feqTo, Bool.and_eq_true, feqTo_iff k]
    constructor
    · rintro ⟨h1, h2⟩ i hi
      rcases Nat.lt_or_eq_of_le (Nat.lt_succ_iff.1 hi) with h | rfl
      · exact h1 i h
      · exact h2
    · intro h
      exact ⟨fun i hi => h i (by omega), h k (by omega)⟩
theorem ends_feq {R C : Int} {l : List (Int × Int)} {R' C' : Int} {m : List (Int × Int)} {k : Nat} (hk : k ≤ 9) : decide (endsK R C l k = endsK R' C' m k) = feqTo R C l R' C' m k := by
  rw [Bool.eq_iff_iff, decide_eq_true_eq, feqTo_iff]
  constructor
  · intro h i hi
    have h1 : (endsK R C l k).getD i (0, 0, 0) = (endsK R' C' m k).getD i (0, 0, 0) := by rw [h]
    rw [endsK_getD hi (by omega), endsK_getD hi (by omega)] at h1
    unfold tri at h1
    simp only [Prod.mk.injEq] at h1
    exact decide_eq_true h1
  · intro h
    unfold endsK
    refine List.map_congr_left fun i hi => ?_
    by_cases hik : i < k
    · rw [if_pos hik, if_pos hik]
      have := of_decide_eq_true (h i hik)
      unfold tri
      rw [this.1, this.2.1, this.2.2]
    · rw [if_neg hik, if_neg hik]
theorem impl_SameFalls (R C : Int) (A : Option Addr) (cap : Nat) (l : List (Int × Int)) (R' C' : Int) (A' : Option Addr) (cap' : Nat) (m : List (Int × Int)) (w : World) (hn : l.length ≤ 1048576) (hr : Rd w w.heap.size A (flat l)) (hm : m.length ≤ 1048576) (hr' : Rd w w.heap.size A' (flat m)) :
    Calls Tryz.prog 15 #[.agg #[.int .i64 R, .int .i64 C, .slice A l.length cap], .agg #[.int .i64 R', .int .i64 C', .slice A' m.length cap']] w fun e w' => e = .returned (.tuple #[.bool (sameF R C l R' C' m), .bool (okS R C l R' C' m)]) ∧ Below w.heap.size w w' := by
  unfold sameF
  rcases Bool.eq_false_or_eq_true (goodB R C l) with hg | hg
  · have HG := Lib.hid hg
    rcases Bool.eq_false_or_eq_true (goodB R' C' m) with hg' | hg'
    · have HG' := Lib.hid hg'
      by_cases hC : C = C'
      · have ho : okS R C l R' C' m = true := by unfold okS; rw [hg, hg', decide_eq_true hC]; rfl
        rw [ho, Bool.true_and]
        subst hC
        clear ho
        obtain ⟨_, _, hpos⟩ := goodB_parts hg
        obtain ⟨_, _, hpos'⟩ := goodB_parts hg'
        obtain ⟨b, o, rfl, hbl, hc⟩ := hr (by rw [flat_length]; omega)
        have hrl : Rd w w.heap.size (some ⟨b, o, none⟩) (flat l) := fun _ => ⟨b, o, rfl, hbl, hc⟩
        obtain ⟨b', o', rfl, hbl', hc'⟩ := hr' (by rw [flat_length]; omega)
        have hrm : Rd w w.heap.size (some ⟨b', o', none⟩) (flat m) := fun _ => ⟨b', o', rfl, hbl', hc'⟩
        obtain ⟨r, c, rfl, rfl, hG⟩ := geo_of hg
        obtain ⟨r', c', rfl, ec, hG'⟩ := geo_of hg'
        obtain rfl : c = c' := by omega
        obtain ⟨s1, s2, s3, s4⟩ := sizeB_iff.1 (goodB_iff.1 hg).1
        rw [Int.toNat_natCast]
        have HEq := Lib.hid (ends_feq (R := (r : Int)) (C := (c : Int)) (l := l) (R' := (r' : Int)) (C' := (c : Int)) (m := m) (k := c) (by omega))
        have HL1 := Lib.hid (endsK_len (r : Int) (c : Int) l c)
        have HL2 := Lib.hid (endsK_len (r' : Int) (c : Int) m c)
        have HRu := Lib.hid (fun w => run_eql_ends 9997 w HL1.out HL2.out)
        have hgE := guardEnds
        clear hr hr' hc hc' hG hG' ec
        go_enter Tryz.func15, Tryz.ntmps15
        obtain ⟨v0, hv0, X0, X1, B0, hz0⟩ := two_boxes w [.int .i64 (r : Int), .int .i64 (c : Int), .slice (some ⟨b, o, none⟩) l.length cap] 25 [.int .i64 (r' : Int), .int .i64 (c : Int), .slice (some ⟨b', o', none⟩) m.length cap'] 25; have HV := Lib.hid hv0; have hz : w.heap.size + 1 < v0.heap.size := (by omega); have hy : w.heap.size < v0.heap.size := (by omega); have hb0 := B0.size; clear hv0 hz0; go_wp2_with fail; rewrite [show (w.alloc (.cells ([.int .i64 (r : Int), .int .i64 (c : Int), .slice (some ⟨b, o, none⟩) l.length cap] : List Value).toArray 25)).alloc (.cells ([.int .i64 (r' : Int), .int .i64 (c : Int), .slice (some ⟨b', o', none⟩) m.length cap'] : List Value).toArray 25) = v0 from HV.out]; clear HV
        refine (impl_IsBoard _ _ _ _ l _ hn ((hrl.below B0).mono B0.size)).mono ?_; rintro e w1 ⟨rfl, b1⟩
        rewrite [HG.out]
        replace X0 := X0.below b1 X0.lt; replace X1 := X1.below b1 X1.lt; replace B0 := B0.trans (b1.mono B0.size); have hy := X0.lt; have hz := X1.lt; have hb0 := B0.size; clear b1
        have X1k0 : w1.cell? ⟨w.heap.size + 1, 0, none⟩ = some (.int .i64 (r' : Int)) := (X1.cell 0).trans rfl; have X1k1 : w1.cell? ⟨w.heap.size + 1, 1, none⟩ = some (.int .i64 (c : Int)) := (X1.cell 1).trans rfl; have X1k2 : w1.cell? ⟨w.heap.size + 1, 2, none⟩ = some (.slice (some ⟨b', o', none⟩) m.length cap') := (X1.cell 2).trans rfl
        go_wp2_with fail
        refine (impl_IsBoard _ _ _ _ m _ hm ((hrm.below B0).mono B0.size)).mono ?_; rintro e w2 ⟨rfl, b2⟩
        rewrite [HG'.out]
        clear X1k0 X1k1 X1k2
        replace X0 := X0.below b2 X0.lt; replace X1 := X1.below b2 X1.lt; replace B0 := B0.trans (b2.mono B0.size); have hy := X0.lt; have hz := X1.lt; have hb0 := B0.size; clear b2
        have X0k0 : w2.cell? ⟨w.heap.size, 0, none⟩ = some (.int .i64 (r : Int)) := (X0.cell 0).trans rfl; have X0k1 : w2.cell? ⟨w.heap.size, 1, none⟩ = some (.int .i64 (c : Int)) := (X0.cell 1).trans rfl; have X0k2 : w2.cell? ⟨w.heap.size, 2, none⟩ = some (.slice (some ⟨b, o, none⟩) l.length cap) := (X0.cell 2).trans rfl
        have X1k0 : w2.cell? ⟨w.heap.size + 1, 0, none⟩ = some (.int .i64 (r' : Int)) := (X1.cell 0).trans rfl; have X1k1 : w2.cell? ⟨w.heap.size + 1, 1, none⟩ = some (.int .i64 (c : Int)) := (X1.cell 1).trans rfl; have X1k2 : w2.cell? ⟨w.heap.size + 1, 2, none⟩ = some (.slice (some ⟨b', o', none⟩) m.length cap') := (X1.cell 2).trans rfl
        go_upto_region 3 with (fail)
        have KS := Lib.hid (fun (w' : World) (h : Below w2.heap.size w2 w') => (⟨(h.cell (p := ⟨w.heap.size, 0, none⟩) hy).trans X0k0, (h.cell (p := ⟨w.heap.size, 1, none⟩) hy).trans X0k1, (h.cell (p := ⟨w.heap.size, 2, none⟩) hy).trans X0k2, (h.cell (p := ⟨w.heap.size + 1, 0, none⟩) hz).trans X1k0, (h.cell (p := ⟨w.heap.size + 1, 1, none⟩) hz).trans X1k1, (h.cell (p := ⟨w.heap.size + 1, 2, none⟩) hz).trans X1k2⟩ : w'.cell? ⟨w.heap.size, 0, none⟩ = some (.int .i64 (r : Int)) ∧ w'.cell? ⟨w.heap.size, 1, none⟩ = some (.int .i64 (c : Int)) ∧ w'.cell? ⟨w.heap.size, 2, none⟩ = some (.slice (some ⟨b, o, none⟩) l.length cap) ∧ w'.cell? ⟨w.heap.size + 1, 0, none⟩ = some (.int .i64 (r' : Int)) ∧ w'.cell? ⟨w.heap.size + 1, 1, none⟩ = some (.int .i64 (c : Int)) ∧ w'.cell? ⟨w.heap.size + 1, 2, none⟩ = some (.slice (some ⟨b', o', none⟩) m.length cap')))
        clear X0k0 X0k1 X0k2 X1k0 X1k1 X1k2
        have hru := HRu.out
        have HA := Lib.hid (fun w' h => impl_endsAlone r c b o cap l w' hg h)
        have HB := Lib.hid (fun w' h => impl_endsAlone r' c b' o' cap' m w' hg' h)
        generalize (flatF (endsK (r : Int) (c : Int) l c)).toArray = EA at *
        generalize (flatF (endsK (r' : Int) (c : Int) m c)).toArray = EB at *
        go_region_held3 (fun w' => w'.cell? ⟨w.heap.size, 0, none⟩ = some (.int .i64 (r : Int)) ∧ w'.cell? ⟨w.heap.size, 1, none⟩ = some (.int .i64 (c : Int)) ∧ w'.cell? ⟨w.heap.size, 2, none⟩ = some (.slice (some ⟨b, o, none⟩) l.length cap) ∧ w'.cell? ⟨w.heap.size + 1, 0, none⟩ = some (.int .i64 (r' : Int)) ∧ w'.cell? ⟨w.heap.size + 1, 1, none⟩ = some (.int .i64 (c : Int)) ∧ w'.cell? ⟨w.heap.size + 1, 2, none⟩ = some (.slice (some ⟨b', o', none⟩) m.length cap'))
          (exact KS.out _ (by (repeat' (first | (with_reducible exact Below.refl _ _) | (with_reducible assumption) | (with_reducible refine Below.alloc ?_ ?_ _) | (with_reducible refine Below.setCell ?_ ?_ _) | (with_reducible refine Below.drew ?_) | (with_reducible refine below_drewN ?_ _) | (with_reducible refine Below.trans ?_ (Below.mono (by assumption) ?_)) | go_size))))
          ((first
            | (go_at_call 38; (with_reducible refine (HA.out _ ?_).mono ?_); (focus exact (hrl.below (B0.trans ((by (repeat' (first | (with_reducible exact Below.refl _ _) | (with_reducible assumption) | (with_reducible refine Below.alloc ?_ ?_ _) | (with_reducible refine Below.setCell ?_ ?_ _) | (with_reducible refine Below.drew ?_) | (with_reducible refine below_drewN ?_ _) | (with_reducible refine Below.trans ?_ (Below.mono (by assumption) ?_)) | go_size)) : Below w2.heap.size w2 _).mono B0.size))).mono (Nat.le_trans B0.size (by (repeat' (first | (with_reducible exact Below.refl _ _) | (with_reducible assumption) | (with_reducible refine Below.alloc ?_ ?_ _) | (with_reducible refine Below.setCell ?_ ?_ _) | (with_reducible refine Below.drew ?_) | (with_reducible refine below_drewN ?_ _) | (with_reducible refine Below.trans ?_ (Below.mono (by assumption) ?_)) | go_size)) : Below w2.heap.size w2 _).size)); rintro e w3 ⟨rfl, b3⟩; have s3 : w2.heap.size ≤ w3.heap.size := (by (repeat' (first | (with_reducible exact Below.refl _ _) | (with_reducible assumption) | (with_reducible refine Below.alloc ?_ ?_ _) | (with_reducible refine Below.setCell ?_ ?_ _) | (with_reducible refine Below.drew ?_) | (with_reducible refine below_drewN ?_ _) | (with_reducible refine Below.trans ?_ (Below.mono (by assumption) ?_)) | go_size)) : Below w2.heap.size w2 w3).size)
            | (go_at_call 38; (with_reducible refine (HB.out _ ?_).mono ?_); (focus exact (hrm.below (B0.trans ((by (repeat' (first | (with_reducible exact Below.refl _ _) | (with_reducible assumption) | (with_reducible refine Below.alloc ?_ ?_ _) | (with_reducible refine Below.setCell ?_ ?_ _) | (with_reducible refine Below.drew ?_) | (with_reducible refine below_drewN ?_ _) | (with_reducible refine Below.trans ?_ (Below.mono (by assumption) ?_)) | go_size)) : Below w2.heap.size w2 _).mono B0.size))).mono (Nat.le_trans B0.size (by (repeat' (first | (with_reducible exact Below.refl _ _) | (with_reducible assumption) | (with_reducible refine Below.alloc ?_ ?_ _) | (with_reducible refine Below.setCell ?_ ?_ _) | (with_reducible refine Below.drew ?_) | (with_reducible refine below_drewN ?_ _) | (with_reducible refine Below.trans ?_ (Below.mono (by assumption) ?_)) | go_size)) : Below w2.heap.size w2 _).size)); rintro e w4 ⟨rfl, b4⟩; have s4 : w2.heap.size ≤ w4.heap.size := (by (repeat' (first | (with_reducible exact Below.refl _ _) | (with_reducible assumption) | (with_reducible refine Below.alloc ?_ ?_ _) | (with_reducible refine Below.setCell ?_ ?_ _) | (with_reducible refine Below.drew ?_) | (with_reducible refine below_drewN ?_ _) | (with_reducible refine Below.trans ?_ (Below.mono (by assumption) ?_)) | go_size)) : Below w2.heap.size w2 w4).size)
            | fail))
        all_goals (go_wp2)
        all_goals go_returns
        all_goals exact ⟨by (rewrite [← HEq.out]; rfl), B0.trans ((by (repeat' (first | (with_reducible exact Below.refl _ _) | (with_reducible assumption) | (with_reducible refine Below.alloc ?_ ?_ _) | (with_reducible refine Below.setCell ?_ ?_ _) | (with_reducible refine Below.drew ?_) | (with_reducible refine below_drewN ?_ _) | (with_reducible refine Below.trans ?_ (Below.mono (by assumption) ?_)) | go_size)) : Below w2.heap.size w2 _).mono hb0)⟩
      · have ho : okS R C l R' C' m = false := by unfold okS; rw [decide_eq_false hC, Bool.and_false]
        rw [ho, Bool.false_and]
        have hCb : (C != C') = true := by simpa using hC
        clear ho hg hg'
        go_enter Tryz.func15, Tryz.ntmps15
        obtain ⟨v0, hv0, X0, X1, B0, hz0⟩ := two_boxes w [.int .i64 R, .int .i64 C, .slice A l.length cap] 25 [.int .i64 R', .int .i64 C', .slice A' m.length cap'] 25; have HV := Lib.hid hv0; have hz : w.heap.size + 1 < v0.heap.size := (by omega); have hy : w.heap.size < v0.heap.size := (by omega); have hb0 := B0.size; clear hv0 hz0; go_wp2_with fail; rewrite [show (w.alloc (.cells ([.int .i64 R, .int .i64 C, .slice A l.length cap] : List Value).toArray 25)).alloc (.cells ([.int .i64 R', .int .i64 C', .slice A' m.length cap'] : List Value).toArray 25) = v0 from HV.out]; clear HV
        refine (impl_IsBoard _ _ _ _ l _ hn ((hr.below B0).mono B0.size)).mono ?_; rintro e w1 ⟨rfl, b1⟩
        rewrite [HG.out]
        replace X0 := X0.below b1 X0.lt; replace X1 := X1.below b1 X1.lt; replace B0 := B0.trans (b1.mono B0.size); have hy := X0.lt; have hz := X1.lt; have hb0 := B0.size; clear b1
        have X1k0 : w1.cell? ⟨w.heap.size + 1, 0, none⟩ = some (.int .i64 R') := (X1.cell 0).trans rfl; have X1k1 : w1.cell? ⟨w.heap.size + 1, 1, none⟩ = some (.int .i64 C') := (X1.cell 1).trans rfl; have X1k2 : w1.cell? ⟨w.heap.size + 1, 2, none⟩ = some (.slice A' m.length cap') := (X1.cell 2).trans rfl
        go_wp2_with fail
        refine (impl_IsBoard _ _ _ _ m _ hm ((hr'.below B0).mono B0.size)).mono ?_; rintro e w2 ⟨rfl, b2⟩
        rewrite [HG'.out]
        clear X1k0 X1k1 X1k2
        replace X0 := X0.below b2 X0.lt; replace X1 := X1.below b2 X1.lt; replace B0 := B0.trans (b2.mono B0.size); have hy := X0.lt; have hz := X1.lt; have hb0 := B0.size; clear b2
        have X0k0 : w2.cell? ⟨w.heap.size, 0, none⟩ = some (.int .i64 R) := (X0.cell 0).trans rfl; have X0k1 : w2.cell? ⟨w.heap.size, 1, none⟩ = some (.int .i64 C) := (X0.cell 1).trans rfl; have X0k2 : w2.cell? ⟨w.heap.size, 2, none⟩ = some (.slice A l.length cap) := (X0.cell 2).trans rfl
        have X1k0 : w2.cell? ⟨w.heap.size + 1, 0, none⟩ = some (.int .i64 R') := (X1.cell 0).trans rfl; have X1k1 : w2.cell? ⟨w.heap.size + 1, 1, none⟩ = some (.int .i64 C') := (X1.cell 1).trans rfl; have X1k2 : w2.cell? ⟨w.heap.size + 1, 2, none⟩ = some (.slice A' m.length cap') := (X1.cell 2).trans rfl
        go_wp2
        go_returns
        exact ⟨rfl, by (repeat' (first | (with_reducible exact Below.refl _ _) | (with_reducible assumption) | (with_reducible refine Below.alloc ?_ ?_ _) | (with_reducible refine Below.setCell ?_ ?_ _) | (with_reducible refine Below.drew ?_) | (with_reducible refine below_drewN ?_ _) | (with_reducible refine Below.trans ?_ (Below.mono (by assumption) ?_)) | (with_reducible exact Nat.le_refl _) | (simp; done) | omega | (simp at *; omega)))⟩
    · have HG' := Lib.hid hg'
      have ho : okS R C l R' C' m = false := by unfold okS; rw [hg', Bool.and_false, Bool.false_and]
      rw [ho, Bool.false_and]
      clear ho hg hg'
      go_enter Tryz.func15, Tryz.ntmps15
      obtain ⟨v0, hv0, X0, X1, B0, hz0⟩ := two_boxes w [.int .i64 R, .int .i64 C, .slice A l.length cap] 25 [.int .i64 R', .int .i64 C', .slice A' m.length cap'] 25; have HV := Lib.hid hv0; have hz : w.heap.size + 1 < v0.heap.size := (by omega); have hy : w.heap.size < v0.heap.size := (by omega); have hb0 := B0.size; clear hv0 hz0; go_wp2_with fail; rewrite [show (w.alloc (.cells ([.int .i64 R, .int .i64 C, .slice A l.length cap] : List Value).toArray 25)).alloc (.cells ([.int .i64 R', .int .i64 C', .slice A' m.length cap'] : List Value).toArray 25) = v0 from HV.out]; clear HV
      refine (impl_IsBoard _ _ _ _ l _ hn ((hr.below B0).mono B0.size)).mono ?_; rintro e w1 ⟨rfl, b1⟩
      rewrite [HG.out]
      replace X0 := X0.below b1 X0.lt; replace X1 := X1.below b1 X1.lt; replace B0 := B0.trans (b1.mono B0.size); have hy := X0.lt; have hz := X1.lt; have hb0 := B0.size; clear b1
      have X1k0 : w1.cell? ⟨w.heap.size + 1, 0, none⟩ = some (.int .i64 R') := (X1.cell 0).trans rfl; have X1k1 : w1.cell? ⟨w.heap.size + 1, 1, none⟩ = some (.int .i64 C') := (X1.cell 1).trans rfl; have X1k2 : w1.cell? ⟨w.heap.size + 1, 2, none⟩ = some (.slice A' m.length cap') := (X1.cell 2).trans rfl
      go_wp2_with fail
      refine (impl_IsBoard _ _ _ _ m _ hm ((hr'.below B0).mono B0.size)).mono ?_; rintro e w2 ⟨rfl, b2⟩
      rewrite [HG'.out]
      clear X1k0 X1k1 X1k2
      replace X0 := X0.below b2 X0.lt; replace X1 := X1.below b2 X1.lt; replace B0 := B0.trans (b2.mono B0.size); have hy := X0.lt; have hz := X1.lt; have hb0 := B0.size; clear b2
      go_wp2
      go_returns
      exact ⟨rfl, by (repeat' (first | (with_reducible exact Below.refl _ _) | (with_reducible assumption) | (with_reducible refine Below.alloc ?_ ?_ _) | (with_reducible refine Below.setCell ?_ ?_ _) | (with_reducible refine Below.drew ?_) | (with_reducible refine below_drewN ?_ _) | (with_reducible refine Below.trans ?_ (Below.mono (by assumption) ?_)) | (with_reducible exact Nat.le_refl _) | (simp; done) | omega | (simp at *; omega)))⟩
  · have HG := Lib.hid hg
    have ho : okS R C l R' C' m = false := by unfold okS; rw [hg, Bool.false_and, Bool.false_and]
    rw [ho, Bool.false_and]
    clear ho hg
    go_enter Tryz.func15, Tryz.ntmps15
    obtain ⟨v0, hv0, X0, X1, B0, hz0⟩ := two_boxes w [.int .i64 R, .int .i64 C, .slice A l.length cap] 25 [.int .i64 R', .int .i64 C', .slice A' m.length cap'] 25; have HV := Lib.hid hv0; have hz : w.heap.size + 1 < v0.heap.size := (by omega); have hy : w.heap.size < v0.heap.size := (by omega); have hb0 := B0.size; clear hv0 hz0; go_wp2_with fail; rewrite [show (w.alloc (.cells ([.int .i64 R, .int .i64 C, .slice A l.length cap] : List Value).toArray 25)).alloc (.cells ([.int .i64 R', .int .i64 C', .slice A' m.length cap'] : List Value).toArray 25) = v0 from HV.out]; clear HV
    refine (impl_IsBoard _ _ _ _ l _ hn ((hr.below B0).mono B0.size)).mono ?_; rintro e w1 ⟨rfl, b1⟩
    rewrite [HG.out]
    replace X0 := X0.below b1 X0.lt; replace X1 := X1.below b1 X1.lt; replace B0 := B0.trans (b1.mono B0.size); have hy := X0.lt; have hz := X1.lt; have hb0 := B0.size; clear b1
    go_wp2
    go_returns
    exact ⟨rfl, by (repeat' (first | (with_reducible exact Below.refl _ _) | (with_reducible assumption) | (with_reducible refine Below.alloc ?_ ?_ _) | (with_reducible refine Below.setCell ?_ ?_ _) | (with_reducible refine Below.drew ?_) | (with_reducible refine below_drewN ?_ _) | (with_reducible refine Below.trans ?_ (Below.mono (by assumption) ?_)) | (with_reducible exact Nat.le_refl _) | (simp; done) | omega | (simp at *; omega)))⟩
end Go.Proofs.YtlnekfbhpfhcpaaGreat
namespace Go.Proofs.YtlnekfbhpfhcpaaGreat
open Go.ChangeShapes Go.WideShapes Go.ChangeAt Go.RowKit Go.Joins Go.Deep
set_option linter.unusedSimpArgs false
set_option linter.unusedVariables false
set_option maxRecDepth 100000
set_option maxHeartbeats 1000000
theorem falls_len {R C : Int} {l : List (Int × Int)} {cs : List Int} (h : okC' R C l cs = true) : (fallsO R C l cs).1.length = cs.length ∧ (fallsO R C l cs).2.length = l.length ∧ cs.length ≤ 60 := by
  obtain ⟨hg, h60, hall⟩ := okC'_parts h
  unfold fallsO
  rw [h, if_pos rfl]
  obtain ⟨h1, h2⟩ := stA_len (numL C.toNat l) R.toNat C.toNat l cs cs.length
  exact ⟨h1, h2, h60⟩
theorem stA_take (nm : List Int) (r c : Nat) (l : List (Int × Int)) (cs : List Int) (n : Nat) : ∀ k, k ≤ n → n ≤ cs.length → stA nm r c l (cs.take n) k = stA nm r c l cs k
  | 0, _, _ => rfl
  | k + 1, hk, hn => by
    have ih := stA_take nm r c l cs n k (by omega) hn
    have e : (cs.take n).getD k 0 = cs.getD k 0 := by
      rw [List.getD_eq_getElem?_getD, List.getElem?_take_of_lt (by omega), List.getD_eq_getElem?_getD]
    unfold stA
    rw [ih, e]
theorem stA_fst (nm : List Int) (r c : Nat) (l : List (Int × Int)) (cs : List Int) (n : Nat) : ∀ k, (stA nm r c l cs (n + k)).1.take n = (stA nm r c l cs n).1
  | 0 => by
    have h := (stA_len nm r c l cs n).1
    rw [Nat.add_zero, List.take_of_length_le (by omega)]
  | k + 1 => by
    have ih := stA_fst nm r c l cs n k
    have h := (stA_len nm r c l cs (n + k)).1
    rw [show n + (k + 1) = (n + k) + 1 by omega]
    conv => lhs; unfold stA
    show ((stA nm r c l cs (n + k)).1 ++ _).take n = _
    rw [List.take_append_of_le_length (by omega)]
    exact ih
theorem stA_drop (nm : List Int) (r c : Nat) (l : List (Int × Int)) (cs : List Int) (n : Nat) : ∀ k, stA nm r c (stA nm r c l cs n).2 (cs.drop n) k = ((stA nm r c l cs (n + k)).1.drop n, (stA nm r c l cs (n + k)).2)
  | 0 => by
    have h := (stA_len nm r c l cs n).1
    have e : (stA nm r c l cs n).1.drop n = [] := List.drop_of_length_le (by omega)
    rw [Nat.add_zero, e]
    rfl
  | k + 1 => by
    have ih := stA_drop nm r c l cs n k
    have h := (stA_len nm r c l cs (n + k)).1
    have e : (cs.drop n).getD k 0 = cs.getD (n + k) 0 := by
      rw [List.getD_eq_getElem?_getD, List.getElem?_drop, List.getD_eq_getElem?_getD]
    rw [show n + (k + 1) = (n + k) + 1 by omega]
    conv => lhs; unfold stA
    conv => rhs; unfold stA
    rw [ih, e]
    show (_, _) = (((stA nm r c l cs (n + k)).1 ++ _).drop n, _)
    rw [List.drop_append_of_le_length (by omega)]
theorem allI_mem {lo hi : Int} {cs ds : List Int} (h : allI lo hi cs = true) (hs : ∀ x ∈ ds, x ∈ cs) : allI lo hi ds = true := by
  unfold allI at h ⊢
  rw [List.all_eq_true] at h ⊢
  exact fun x hx => h x (hs x hx)
theorem falls_split {R C : Int} {l : List (Int × Int)} {cs : List Int} (h : okC' R C l cs = true) {n : Nat} (hn : n ≤ cs.length) :
    okC' R C l (cs.take n) = true ∧ (fallsO R C l (cs.take n)).1 = (fallsO R C l cs).1.take n ∧ okC' R C (fallsO R C l (cs.take n)).2 (cs.drop n) = true ∧
    (fallsO R C (fallsO R C l (cs.take n)).2 (cs.drop n)).1 = (fallsO R C l cs).1.drop n ∧ (fallsO R C (fallsO R C l (cs.take n)).2 (cs.drop n)).2 = (fallsO R C l cs).2 := by
  obtain ⟨hg, h60, hall⟩ := okC'_parts h
  obtain ⟨g1, g2, g3⟩ := goodB_iff.1 hg
  obtain ⟨s1, s2, s3, s4⟩ := sizeB_iff.1 g1
  have h1 : okC' R C l (cs.take n) = true := by
    unfold okC'
    rw [hg, decide_eq_true (show (cs.take n).length ≤ 60 by rw [List.length_take]; omega), allI_mem hall (fun x hx => List.mem_of_mem_take hx)]
    rfl
  have e0 : (cs.take n).length = n := by rw [List.length_take]; omega
  have e1 : fallsO R C l (cs.take n) = stA (numL C.toNat l) R.toNat C.toNat l cs n := by
    unfold fallsO
    rw [h1, if_pos rfl, e0, stA_take _ _ _ _ _ n n (Nat.le_refl _) hn]
  have e2 : fallsO R C l cs = stA (numL C.toNat l) R.toNat C.toNat l cs (n + (cs.length - n)) := by
    unfold fallsO
    rw [h, if_pos rfl, show n + (cs.length - n) = cs.length by omega]
  have hr : R.toNat * C.toNat = l.length := by
    have e : ((R.toNat * C.toNat : Nat) : Int) = R * C := by
      rw [Int.natCast_mul, Int.toNat_of_nonneg (by omega), Int.toNat_of_nonneg (by omega)]
    omega
  have hm : goodB R C (stA (numL C.toNat l) R.toNat C.toNat l cs n).2 = true := by
    refine goodB_iff.2 ⟨g1, by rw [(stA_len _ _ _ _ _ _).2]; exact g2, stA_good _ hr.symm g3 (fun k hk => ?_) n hn⟩
    have := allI_at hall k hk
    omega
  have h2 : okC' R C (stA (numL C.toNat l) R.toNat C.toNat l cs n).2 (cs.drop n) = true := by
    unfold okC'
    rw [hm, decide_eq_true (show (cs.drop n).length ≤ 60 by rw [List.length_drop]; omega), allI_mem hall (fun x hx => List.mem_of_mem_drop hx)]
    rfl
  have e3 : fallsO R C (stA (numL C.toNat l) R.toNat C.toNat l cs n).2 (cs.drop n) = ((fallsO R C l cs).1.drop n, (fallsO R C l cs).2) := by
    rw [e2]
    unfold fallsO
    rw [h2, if_pos rfl, List.length_drop, stA_num, stA_drop]
  rw [e1, e3]
  refine ⟨h1, ?_, h2, rfl, rfl⟩
  rw [e2, stA_fst]
theorem sum_setD : ∀ (v : List Int) (j : Nat), j < v.length → (v.set j (v.getD j 0 + 1)).sum = v.sum + 1
  | [], _, h => by simp at h
  | a :: v, 0, _ => by
    show ((a + 1) :: v).sum = (a :: v).sum + 1
    simp only [List.sum_cons]
    omega
  | a :: v, j + 1, h => by
    have ih := sum_setD v j (by simpa using h)
    show (a :: v.set j (v.getD j 0 + 1)).sum = (a :: v).sum + 1
    simp only [List.sum_cons]
    omega
theorem cStep_sum {c : Nat} {v : List Int} {f : Int × Int × Int} (hv : v.length = c + 2) (h : okE c f) : (cStep c v f).sum = v.sum + 1 := by
  unfold cStep
  split
  · rename_i h1
    rcases h with ⟨_, h2, h3⟩ | h2 | h2
    · exact sum_setD _ _ (by omega)
    · omega
    · omega
  · split
    · exact sum_setD _ _ (by omega)
    · exact sum_setD _ _ (by omega)
theorem cntK_sum {c : Nat} {fs : List (Int × Int × Int)} {n : Nat} (h : ∀ i, i < n → okE c (fs.getD i (0, 0, 0))) : ∀ k, k ≤ n → (cntK c fs k).sum = (k : Int)
  | 0, _ => by
    unfold cntK
    induction c + 2 with
    | zero => rfl
    | succ m ih => rw [List.replicate_succ, List.sum_cons, ih]; rfl
  | k + 1, hk => by
    rw [cntK, cStep_sum (cntK_len c fs k) (h k (by omega)), cntK_sum h k (by omega)]
    push_cast
    rfl
theorem sum_pos : ∀ {v : List Int}, (∀ i, 0 ≤ v.getD i 0) → 0 ≤ v.sum
  | [], _ => Int.le_refl 0
  | a :: v, h => by
    have h0 : 0 ≤ a := h 0
    have := sum_pos (v := v) (fun i => h (i + 1))
    rw [List.sum_cons]
    omega
theorem sum_takes : ∀ {v : List Int}, (∀ i, 0 ≤ v.getD i 0) → ∀ k, 0 ≤ (v.take k).sum ∧ (v.take k).sum ≤ v.sum
  | [], _, k => by simp
  | a :: v, h, 0 => by
    have := sum_pos h
    exact ⟨Int.le_refl 0, this⟩
  | a :: v, h, k + 1 => by
    have h0 : 0 ≤ a := h 0
    have ih := sum_takes (v := v) (fun i => h (i + 1)) k
    rw [List.take_succ_cons, List.sum_cons, List.sum_cons]
    omega
theorem arr_facts {R C : Int} {l : List (Int × Int)} {cs : List Int} (h : okC' R C l cs = true) :
    ((arrL R C l cs).length : Int) = C + 2 ∧ (arrL R C l cs).sum = (cs.length : Int) ∧ ∀ k, 0 ≤ ((arrL R C l cs).take k).sum ∧ ((arrL R C l cs).take k).sum ≤ 1048576 := by
  obtain ⟨hg, h60, hall⟩ := okC'_parts h
  obtain ⟨s1, s2, s3, s4⟩ := sizeB_iff.1 (goodB_iff.1 hg).1
  have e : fallsO R C l cs = stA (numL C.toNat l) R.toNat C.toNat l cs cs.length := by
    unfold fallsO
    rw [h, if_pos rfl]
  have hk : ∀ i, i < cs.length → okE C.toNat ((fallsO R C l cs).1.getD i (0, 0, 0)) := by
    rw [e]
    exact stA_okE _ _ _ _ _ (fun k hk => by have := allI_at hall k hk; omega) cs.length (Nat.le_refl _)
  have hs : (cntK C.toNat (fallsO R C l cs).1 cs.length).sum = (cs.length : Int) := cntK_sum hk _ (Nat.le_refl _)
  unfold arrL
  rw [h, if_pos rfl]
  refine ⟨by rw [cntK_len]; omega, hs, fun k => ?_⟩
  have := sum_takes (fun i => (cntK_bd C.toNat (fallsO R C l cs).1 cs.length i).1) k
  omega
theorem colsTo_mem {R C : Int} {l : List (Int × Int)} {j : Int} {k : Nat} : ∀ n, (k : Int) ∈ colsTo R C l j n ↔ k < n ∧ (marO R C l k).e = 1 ∧ (marO R C l k).col = j
  | 0 => by simp [colsTo]
  | n + 1 => by
    have ih := colsTo_mem (R := R) (C := C) (l := l) (j := j) (k := k) n
    by_cases h : (marO R C l n).e = 1 ∧ (marO R C l n).col = j
    · have e : colsTo R C l j (n + 1) = colsTo R C l j n ++ [(n : Int)] := by rw [colsTo, if_pos h.1, if_pos h.2]
      rw [e, List.mem_append, ih, List.mem_singleton]
      constructor
      · rintro (h1 | h1)
        · exact ⟨by omega, h1.2⟩
        · obtain rfl : k = n := by omega
          exact ⟨by omega, h⟩
      · rintro ⟨h1, h2⟩
        by_cases hkn : k = n
        · exact .inr (by omega)
        · exact .inl ⟨by omega, h2⟩
    · rw [colsTo_no h, ih]
      constructor
      · exact fun h1 => ⟨by omega, h1.2⟩
      · rintro ⟨h1, h2⟩
        by_cases hkn : k = n
        · subst hkn; exact absurd h2 h
        · exact ⟨by omega, h2⟩
theorem okF_in {R C : Int} {l : List (Int × Int)} (hg : goodB R C l = true) {k : Nat} (hk : (k : Int) < C) : okF R C l k = true := by
  unfold okF
  rw [hg, decide_eq_true ⟨by omega, hk⟩]
  rfl
theorem metN_mem {R C : Int} {l : List (Int × Int)} {k x : Nat} : ∀ n, k < n → x ∈ wayN C.toNat (marO R C l k).way → x ∈ metN R C l n
  | n + 1, hk, hx => by
    rw [metN, List.mem_append]
    by_cases h : k = n
    · subst h; exact .inr hx
    · exact .inl (metN_mem n (by omega) hx)
/-- What one entry column of the board shows. -/
structure EntryF (R C : Int) (l : List (Int × Int)) (j : Int) (k : Nat) (e row col : Int) (W : List (List Int)) : Prop where
  ok : okF R C l k = true
  has : decide ((k : Int) ∈ colsO R C l j) = (decide (e = 1) && decide (col = j))
  fe : (marO R C l k).e = e
  frow : (marO R C l k).row = row
  fcol : (marO R C l k).col = col
  way : wayM R C l k = W
  few : W.length ≤ 1048576
  small : ∀ i, (W.getD i []).length ≤ 1048576
  met : ∀ i, i < W.length → ∃ a b : Int, W.getD i [] = [a, b] ∧ (0 ≤ a ∧ a ≤ 10) ∧ (0 ≤ b ∧ b ≤ 9) ∧ (0 ≤ a * C ∧ a * C ≤ 90) ∧ a * C + b ∈ metL R C l
theorem wayM_len {r c : Nat} {l : List (Int × Int)} {k : Nat} (ho : okF (r : Int) (c : Int) l k = true) : (wayM (r : Int) (c : Int) l k).length ≤ r := by
  unfold wayM wayL
  rw [ho, if_pos rfl, List.length_map]
  have h := flG_wayLen (numL c l) r c r 0 l k 0 []
  simpa [marO] using h
theorem entry_facts {R C : Int} {l : List (Int × Int)} {j : Int} (h : okF R C l j = true) {k : Nat} (hk : (k : Int) < C) : EntryF R C l j k (marO R C l k).e (marO R C l k).row (marO R C l k).col (wayM R C l k) := by
  obtain ⟨hg, h1, h2⟩ := okF_parts h
  have hok := okF_in hg hk
  obtain ⟨s1, s2, s3, s4⟩ := sizeB_iff.1 (goodB_iff.1 hg).1
  obtain ⟨r, c, rfl, rfl, hG⟩ := geo_of hg
  have hkc : k < c := by omega
  have hwl := wayM_len hok
  have hwok := marO_wayOK (r := r) (l := l) hkc
  have ewm : wayM (r : Int) (c : Int) l k = ((marO (r : Int) (c : Int) l k).way).map nI := by
    unfold wayM wayL
    rw [hok, if_pos rfl]
  have hlen : r * c = l.length := by
    have := (goodB_iff.1 hg).2.1
    exact_mod_cast this.symm
  refine ⟨hok, ?_, rfl, rfl, rfl, rfl, by omega, fun i => ?_, fun i hi => ?_⟩
  · have hm := colsTo_mem (R := (r : Int)) (C := (c : Int)) (l := l) (j := j) (k := k) c
    have e : colsO (r : Int) (c : Int) l j = colsTo (r : Int) (c : Int) l j c := by
      unfold colsO
      rw [h, if_pos rfl, Int.toNat_natCast]
    rw [e, Bool.eq_iff_iff, decide_eq_true_eq, Bool.and_eq_true, decide_eq_true_eq, decide_eq_true_eq, hm]
    exact ⟨fun h => h.2, fun h => ⟨hkc, h⟩⟩
  · by_cases hi : i < (marO (r : Int) (c : Int) l k).way.length
    · obtain ⟨a, b, e, _, _⟩ := hwok _ (List.getElem_mem hi)
      rw [ewm, nIs_getD hi, e]
      simp [nI]
    · rw [ewm, List.getD_eq_getElem?_getD, List.getElem?_eq_none (by rw [List.length_map]; omega)]
      simp
  · have hi' : i < (marO (r : Int) (c : Int) l k).way.length := by rw [ewm, List.length_map] at hi; exact hi
    obtain ⟨a, b, e, ha, hb⟩ := hwok _ (List.getElem_mem hi')
    have hac : a * c ≤ 90 := Nat.mul_le_mul (show a ≤ 10 by omega) (show c ≤ 9 by omega)
    refine ⟨(a : Int), (b : Int), ?_, by omega, by omega, by rw [← Int.natCast_mul]; omega, ?_⟩
    · rw [ewm, nIs_getD hi', e]
      rfl
    · unfold metL
      rw [hg, if_pos rfl, show (a : Int) * (c : Int) + (b : Int) = ((a * c + b : Nat) : Int) by push_cast; rfl, Int.toNat_natCast]
      have hx : a * c + b ∈ wayN c (marO (r : Int) (c : Int) l k).way := by
        unfold wayN
        refine List.mem_map.2 ⟨_, List.getElem_mem hi', ?_⟩
        rw [e]
        rfl
      refine List.mem_map.2 ⟨a * c + b, mem_sortN.2 ⟨?_, metN_mem c hkc (by rw [Int.toNat_natCast]; exact hx)⟩, rfl⟩
      rw [← hlen]
      exact wayN_lt hwok _ hx
theorem feqTo_at {R C : Int} {l : List (Int × Int)} {R' C' : Int} {m : List (Int × Int)} : ∀ n, feqTo R C l R' C' m n = true → ∀ k, k < n → (marO R C l k).e = (marO R' C' m k).e ∧ (marO R C l k).row = (marO R' C' m k).row ∧ (marO R C l k).col = (marO R' C' m k).col
  | n + 1, h, k, hk => by
    rw [feqTo, Bool.and_eq_true] at h
    by_cases e : k = n
    · subst e
      exact of_decide_eq_true h.2
    · exact feqTo_at n h.1 k (by omega)
theorem same_facts {R C : Int} {l : List (Int × Int)} {R' C' : Int} {m : List (Int × Int)} (h : sameF R C l R' C' m = true) {k : Nat} (hk : (k : Int) < C) :
    okF R C l k = true ∧ okF R' C' m k = true ∧ (marO R C l k).e = (marO R' C' m k).e ∧ (marO R C l k).row = (marO R' C' m k).row ∧ (marO R C l k).col = (marO R' C' m k).col := by
  unfold sameF at h
  rw [Bool.and_eq_true] at h
  obtain ⟨h1, h2⟩ := h
  unfold okS at h1
  simp only [Bool.and_eq_true, decide_eq_true_eq] at h1
  obtain ⟨⟨h3, h4⟩, rfl⟩ := h1
  exact ⟨okF_in h3 hk, okF_in h4 hk, feqTo_at _ h2 k (by omega)⟩
theorem okS_cols {R C : Int} {l : List (Int × Int)} {R' C' : Int} {m : List (Int × Int)} (h : okS R C l R' C' m = true) : 1 ≤ C ∧ C ≤ 9 := by
  unfold okS at h
  simp only [Bool.and_eq_true, decide_eq_true_eq] at h
  obtain ⟨s1, s2, s3, s4⟩ := sizeB_iff.1 (goodB_iff.1 h.1.1).1
  exact ⟨s3, s4⟩
theorem okF_cols {R C : Int} {l : List (Int × Int)} {j : Int} (h : okF R C l j = true) : (1 ≤ C ∧ C ≤ 9) ∧ goodB R C l = true := by
  obtain ⟨hg, _, _⟩ := okF_parts h
  obtain ⟨s1, s2, s3, s4⟩ := sizeB_iff.1 (goodB_iff.1 hg).1
  exact ⟨⟨s3, s4⟩, hg⟩
theorem firstAt_some {x y : List (Int × Int × Int)} : ∀ n k i, firstAt x y n k = some i → k ≤ i ∧ i < k + n ∧ x.getD i (0, 0, 0) ≠ y.getD i (0, 0, 0) ∧ ∀ j, k ≤ j → j < i → x.getD j (0, 0, 0) = y.getD j (0, 0, 0)
  | 0, k, i, h => by cases h
  | n + 1, k, i, h => by
    rw [firstAt] at h
    split at h
    · rename_i e
      obtain ⟨h1, h2, h3, h4⟩ := firstAt_some n (k + 1) i h
      refine ⟨by omega, by omega, h3, fun j hj hji => ?_⟩
      by_cases hjk : j = k
      · subst hjk; exact e
      · exact h4 j (by omega) hji
    · rename_i e
      cases h
      exact ⟨Nat.le_refl _, by omega, e, fun j h1 h2 => by omega⟩
theorem first_facts {R C : Int} {l : List (Int × Int)} {R' C' : Int} {m : List (Int × Int)} {cs : List Int} (h : (firstD R C l R' C' m cs).isSome = true) :
    okC' R C l cs = true ∧ okC' R' C' m cs = true ∧ (firstD R C l R' C' m cs).getD 0 < cs.length ∧
    (fallsO R C l cs).1.getD ((firstD R C l R' C' m cs).getD 0) (0, 0, 0) ≠ (fallsO R' C' m cs).1.getD ((firstD R C l R' C' m cs).getD 0) (0, 0, 0) ∧
    (fallsO R C l cs).1.take ((firstD R C l R' C' m cs).getD 0) = (fallsO R' C' m cs).1.take ((firstD R C l R' C' m cs).getD 0) := by
  have hd : okD R C l R' C' m cs = true := by
    rcases Bool.eq_false_or_eq_true (okD R C l R' C' m cs) with h1 | h1
    · exact h1
    · unfold firstD at h
      rw [h1] at h
      cases h
  have hd' := hd
  unfold okD at hd'
  simp only [Bool.and_eq_true, decide_eq_true_eq] at hd'
  obtain ⟨⟨h1, h2⟩, rfl⟩ := hd'
  have h1' := h1
  have h3 : okC' R' C m cs = true := by
    unfold okC' at h1' ⊢
    simp only [Bool.and_eq_true] at h1' ⊢
    exact ⟨⟨h2, h1'.1.2⟩, h1'.2⟩
  have e : firstD R C l R' C m cs = firstAt (fallsO R C l cs).1 (fallsO R' C m cs).1 cs.length 0 := by
    unfold firstD fallsO
    rw [hd, if_pos rfl, h1, h3, if_pos rfl, if_pos rfl]
  obtain ⟨i, hi⟩ : ∃ i, firstD R C l R' C m cs = some i := by
    cases hf : firstD R C l R' C m cs with
    | none => rw [hf] at h; cases h
    | some i => exact ⟨i, rfl⟩
  rw [hi] at e ⊢
  obtain ⟨f1, f2, f3, f4⟩ := firstAt_some _ _ _ e.symm
  obtain ⟨a1, a2, a3⟩ := falls_len h1
  obtain ⟨b1, b2, b3⟩ := falls_len h3
  refine ⟨h1, h3, by simpa using f2, f3, ?_⟩
  show (fallsO R C l cs).1.take i = (fallsO R' C m cs).1.take i
  apply List.ext_getElem?
  intro k
  by_cases hk : k < i
  · rw [List.getElem?_take_of_lt hk, List.getElem?_take_of_lt hk]
    have := f4 k (by omega) hk
    rw [List.getD_eq_getElem?_getD, List.getD_eq_getElem?_getD, List.getElem?_eq_getElem (by omega), List.getElem?_eq_getElem (by omega)] at this
    rw [List.getElem?_eq_getElem (by omega), List.getElem?_eq_getElem (by omega)]
    exact congrArg some this
  · rw [List.getElem?_eq_none (by rw [List.length_take]; omega), List.getElem?_eq_none (by rw [List.length_take]; omega)]
end Go.Proofs.YtlnekfbhpfhcpaaGreat
namespace Go.Proofs.YtlnekfbhpfhcpaaGreat
open Go.ChangeShapes Go.WideShapes Go.ChangeAt Go.RowKit Go.Joins Go.Deep
set_option linter.unusedSimpArgs false
set_option linter.unusedVariables false
set_option maxRecDepth 100000
set_option maxHeartbeats 2000000
theorem flatF_at2 (l : List (Int × Int × Int)) (k : Nat) (h : k < l.length) : (flatF l)[k * 3]? = some (.int .i64 l[k].1) ∧ (flatF l)[k * 3 + 1]? = some (.int .i64 l[k].2.1) ∧ (flatF l)[k * 3 + 2]? = some (.int .i64 l[k].2.2) := by
  induction l generalizing k with
  | nil => simp at h
  | cons c l ih =>
    cases k with
    | zero => exact ⟨rfl, rfl, rfl⟩
    | succ k =>
      have := ih k (by simpa using h)
      have e1 : (flatF (c :: l))[(k + 1) * 3]? = (flatF l)[k * 3]? := by rw [show (k + 1) * 3 = k * 3 + 1 + 1 + 1 by omega]; rfl
      have e2 : (flatF (c :: l))[(k + 1) * 3 + 1]? = (flatF l)[k * 3 + 1]? := by rw [show (k + 1) * 3 + 1 = k * 3 + 1 + 1 + 1 + 1 by omega]; rfl
      have e3 : (flatF (c :: l))[(k + 1) * 3 + 2]? = (flatF l)[k * 3 + 2]? := by rw [show (k + 1) * 3 + 2 = k * 3 + 2 + 1 + 1 + 1 by omega]; rfl
      rw [e1, e2, e3]
      exact this
theorem flatF_pos {l : List (Int × Int × Int)} (h : 0 < (flatF l).length) : 0 < l.length := by rw [flatF_len] at h; omega
theorem pos_flatF {l : List (Int × Int × Int)} (h : 0 < l.length) : 0 < (flatF l).length := by rw [flatF_len]; omega
theorem own_own_apart {w : World} {A A' : Option Addr} {t t' : TypeId} {xs ys : List Value} (h : Own w A t xs) (h' : Own w A' t' ys) (hne : t ≠ t') (hx : 0 < xs.length) (hy : 0 < ys.length) {a a' : Addr} (ha : A = some a) (ha' : A' = some a') : a.block ≠ a'.block := by
  obtain ⟨g, rest, e, hw⟩ := h' hy
  rw [e] at ha'
  cases ha'
  exact own_apart h hw hne hx ha
theorem takeF_step {l m : List (Int × Int × Int)} {k : Nat} (h1 : k < l.length) (h2 : k < m.length) (h : l.take k = m.take k) : l[k].1 = m[k].1 → l[k].2.1 = m[k].2.1 → l[k].2.2 = m[k].2.2 → l.take (k + 1) = m.take (k + 1) := fun a b c => by
  rw [List.take_succ_eq_append_getElem h1, List.take_succ_eq_append_getElem h2, h, Prod.ext a (Prod.ext b c)]
end Go.Proofs.YtlnekfbhpfhcpaaGreat
namespace Go.Proofs.YtlnekfbhpfhcpaaGreat
open Go.ChangeShapes Go.WideShapes Go.ChangeAt Go.RowKit Go.Joins Go.Deep
set_option linter.unusedSimpArgs false
set_option linter.unusedVariables false
set_option maxRecDepth 100000
set_option maxHeartbeats 1000000
theorem qInts_any (A A' : Option Addr) (cap cap' : Nat) (l m : List Int) (w : World) (hn : l.length ≤ 1048576) (hm : m.length ≤ 1048576) (hr : Rd w w.heap.size A (ints l)) (hr' : Rd w w.heap.size A' (ints m)) :
    Calls Tryz.prog 22 #[.slice A l.length cap, .slice A' m.length cap'] w fun e w' => e = .returned (.bool (decide (l = m))) ∧ Below w.heap.size w w' := by
  by_cases hlm : l.length = m.length
  · have hlb : ((l.length : Int) != (m.length : Int)) = false := by simp [hlm]
    rw [← hlm] at hlb ⊢
    have HL := Lib.hid hlm
    clear hlm
    go_enter Tryz.func22, Tryz.ntmps22
    go_wp2
    go_loopw [13, 5] (fun i _ wr => ∃ k : Nat, k ≤ l.length ∧ i = .int .i64 k ∧ l.take k = m.take k ∧ Below w.heap.size w wr) (fun i _ _ => l.length - (intOf i).toNat)
    case atStart => exact ⟨0, Nat.zero_le _, rfl, rfl, by (repeat' (first | (with_reducible exact Below.refl _ _) | (with_reducible assumption) | (with_reducible refine Below.alloc ?_ ?_ _) | (with_reducible refine Below.setCell ?_ ?_ _) | (with_reducible refine Below.drew ?_) | (with_reducible refine below_drewN ?_ _) | (with_reducible refine Below.trans ?_ (Below.mono (by assumption) ?_)) | (with_reducible exact Nat.le_refl _) | (simp; done) | omega | (simp at *; omega)))⟩
    case round =>
      obtain ⟨k, hk, rfl, heq, hb⟩ := hrel
      by_cases hlt : k < l.length
      · obtain ⟨b, o, rfl, hbl, hc⟩ := hr (by rw [ints_length]; omega)
        obtain ⟨b', o', rfl, hbl', hc'⟩ := hr' (by have := HL.out; rw [ints_length]; omega)
        have hltm : k < m.length := by have := HL.out; omega
        have hc0 : wr.cell? ⟨b, o + k, none⟩ = some (.int .i64 l[k]) := (hb.cell (p := ⟨b, _, none⟩) hbl).trans (hc _ _ (ints_at l k hlt))
        have hd0 : wr.cell? ⟨b', o' + k, none⟩ = some (.int .i64 m[k]) := (hb.cell (p := ⟨b', _, none⟩) hbl').trans (hc' _ _ (ints_at m k hltm))
        clear hr hr' hc hc'
        have HT := Lib.hid (take_step1 hlt hltm heq)
        have HN := Lib.hid (fun (h : l = m) => (show l[k] = m[k] by subst h; rfl))
        clear heq
        generalize l[k] = x at *
        generalize m[k] = x' at *
        by_cases hxy : x = x'
        · subst hxy
          go_wp2
          go_quiet (fail)
          go_wp2
          go_roundw
          case rel => exact ⟨k + 1, by omega, by go_num, HT.out trivial, by (repeat' (first | (with_reducible exact Below.refl _ _) | (with_reducible assumption) | (with_reducible refine Below.alloc ?_ ?_ _) | (with_reducible refine Below.setCell ?_ ?_ _) | (with_reducible refine Below.drew ?_) | (with_reducible refine below_drewN ?_ _) | (with_reducible refine Below.trans ?_ (Below.mono (by assumption) ?_)) | (with_reducible exact Nat.le_refl _) | (simp; done) | omega | (simp at *; omega)))⟩
          case measure => simp [intOf]; omega
        · have hxb : (x != x') = true := by simpa using hxy
          have HX := Lib.hid hxy
          clear hxy
          go_wp2
          go_quiet (fail)
          go_wp2
          go_returns
          exact ⟨ret_bool (decide_eq_false (fun h => HX.out (HN.out h))).symm, by (repeat' (first | (with_reducible exact Below.refl _ _) | (with_reducible assumption) | (with_reducible refine Below.alloc ?_ ?_ _) | (with_reducible refine Below.setCell ?_ ?_ _) | (with_reducible refine Below.drew ?_) | (with_reducible refine below_drewN ?_ _) | (with_reducible refine Below.trans ?_ (Below.mono (by assumption) ?_)) | (with_reducible exact Nat.le_refl _) | (simp; done) | omega | (simp at *; omega)))⟩
      · obtain rfl : k = l.length := by omega
        rw [List.take_length, HL.out, List.take_length] at heq
        have HQ := Lib.hid heq
        clear heq
        go_wp2
        go_returns
        exact ⟨ret_bool (decide_eq_true HQ.out).symm, hb⟩
  · have hlb : ((l.length : Int) != (m.length : Int)) = true := by simp; omega
    go_enter Tryz.func22, Tryz.ntmps22
    go_wp2
    go_returns
    exact ⟨ret_bool (by simp; intro h; exact hlm (by rw [h])), by (repeat' (first | (with_reducible exact Below.refl _ _) | (with_reducible assumption) | (with_reducible refine Below.alloc ?_ ?_ _) | (with_reducible refine Below.setCell ?_ ?_ _) | (with_reducible refine Below.drew ?_) | (with_reducible refine below_drewN ?_ _) | (with_reducible refine Below.trans ?_ (Below.mono (by assumption) ?_)) | (with_reducible exact Nat.le_refl _) | (simp; done) | omega | (simp at *; omega)))⟩
theorem qHas_any (A : Option Addr) (cap : Nat) (l : List Int) (n : Int) (w : World) (hn : l.length ≤ 1048576) (hr : Rd w w.heap.size A (ints l)) :
    Calls Tryz.prog 28 #[.slice A l.length cap, .int .i64 n] w fun e w' => e = .returned (.bool (decide (n ∈ l))) ∧ w' = w := by
  go_enter Tryz.func28, Tryz.ntmps28
  go_wp2
  go_loopw [9, 6] (fun i _ wr => ∃ k : Nat, k ≤ l.length ∧ i = .int .i64 k ∧ (n ∉ l.take k) ∧ wr = w) (fun i _ _ => l.length - (intOf i).toNat)
  case atStart => exact ⟨0, Nat.zero_le _, rfl, by simp, rfl⟩
  case round =>
    obtain ⟨k, hk, rfl, hno, rfl⟩ := hrel
    by_cases hlt : k < l.length
    · obtain ⟨b, o, rfl, hbl, hc⟩ := hr (by rw [ints_length]; omega)
      have hc0 := hc _ _ (ints_at l k hlt)
      clear hc hr
      have HI := Lib.hid (List.getElem_mem hlt)
      have HS := Lib.hid (List.take_succ_eq_append_getElem hlt)
      generalize l[k] = x at *
      by_cases hx : x = n
      · subst hx
        go_wp2
        go_returns
        exact ⟨ret_bool (by simp [HI.out]), rfl⟩
      · have HX := Lib.hid hx
        go_wp2
        go_roundw
        case rel => exact ⟨k + 1, by omega, by go_num, by rw [HS.out]; simp [hno]; exact fun e => HX.out e.symm, trivial⟩
        case measure => simp [intOf]; omega
    · obtain rfl : k = l.length := by omega
      rw [List.take_length] at hno
      have HO := Lib.hid hno
      clear hno
      go_wp2
      go_returns
      exact ⟨ret_bool (by simp [HO.out]), rfl⟩
end Go.Proofs.YtlnekfbhpfhcpaaGreat
namespace Go.Proofs.YtlnekfbhpfhcpaaGreat
open Go.ChangeShapes Go.WideShapes Go.ChangeAt Go.RowKit Go.Joins Go.Deep
set_option linter.unusedSimpArgs false
set_option linter.unusedVariables false
set_option maxRecDepth 100000
set_option maxHeartbeats 2000000
theorem qFalls_same (A A' : Option Addr) (cap cap' : Nat) (l : List (Int × Int × Int)) (n : Nat) (w : World) (hl : l.length = n) (hn : n ≤ 1048576) (hr : Rd w w.heap.size A (flatF l)) (hr' : Rd w w.heap.size A' (flatF l)) :
    Calls Tryz.prog 20 #[.slice A n cap, .slice A' n cap'] w fun e w' => e = .returned (.bool true) ∧ Below w.heap.size w w' := by
  have hlb : ((n : Int) != (n : Int)) = false := by simp
  have HL := Lib.hid hl
  clear hl
  go_enter Tryz.func20, Tryz.ntmps20
  go_wp2
  go_loopw [13, 5] (fun i _ wr => ∃ k : Nat, k ≤ n ∧ i = .int .i64 k ∧ Below w.heap.size w wr) (fun i _ _ => n - (intOf i).toNat)
  case atStart => exact ⟨0, Nat.zero_le _, rfl, by (repeat' (first | (with_reducible exact Below.refl _ _) | (with_reducible assumption) | (with_reducible refine Below.alloc ?_ ?_ _) | (with_reducible refine Below.setCell ?_ ?_ _) | (with_reducible refine Below.drew ?_) | (with_reducible refine below_drewN ?_ _) | (with_reducible refine Below.trans ?_ (Below.mono (by assumption) ?_)) | (with_reducible exact Nat.le_refl _) | (simp; done) | omega | (simp at *; omega)))⟩
  case round =>
    obtain ⟨k, hk, rfl, hb⟩ := hrel
    by_cases hlt : k < n
    · have hll : k < l.length := by have := HL.out; omega
      obtain ⟨b, o, rfl, hbl, hc⟩ := hr (by rw [flatF_len]; omega)
      obtain ⟨b', o', rfl, hbl', hc'⟩ := hr' (by rw [flatF_len]; omega)
      have hc0 : wr.cell? ⟨b, o + k * 3, none⟩ = some (.int .i64 l[k].1) := (hb.cell (p := ⟨b, _, none⟩) hbl).trans (hc _ _ (flatF_at2 l k hll).1)
      have hc1 : wr.cell? ⟨b, o + k * 3 + 1, none⟩ = some (.int .i64 l[k].2.1) := (hb.cell (p := ⟨b, _, none⟩) hbl).trans (hc _ _ (flatF_at2 l k hll).2.1)
      have hc2 : wr.cell? ⟨b, o + k * 3 + 2, none⟩ = some (.int .i64 l[k].2.2) := (hb.cell (p := ⟨b, _, none⟩) hbl).trans (hc _ _ (flatF_at2 l k hll).2.2)
      have hd0 : wr.cell? ⟨b', o' + k * 3, none⟩ = some (.int .i64 l[k].1) := (hb.cell (p := ⟨b', _, none⟩) hbl').trans (hc' _ _ (flatF_at2 l k hll).1)
      have hd1 : wr.cell? ⟨b', o' + k * 3 + 1, none⟩ = some (.int .i64 l[k].2.1) := (hb.cell (p := ⟨b', _, none⟩) hbl').trans (hc' _ _ (flatF_at2 l k hll).2.1)
      have hd2 : wr.cell? ⟨b', o' + k * 3 + 2, none⟩ = some (.int .i64 l[k].2.2) := (hb.cell (p := ⟨b', _, none⟩) hbl').trans (hc' _ _ (flatF_at2 l k hll).2.2)
      clear hr hr' hc hc'
      generalize l[k].1 = x at *
      generalize l[k].2.1 = y at *
      generalize l[k].2.2 = z at *
      have hi2 : (k : Int) < (n : Int) := by omega
      have hi0 : (0 : Int) ≤ (k : Int) := Int.natCast_nonneg _
      have h0 := heldFall
      have h1 := guardFall
      clear hll
      go_wp2
      go_quiet (fail)
      go_wp2
      go_roundw
      case rel => exact ⟨k + 1, by omega, by go_num, below_drewN hb _⟩
      case measure => simp [intOf]; omega
    · obtain rfl : k = n := by omega
      go_wp2
      go_returns
      exact ⟨rfl, hb⟩
theorem qLists_same (A A' : Option Addr) (cap cap' : Nat) (l : List (List Int)) (n : Nat) (w : World) (hl : l.length = n) (hn : n ≤ 1048576) (ht : ∀ i, (l.getD i []).length ≤ 1048576) (hr : RdSS w A l) (hr' : RdSS w A' l) :
    Calls Tryz.prog 27 #[.slice A n cap, .slice A' n cap'] w fun e w' => e = .returned (.bool true) ∧ Below w.heap.size w w' := by
  have hlb : ((n : Int) != (n : Int)) = false := by simp
  have HL := Lib.hid hl
  obtain ⟨As, cs, hr1, hr2⟩ := hr
  obtain ⟨As', cs', hs1, hs2⟩ := hr'
  clear hl
  go_enter Tryz.func27, Tryz.ntmps27
  go_wp2
  go_loopw [13, 5] (fun i _ wr => ∃ k : Nat, k ≤ n ∧ i = .int .i64 k ∧ Below w.heap.size w wr) (fun i _ _ => n - (intOf i).toNat)
  case atStart => exact ⟨0, Nat.zero_le _, rfl, by (repeat' (first | (with_reducible exact Below.refl _ _) | (with_reducible assumption) | (with_reducible refine Below.alloc ?_ ?_ _) | (with_reducible refine Below.setCell ?_ ?_ _) | (with_reducible refine Below.drew ?_) | (with_reducible refine below_drewN ?_ _) | (with_reducible refine Below.trans ?_ (Below.mono (by assumption) ?_)) | (with_reducible exact Nat.le_refl _) | (simp; done) | omega | (simp at *; omega)))⟩
  case round =>
    obtain ⟨k, hk, rfl, hb⟩ := hrel
    by_cases hlt : k < n
    · have hll : k < l.length := by have := HL.out; omega
      obtain ⟨b, o, rfl, hbl, hc⟩ := hr1 (by rw [rowsV_len]; omega)
      obtain ⟨b', o', rfl, hbl', hc'⟩ := hs1 (by rw [rowsV_len]; omega)
      have hc0 : wr.cell? ⟨b, o + k, none⟩ = some (.slice (As k) (l.getD k []).length (cs k)) := (hb.cell (p := ⟨b, _, none⟩) hbl).trans (hc _ _ (rowsV_at hll))
      have hd0 : wr.cell? ⟨b', o' + k, none⟩ = some (.slice (As' k) (l.getD k []).length (cs' k)) := (hb.cell (p := ⟨b', _, none⟩) hbl').trans (hc' _ _ (rowsV_at hll))
      have hs : w.heap.size ≤ wr.heap.size := hb.size
      have HR := Lib.hid (hr2 k hll)
      have HR' := Lib.hid (hs2 k hll)
      have hx1 := ht k
      clear hr2 hs2 hc hc' hr1 hs1 ht
      generalize l.getD k [] = x at *
      generalize As k = Ak at *
      generalize As' k = Ak' at *
      generalize cs k = ck at *
      generalize cs' k = ck' at *
      clear hll
      go_wp2_with fail
      go_still_tail 8, (by kernel_rfl)
      change wpList _ _ _ _ _ wr.drew
      have hb2 : Below w.heap.size w wr.drew := hb.drew
      have hs2 : w.heap.size ≤ wr.drew.heap.size := hs
      generalize wr.drew = w2 at *
      clear hc0 hd0 hb
      go_wp2_with fail
      refine (qInts_any Ak Ak' ck ck' x x _ hx1 hx1 ((HR.out.below hb2).mono hs2) ((HR'.out.below hb2).mono hs2)).mono ?_; rintro e w3 ⟨rfl, b3⟩
      rw [decide_eq_true rfl]
      go_wp2
      go_roundw
      case rel => exact ⟨k + 1, by omega, by go_num, by (repeat' (first | (with_reducible exact Below.refl _ _) | (with_reducible assumption) | (with_reducible refine Below.alloc ?_ ?_ _) | (with_reducible refine Below.setCell ?_ ?_ _) | (with_reducible refine Below.drew ?_) | (with_reducible refine below_drewN ?_ _) | (with_reducible refine Below.trans ?_ (Below.mono (by assumption) ?_)) | (with_reducible exact Nat.le_refl _) | (simp; done) | omega | (simp at *; omega)))⟩
      case measure => simp [intOf]; omega
    · obtain rfl : k = n := by omega
      go_wp2
      go_returns
      exact ⟨rfl, hb⟩
theorem sum_take {v : List Int} {k : Nat} (h : k < v.length) : (v.take (k + 1)).sum = (v.take k).sum + v[k] := by
  rw [List.take_succ_eq_append_getElem h, List.sum_append, List.sum_singleton]
theorem qSum_any (A : Option Addr) (cap : Nat) (v : List Int) (w : World) (hn : v.length ≤ 1048576) (hs : ∀ k, 0 ≤ (v.take k).sum ∧ (v.take k).sum ≤ 1048576) (hr : Rd w w.heap.size A (ints v)) :
    Calls Tryz.prog 29 #[.slice A v.length cap] w fun e w' => e = .returned (.int .i64 v.sum) ∧ Below w.heap.size w w' := by
  go_enter Tryz.func29, Tryz.ntmps29
  go_wp2
  go_loopw [8, 3, 5] (fun i s _ wr => ∃ k : Nat, k ≤ v.length ∧ i = .int .i64 k ∧ s = .int .i64 (v.take k).sum ∧ Below w.heap.size w wr) (fun i _ _ _ => v.length - (intOf i).toNat)
  case atStart => exact ⟨0, Nat.zero_le _, rfl, by simp, by (repeat' (first | (with_reducible exact Below.refl _ _) | (with_reducible assumption) | (with_reducible refine Below.alloc ?_ ?_ _) | (with_reducible refine Below.setCell ?_ ?_ _) | (with_reducible refine Below.drew ?_) | (with_reducible refine below_drewN ?_ _) | (with_reducible refine Below.trans ?_ (Below.mono (by assumption) ?_)) | (with_reducible exact Nat.le_refl _) | (simp; done) | omega | (simp at *; omega)))⟩
  case round =>
    obtain ⟨k, hk, rfl, rfl, hb⟩ := hrel
    by_cases hlt : k < v.length
    · obtain ⟨b, o, rfl, hbl, hc⟩ := hr (by rw [ints_length]; omega)
      have hc0 : wr.cell? ⟨b, o + k, none⟩ = some (.int .i64 v[k]) := (hb.cell (p := ⟨b, _, none⟩) hbl).trans (hc _ _ (ints_at v k hlt))
      have h1 := hs (k + 1)
      have HT := Lib.hid (sum_take hlt)
      rw [sum_take hlt] at h1
      clear hc hr hs
      generalize v[k] = x at *
      obtain ⟨s, hs⟩ : ∃ s, (v.take k).sum = s := ⟨_, rfl⟩
      have HS := Lib.hid hs
      rw [hs] at h1 ⊢
      clear hs
      go_wp2
      go_roundw
      case rel => exact ⟨k + 1, by omega, by go_num, by rw [HT.out, HS.out], by (repeat' (first | (with_reducible exact Below.refl _ _) | (with_reducible assumption) | (with_reducible refine Below.alloc ?_ ?_ _) | (with_reducible refine Below.setCell ?_ ?_ _) | (with_reducible refine Below.drew ?_) | (with_reducible refine below_drewN ?_ _) | (with_reducible refine Below.trans ?_ (Below.mono (by assumption) ?_)) | (with_reducible exact Nat.le_refl _) | (simp; done) | omega | (simp at *; omega)))⟩
      case measure => simp [intOf]; omega
    · obtain rfl : k = v.length := by omega
      rw [List.take_length]
      go_wp2
      go_returns
      exact ⟨rfl, hb⟩
end Go.Proofs.YtlnekfbhpfhcpaaGreat
namespace Go.Proofs.YtlnekfbhpfhcpaaGreat
open Go.ChangeShapes Go.WideShapes Go.ChangeAt Go.RowKit Go.Joins Go.Deep
set_option linter.unusedSimpArgs false
set_option linter.unusedVariables false
set_option maxRecDepth 100000
set_option maxHeartbeats 2000000
theorem qInts_quiet (A A' : Option Addr) (cap cap' : Nat) (l : List Int) (n : Nat) (w : World) (hl : l.length = n) (hn : n ≤ 1048576) (hr : Rd w w.heap.size A (ints l)) (hr' : Rd w w.heap.size A' (ints l)) :
    Calls Tryz.prog 22 #[.slice A n cap, .slice A' n cap'] w fun e w' => e = .returned (.bool true) ∧ ∃ m, w' = w.drewN m := by
  have hlb : ((n : Int) != (n : Int)) = false := by simp
  have HL := Lib.hid hl
  clear hl
  go_enter Tryz.func22, Tryz.ntmps22
  go_wp2
  go_loopw [13, 5] (fun i _ wr => ∃ k m : Nat, k ≤ n ∧ i = .int .i64 k ∧ wr = w.drewN m) (fun i _ _ => n - (intOf i).toNat)
  case atStart => exact ⟨0, 0, Nat.zero_le _, rfl, rfl⟩
  case round =>
    obtain ⟨k, m, hk, rfl, rfl⟩ := hrel
    by_cases hlt : k < n
    · have hll : k < l.length := by have := HL.out; omega
      obtain ⟨b, o, rfl, hbl, hc⟩ := hr (by rw [ints_length]; omega)
      obtain ⟨b', o', rfl, hbl', hc'⟩ := hr' (by rw [ints_length]; omega)
      have hc0 : w.cell? ⟨b, o + k, none⟩ = some (.int .i64 l[k]) := hc _ _ (ints_at l k hll)
      have hd0 : w.cell? ⟨b', o' + k, none⟩ = some (.int .i64 l[k]) := hc' _ _ (ints_at l k hll)
      clear hr hr' hc hc'
      generalize l[k] = x at *
      clear hll
      go_wp2
      go_quiet (fail)
      go_wp2
      go_roundw
      case rel => exact ⟨k + 1, _, by omega, by go_num, by first | rfl | (rw [World.drewN_drewN])⟩
      case measure => simp [intOf]; omega
    · obtain rfl : k = n := by omega
      go_wp2
      go_returns
      exact ⟨rfl, m, rfl⟩
theorem qFalls_quiet (A A' : Option Addr) (cap cap' : Nat) (l : List (Int × Int × Int)) (n : Nat) (w : World) (hl : l.length = n) (hn : n ≤ 1048576) (hr : Rd w w.heap.size A (flatF l)) (hr' : Rd w w.heap.size A' (flatF l)) :
    Calls Tryz.prog 20 #[.slice A n cap, .slice A' n cap'] w fun e w' => e = .returned (.bool true) ∧ ∃ m, w' = w.drewN m := by
  have hlb : ((n : Int) != (n : Int)) = false := by simp
  have HL := Lib.hid hl
  clear hl
  go_enter Tryz.func20, Tryz.ntmps20
  go_wp2
  go_loopw [13, 5] (fun i _ wr => ∃ k m : Nat, k ≤ n ∧ i = .int .i64 k ∧ wr = w.drewN m) (fun i _ _ => n - (intOf i).toNat)
  case atStart => exact ⟨0, 0, Nat.zero_le _, rfl, rfl⟩
  case round =>
    obtain ⟨k, m, hk, rfl, rfl⟩ := hrel
    by_cases hlt : k < n
    · have hll : k < l.length := by have := HL.out; omega
      obtain ⟨b, o, rfl, hbl, hc⟩ := hr (by rw [flatF_len]; omega)
      obtain ⟨b', o', rfl, hbl', hc'⟩ := hr' (by rw [flatF_len]; omega)
      have hc0 : w.cell? ⟨b, o + k * 3, none⟩ = some (.int .i64 l[k].1) := hc _ _ (flatF_at2 l k hll).1
      have hc1 : w.cell? ⟨b, o + k * 3 + 1, none⟩ = some (.int .i64 l[k].2.1) := hc _ _ (flatF_at2 l k hll).2.1
      have hc2 : w.cell? ⟨b, o + k * 3 + 2, none⟩ = some (.int .i64 l[k].2.2) := hc _ _ (flatF_at2 l k hll).2.2
      have hd0 : w.cell? ⟨b', o' + k * 3, none⟩ = some (.int .i64 l[k].1) := hc' _ _ (flatF_at2 l k hll).1
      have hd1 : w.cell? ⟨b', o' + k * 3 + 1, none⟩ = some (.int .i64 l[k].2.1) := hc' _ _ (flatF_at2 l k hll).2.1
      have hd2 : w.cell? ⟨b', o' + k * 3 + 2, none⟩ = some (.int .i64 l[k].2.2) := hc' _ _ (flatF_at2 l k hll).2.2
      clear hr hr' hc hc'
      generalize l[k].1 = x at *
      generalize l[k].2.1 = y at *
      generalize l[k].2.2 = z at *
      have hi2 : (k : Int) < (n : Int) := by omega
      have hi0 : (0 : Int) ≤ (k : Int) := Int.natCast_nonneg _
      have h0 := heldFall
      have h1 := guardFall
      clear hll
      go_wp2
      go_quiet (fail)
      go_wp2
      go_roundw
      case rel => exact ⟨k + 1, _, by omega, by go_num, by first | rfl | (rw [World.drewN_drewN])⟩
      case measure => simp [intOf]; omega
    · obtain rfl : k = n := by omega
      go_wp2
      go_returns
      exact ⟨rfl, m, rfl⟩
theorem qInts_at (A A' : Option Addr) (cap cap' : Nat) (l : List Int) (n : Nat) (w : World) (j : Nat) (hl : l.length = n) (hn : n ≤ 1048576) (hr : Rd w w.heap.size A (ints l)) (hr' : Rd w w.heap.size A' (ints l)) :
    Calls Tryz.prog 22 #[.slice A n cap, .slice A' n cap'] (w.drewN j) fun e w' => e = .returned (.bool true) ∧ ∃ m, w' = w.drewN m :=
  (qInts_quiet A A' cap cap' l n (w.drewN j) hl hn hr hr').mono fun e w' ⟨h1, m, h2⟩ => ⟨h1, j + m, by rw [h2, World.drewN_drewN]⟩
theorem qFalls_at (A A' : Option Addr) (cap cap' : Nat) (l : List (Int × Int × Int)) (n : Nat) (w : World) (j : Nat) (hl : l.length = n) (hn : n ≤ 1048576) (hr : Rd w w.heap.size A (flatF l)) (hr' : Rd w w.heap.size A' (flatF l)) :
    Calls Tryz.prog 20 #[.slice A n cap, .slice A' n cap'] (w.drewN j) fun e w' => e = .returned (.bool true) ∧ ∃ m, w' = w.drewN m :=
  (qFalls_quiet A A' cap cap' l n (w.drewN j) hl hn hr hr').mono fun e w' ⟨h1, m, h2⟩ => ⟨h1, j + m, by rw [h2, World.drewN_drewN]⟩
theorem qLists_quiet (A A' : Option Addr) (cap cap' : Nat) (l : List (List Int)) (n : Nat) (w : World) (hl : l.length = n) (hn : n ≤ 1048576) (ht : ∀ i, (l.getD i []).length ≤ 1048576) (hr : RdSS w A l) (hr' : RdSS w A' l) :
    Calls Tryz.prog 27 #[.slice A n cap, .slice A' n cap'] w fun e w' => e = .returned (.bool true) ∧ ∃ m, w' = w.drewN m := by
  have hlb : ((n : Int) != (n : Int)) = false := by simp
  have HL := Lib.hid hl
  obtain ⟨As, cs, hr1, hr2⟩ := hr
  obtain ⟨As', cs', hs1, hs2⟩ := hr'
  clear hl
  go_enter Tryz.func27, Tryz.ntmps27
  go_wp2
  go_loopw [13, 5] (fun i _ wr => ∃ k m : Nat, k ≤ n ∧ i = .int .i64 k ∧ wr = w.drewN m) (fun i _ _ => n - (intOf i).toNat)
  case atStart => exact ⟨0, 0, Nat.zero_le _, rfl, rfl⟩
  case round =>
    obtain ⟨k, m, hk, rfl, hd⟩ := hrel
    have hb : Below w.heap.size w wr := by rw [hd]; exact below_drewN (Below.refl _ _) m
    have hs : w.heap.size ≤ wr.heap.size := hb.size
    have HD := Lib.hid hd
    clear hd
    by_cases hlt : k < n
    · have hll : k < l.length := by have := HL.out; omega
      obtain ⟨b, o, rfl, hbl, hc⟩ := hr1 (by rw [rowsV_len]; omega)
      obtain ⟨b', o', rfl, hbl', hc'⟩ := hs1 (by rw [rowsV_len]; omega)
      have hc0 : wr.cell? ⟨b, o + k, none⟩ = some (.slice (As k) (l.getD k []).length (cs k)) := (hb.cell (p := ⟨b, _, none⟩) hbl).trans (hc _ _ (rowsV_at hll))
      have hd0 : wr.cell? ⟨b', o' + k, none⟩ = some (.slice (As' k) (l.getD k []).length (cs' k)) := (hb.cell (p := ⟨b', _, none⟩) hbl').trans (hc' _ _ (rowsV_at hll))
      have HR := Lib.hid (hr2 k hll)
      have HR' := Lib.hid (hs2 k hll)
      have hx1 := ht k
      clear hr2 hs2 hc hc' hr1 hs1 ht
      generalize l.getD k [] = x at *
      generalize As k = Ak at *
      generalize As' k = Ak' at *
      generalize cs k = ck at *
      generalize cs' k = ck' at *
      have hi2 : (k : Int) < (n : Int) := by omega
      have hi0 : (0 : Int) ≤ (k : Int) := Int.natCast_nonneg _
      clear hll
      go_wp2
      go_quiet ((go_at_call 22; exact qInts_at Ak Ak' ck ck' x x.length wr _ rfl hx1 ((HR.out.below hb).mono hs) ((HR'.out.below hb).mono hs)))
      go_wp2
      go_roundw
      case rel => exact ⟨k + 1, _, by omega, by go_num, by rw [HD.out, World.drewN_drewN]⟩
      case measure => simp [intOf]; omega
    · obtain rfl : k = n := by omega
      go_wp2
      go_returns
      exact ⟨rfl, m, HD.out⟩
theorem qLists_at (A A' : Option Addr) (cap cap' : Nat) (l : List (List Int)) (n : Nat) (w : World) (j : Nat) (hl : l.length = n) (hn : n ≤ 1048576) (ht : ∀ i, (l.getD i []).length ≤ 1048576) (hr : RdSS w A l) (hr' : RdSS w A' l) :
    Calls Tryz.prog 27 #[.slice A n cap, .slice A' n cap'] (w.drewN j) fun e w' => e = .returned (.bool true) ∧ ∃ m, w' = w.drewN m :=
  (qLists_quiet A A' cap cap' l n (w.drewN j) hl hn ht hr hr').mono fun e w' ⟨h1, m, h2⟩ => ⟨h1, j + m, by rw [h2, World.drewN_drewN]⟩
end Go.Proofs.YtlnekfbhpfhcpaaGreat
namespace Go.Proofs.YtlnekfbhpfhcpaaGreat
open Go.ChangeShapes Go.WideShapes Go.ChangeAt Go.RowKit Go.Joins Go.Deep
set_option linter.unusedSimpArgs false
set_option linter.unusedVariables false
set_option maxRecDepth 100000
set_option maxHeartbeats 2000000
theorem qBoard_any (R C : Int) (A : Option Addr) (cap : Nat) (l : List (Int × Int)) (R' C' : Int) (A' : Option Addr) (cap' : Nat) (m : List (Int × Int)) (w : World) (hn : l.length ≤ 1048576) (hm : m.length ≤ 1048576) (hr : Rd w w.heap.size A (flat l)) (hr' : Rd w w.heap.size A' (flat m)) :
    Calls Tryz.prog 21 #[.agg #[.int .i64 R, .int .i64 C, .slice A l.length cap], .agg #[.int .i64 R', .int .i64 C', .slice A' m.length cap']] w fun e w' => e = .returned (.bool (decide (R = R' ∧ C = C' ∧ l = m))) ∧ Below w.heap.size w w' := by
  obtain ⟨v0, hv0, X0, X1, B0, hz0⟩ := two_boxes w [.int .i64 R, .int .i64 C, .slice A l.length cap] 25 [.int .i64 R', .int .i64 C', .slice A' m.length cap'] 25
  have HV := Lib.hid hv0
  clear hv0
  obtain ⟨D, hD⟩ : ∃ D : Bool, D = decide (R = R' ∧ C = C' ∧ l = m) := ⟨_, rfl⟩
  rw [← hD]
  have HD := Lib.hid hD
  clear hD
  go_enter Tryz.func21, Tryz.ntmps21
  go_upto_region 1 with fail
  rewrite [show (w.alloc (.cells ([.int .i64 R, .int .i64 C, .slice A l.length cap] : List Value).toArray 25)).alloc (.cells ([.int .i64 R', .int .i64 C', .slice A' m.length cap'] : List Value).toArray 25) = v0 from HV.out]
  clear HV
  replace hr := (hr.below B0).mono B0.size
  replace hr' := (hr'.below B0).mono B0.size
  have k0 : v0.cell? ⟨w.heap.size, 0, none⟩ = some (.int .i64 R) := (X0.cell 0).trans rfl
  have k1 : v0.cell? ⟨w.heap.size, 1, none⟩ = some (.int .i64 C) := (X0.cell 1).trans rfl
  have k2 : v0.cell? ⟨w.heap.size, 2, none⟩ = some (.slice A l.length cap) := (X0.cell 2).trans rfl
  have j0 : v0.cell? ⟨w.heap.size + 1, 0, none⟩ = some (.int .i64 R') := (X1.cell 0).trans rfl
  have j1 : v0.cell? ⟨w.heap.size + 1, 1, none⟩ = some (.int .i64 C') := (X1.cell 1).trans rfl
  have j2 : v0.cell? ⟨w.heap.size + 1, 2, none⟩ = some (.slice A' m.length cap') := (X1.cell 2).trans rfl
  by_cases h1 : R = R'
  · subst h1
    by_cases h2 : C = C'
    · subst h2
      by_cases h3 : l.length = m.length
      · have HL := Lib.hid h3
        have h4 : ((l.length : Int) != (m.length : Int)) = false := by simp [h3]
        clear h3
        have HD2 := Lib.hid (show D = decide (l = m) by rw [HD.out]; simp)
        clear HD
        go_wp2
        go_loopw [30, 5] (fun i _ wr => ∃ k : Nat, k ≤ l.length ∧ i = .int .i64 k ∧ l.take k = m.take k ∧ Below v0.heap.size v0 wr) (fun i _ _ => l.length - (intOf i).toNat)
        case atStart => exact ⟨0, Nat.zero_le _, rfl, rfl, Below.refl _ _⟩
        case round =>
          obtain ⟨k, hk, rfl, heq, hb⟩ := hrel
          clear k0 k1 k2 j0 j1 j2
          by_cases hlt : k < l.length
          · have hltm : k < m.length := by have := HL.out; omega
            obtain ⟨b, o, rfl, hbl, hc⟩ := hr (by rw [flat_length]; omega)
            obtain ⟨b', o', rfl, hbl', hc'⟩ := hr' (by rw [flat_length]; omega)
            obtain ⟨hc0, hc1⟩ := cell_at2 hb hbl hc hlt
            obtain ⟨hd0, hd1⟩ := cell_at2 hb hbl' hc' hltm
            have k2 : wr.cell? ⟨w.heap.size, 2, none⟩ = some (.slice (some ⟨b, o, none⟩) l.length cap) := ((X0.below hb X0.lt).cell 2).trans rfl
            have j2 : wr.cell? ⟨w.heap.size + 1, 2, none⟩ = some (.slice (some ⟨b', o', none⟩) m.length cap') := ((X1.below hb X1.lt).cell 2).trans rfl
            have HT := Lib.hid (take_step hlt hltm heq)
            have HN := Lib.hid (fun (h : l = m) => (show l[k].1 = m[k].1 ∧ l[k].2 = m[k].2 by subst h; exact ⟨rfl, rfl⟩))
            have hi0 : (0 : Int) ≤ (k : Int) := Int.natCast_nonneg _
            have hi1 : (k : Int) < (m.length : Int) := by omega
            have hi2 : (k : Int) < (l.length : Int) := by omega
            clear hr hc hr' hc' heq
            generalize l[k].1 = x at *
            generalize l[k].2 = y at *
            generalize m[k].1 = x' at *
            generalize m[k].2 = y' at *
            have h0 := heldCell
            have h1 := guardCell
            by_cases hx : x = x'
            · subst hx
              by_cases hy : y = y'
              · subst hy
                have HX := Lib.hid (HT.out rfl rfl)
                go_wp2
                go_quiet (fail)
                go_wp2
                go_roundw
                case rel => exact ⟨k + 1, by omega, by go_num, HX.out, below_drewN hb _⟩
                case measure => simp [intOf]; omega
              · have HX := Lib.hid (show D = false by rw [HD2.out]; exact decide_eq_false (fun h => hy (HN.out h).2))
                go_wp2
                go_quiet (fail)
                go_wp2
                go_returns
                exact ⟨ret_bool HX.out.symm, B0.trans ((below_drewN hb _).mono B0.size)⟩
            · have HX := Lib.hid (show D = false by rw [HD2.out]; exact decide_eq_false (fun h => hx (HN.out h).1))
              go_wp2
              go_quiet (fail)
              go_wp2
              go_returns
              exact ⟨ret_bool HX.out.symm, B0.trans ((below_drewN hb _).mono B0.size)⟩
          · obtain rfl : k = l.length := by omega
            rw [List.take_length, HL.out, List.take_length] at heq
            have HQ := Lib.hid (show D = true by rw [HD2.out]; exact decide_eq_true heq)
            clear heq
            go_wp2
            go_returns
            exact ⟨ret_bool HQ.out.symm, B0.trans (hb.mono B0.size)⟩
      · have h4 : ((l.length : Int) != (m.length : Int)) = true := by simp [bne_iff_ne]; omega
        have HN := Lib.hid (show D = false by rw [HD.out]; exact decide_eq_false (fun h => h3 (by rw [h.2.2])))
        go_wp2
        go_returns
        exact ⟨ret_bool HN.out.symm, B0⟩
    · have HN := Lib.hid (show D = false by rw [HD.out]; exact decide_eq_false (fun h => h2 h.2.1))
      go_wp2
      go_returns
      exact ⟨ret_bool HN.out.symm, B0⟩
  · have HN := Lib.hid (show D = false by rw [HD.out]; exact decide_eq_false (fun h => h1 h.1))
    go_wp2
    go_returns
    exact ⟨ret_bool HN.out.symm, B0⟩
end Go.Proofs.YtlnekfbhpfhcpaaGreat
namespace Go.Proofs.YtlnekfbhpfhcpaaGreat
open Go.ChangeShapes Go.WideShapes Go.ChangeAt Go.RowKit Go.Joins Go.Deep
set_option linter.unusedSimpArgs false
set_option linter.unusedVariables false
set_option maxRecDepth 100000
set_option maxHeartbeats 1000000
def cutIn (R f t : Int) : Bool := decide (0 ≤ f ∧ f < t ∧ t ≤ R)
def okCut (R C : Int) (l : List (Int × Int)) (f t : Int) : Bool := goodB R C l && cutIn R f t
def piece (l : List (Int × Int)) (p q : Nat) : List (Int × Int) := (l.drop p).take (q - p)
def cutL (R C : Int) (l : List (Int × Int)) (f t : Int) : List (Int × Int) := if okCut R C l f t then piece l (f * C).toNat (t * C).toNat else []
theorem piece_len {l : List (Int × Int)} {p q : Nat} (hq : q ≤ l.length) : (piece l p q).length = q - p := by
  unfold piece
  rw [List.length_take, List.length_drop]
  omega
theorem cutL_len (R C : Int) (l : List (Int × Int)) (f t : Int) (h : l.length ≤ 1048576) : (cutL R C l f t).length ≤ 1048576 := by
  unfold cutL piece
  split
  · rw [List.length_take, List.length_drop]; omega
  · simp
theorem flat_drop (l : List (Int × Int)) (p : Nat) : flat (l.drop p) = (flat l).drop (p * 2) := by
  induction p generalizing l with
  | zero => rfl
  | succ p ih =>
    cases l with
    | nil => simp [flat]
    | cons c l =>
      rw [List.drop_succ_cons, ih, show (p + 1) * 2 = p * 2 + 1 + 1 by omega]
      rfl
theorem piece_rd {w : World} {B b o : Nat} {l : List (Int × Int)} {p q : Nat} (hr : Rd w B (some ⟨b, o, none⟩) (flat l)) (hq : q ≤ l.length) (hpq : p < q) : Rd w B (some ⟨b, o + p * 2, none⟩) (flat (piece l p q)) := by
  intro _
  obtain ⟨b', o', e, hlt, hc⟩ := hr (by rw [flat_length]; omega)
  cases e
  refine ⟨b, o + p * 2, rfl, hlt, fun j u hj => ?_⟩
  have hl := flat_length (piece l p q)
  rw [piece_len hq] at hl
  have hj' := (List.getElem?_eq_some_iff.1 hj).1
  rw [Nat.add_assoc]
  refine hc (p * 2 + j) u ?_
  rw [← List.getElem?_drop, ← flat_drop, ← hj]
  have e1 : l.drop p = piece l p q ++ (l.drop p).drop (q - p) := (List.take_append_drop (q - p) (l.drop p)).symm
  rw [e1, flat_append, List.getElem?_append_left hj']
theorem cut_bound {R C : Int} {l : List (Int × Int)} {f t : Int} (hg : goodB R C l = true) (hc : cutIn R f t = true) :
    (f * C).toNat < (t * C).toNat ∧ (t * C).toNat ≤ l.length ∧ l.length ≤ 90 ∧ IntKind.i64.wrap (f * C) = ((f * C).toNat : Int) ∧ IntKind.i64.wrap (t * C) = ((t * C).toNat : Int) := by
  obtain ⟨hs, hl, _⟩ := goodB_iff.1 hg
  unfold cutIn at hc
  rw [decide_eq_true_eq] at hc
  have hm := mul_bound hs
  obtain ⟨s1, s2, s3, s4⟩ := sizeB_iff.1 hs
  have h1 : f * C < t * C := Int.mul_lt_mul_of_pos_right (by omega) (by omega)
  have h2 : t * C ≤ R * C := Int.mul_le_mul_of_nonneg_right (by omega) (by omega)
  have h3 : 0 ≤ f * C := Int.mul_nonneg (by omega) (by omega)
  refine ⟨by omega, by omega, by omega, ?_, ?_⟩
  · rw [IntWalk.i64_in (f * C) (by omega)]; omega
  · rw [IntWalk.i64_in (t * C) (by omega)]; omega
theorem cutB_post {w w' : World} {R C : Int} {l : List (Int × Int)} {f t : Int} {e : Ending} {ok : Bool} (h : okCut R C l f t = ok) (hp : if ok then PostB w (t - f) C (piece l (f * C).toNat (t * C).toNat) true e w' else PostB w 0 0 [] false e w') :
    PostB w (selI (okCut R C l f t) (t - f)) (selI (okCut R C l f t) C) (cutL R C l f t) (okCut R C l f t) e w' := by
  unfold cutL
  rw [h]
  cases ok
  · exact hp
  · exact hp
end Go.Proofs.YtlnekfbhpfhcpaaGreat
namespace Go.Proofs.YtlnekfbhpfhcpaaGreat
open Go.ChangeShapes Go.WideShapes Go.ChangeAt Go.RowKit Go.Joins Go.Deep
set_option linter.unusedSimpArgs false
set_option linter.unusedVariables false
set_option maxRecDepth 100000
set_option maxHeartbeats 1000000
def PostG (w : World) (e : Ending) (w' : World) : Prop := ∃ g c, e = .returned (.slice (some ⟨g, 0, none⟩) 0 c) ∧ w'.ownsRow w.heap.size 86 2 (.slice (some ⟨g, 0, none⟩) 0 c) 0 [] ∧ Below w.heap.size w w'
end Go.Proofs.YtlnekfbhpfhcpaaGreat
namespace Go.Proofs.YtlnekfbhpfhcpaaGreat
open Go.ChangeShapes Go.WideShapes Go.ChangeAt Go.RowKit Go.Joins Go.Deep
set_option linter.unusedSimpArgs false
set_option linter.unusedVariables false
set_option maxRecDepth 100000
set_option maxHeartbeats 1000000
def okStack (R C : Int) (l : List (Int × Int)) (R' C' : Int) (m : List (Int × Int)) : Bool := goodB R C l && goodB R' C' m && decide (C = C' ∧ R + R' ≤ 10)
def stackL (R C : Int) (l : List (Int × Int)) (R' C' : Int) (m : List (Int × Int)) : List (Int × Int) := if okStack R C l R' C' m then l ++ m else []
theorem stackL_len (R C : Int) (l : List (Int × Int)) (R' C' : Int) (m : List (Int × Int)) (h : l.length + m.length ≤ 1048576) : (stackL R C l R' C' m).length ≤ 1048576 := by
  unfold stackL
  split
  · rw [List.length_append]; exact h
  · simp
theorem good_stack {R C R' : Int} {l m : List (Int × Int)} (h : goodB R C l = true) (h' : goodB R' C m = true) (hs : R + R' ≤ 10) : goodB (R + R') C (l ++ m) = true := by
  obtain ⟨a1, a2, a3⟩ := goodB_iff.1 h
  obtain ⟨b1, b2, b3⟩ := goodB_iff.1 h'
  rw [sizeB_iff] at a1 b1
  refine goodB_iff.2 ⟨sizeB_iff.2 (by omega), ?_, fun c hc => ?_⟩
  · rw [List.length_append, Int.add_mul]; omega
  · rcases List.mem_append.1 hc with h | h
    · exact a3 c h
    · exact b3 c h
theorem bad_stack {R C R' : Int} {l m : List (Int × Int)} (hs : ¬ R + R' ≤ 10) : goodB (R + R') C (l ++ m) = false := goodB_size (by unfold sizeB; simp; omega)
theorem stackB_post {w w' : World} {R C R' C' : Int} {l m : List (Int × Int)} {e : Ending} {ok : Bool} (h : okStack R C l R' C' m = ok) (hp : if ok then PostB w (R + R') C (l ++ m) true e w' else PostB w 0 0 [] false e w') :
    PostB w (selI (okStack R C l R' C' m) (R + R')) (selI (okStack R C l R' C' m) C) (stackL R C l R' C' m) (okStack R C l R' C' m) e w' := by
  unfold stackL
  rw [h]
  cases ok
  · exact hp
  · exact hp
end Go.Proofs.YtlnekfbhpfhcpaaGreat
namespace Go.Proofs.YtlnekfbhpfhcpaaGreat
open Go.ChangeShapes Go.WideShapes Go.ChangeAt Go.RowKit Go.Joins Go.Deep
set_option linter.unusedSimpArgs false
set_option linter.unusedVariables false
set_option maxRecDepth 100000
set_option maxHeartbeats 1000000
def rowL (C : Int) (l : List (Int × Int)) (k : Nat) : List (Int × Int) := piece l (k * C.toNat) ((k + 1) * C.toNat)
theorem row_facts {R C : Int} {l : List (Int × Int)} {k : Nat} (hg : goodB R C l = true) (hk : (k : Int) < R) :
    (k + 1) * C.toNat ≤ l.length ∧ k * C.toNat < (k + 1) * C.toNat ∧ l.length ≤ 90 ∧ k ≤ 9 ∧ C.toNat ≤ 9 ∧ 0 < C.toNat ∧
      IntKind.i64.wrap ((k : Int) * C) = ((k * C.toNat : Nat) : Int) ∧ IntKind.i64.wrap (((k : Int) + 1) * C) = (((k + 1) * C.toNat : Nat) : Int) ∧ (k + 1) * C.toNat - k * C.toNat = C.toNat := by
  obtain ⟨hs, hl, _⟩ := goodB_iff.1 hg
  have hm := mul_bound hs
  obtain ⟨s1, s2, s3, s4⟩ := sizeB_iff.1 hs
  obtain ⟨n, rfl⟩ : ∃ n : Nat, C = (n : Int) := ⟨C.toNat, by omega⟩
  obtain ⟨r, rfl⟩ : ∃ r : Nat, R = (r : Int) := ⟨R.toNat, by omega⟩
  simp only [Int.toNat_natCast]
  have hrn : l.length = r * n := by exact_mod_cast hl
  have hk' : k + 1 ≤ r := by omega
  have h1 : (k + 1) * n ≤ r * n := Nat.mul_le_mul_right n hk'
  have h2 : (k + 1) * n = k * n + n := Nat.succ_mul k n
  have h3 : r * n ≤ 90 := by omega
  have e1 : (k : Int) * (n : Int) = ((k * n : Nat) : Int) := by push_cast; rfl
  have e2 : ((k : Int) + 1) * (n : Int) = (((k + 1) * n : Nat) : Int) := by push_cast; rfl
  refine ⟨by omega, by omega, by omega, by omega, by omega, by omega, ?_, ?_, by omega⟩
  · rw [e1]; exact IntWalk.i64_in _ (by omega)
  · rw [e2]; exact IntWalk.i64_in _ (by omega)
theorem rowL_len {R C : Int} {l : List (Int × Int)} {k : Nat} (hg : goodB R C l = true) (hk : (k : Int) < R) : (rowL C l k).length = C.toNat := by
  have h := row_facts hg hk
  unfold rowL
  rw [piece_len h.1]
  exact h.2.2.2.2.2.2.2.2
theorem rowL_good {R C : Int} {l : List (Int × Int)} {k : Nat} (hg : goodB R C l = true) (hk : (k : Int) < R) : goodL (rowL C l k) = true := by
  have h := row_facts hg hk
  have hlen := rowL_len hg hk
  unfold goodL
  rw [hlen, decide_eq_true (by omega), Bool.true_and, List.all_eq_true]
  intro c hc
  refine (goodB_iff.1 hg).2.2 c ?_
  unfold rowL piece at hc
  exact List.mem_of_mem_drop (List.mem_of_mem_take hc)
theorem rowL_rd {w : World} {B b o : Nat} {R C : Int} {l : List (Int × Int)} {k : Nat} (hg : goodB R C l = true) (hk : (k : Int) < R) (hr : Rd w B (some ⟨b, o, none⟩) (flat l)) : Rd w B (some ⟨b, o + (k * C.toNat) * 2, none⟩) (flat (rowL C l k)) :=
  piece_rd hr (row_facts hg hk).1 (row_facts hg hk).2.1
end Go.Proofs.YtlnekfbhpfhcpaaGreat
namespace Go.Proofs.YtlnekfbhpfhcpaaGreat
open Go.ChangeShapes Go.WideShapes Go.ChangeAt Go.RowKit Go.Joins Go.Deep
set_option linter.unusedSimpArgs false
set_option linter.unusedVariables false
set_option maxRecDepth 100000
set_option maxHeartbeats 1000000
def rowsB (C : Int) (l : List (Int × Int)) (C' : Int) (m : List (Int × Int)) (k : Nat) : List (Int × Int) := (List.range k).flatMap fun i => rowL C l i ++ rowL C' m i
theorem rowsB_succ (C : Int) (l : List (Int × Int)) (C' : Int) (m : List (Int × Int)) (k : Nat) : rowsB C l C' m (k + 1) = rowsB C l C' m k ++ rowL C l k ++ rowL C' m k := by
  unfold rowsB
  rw [List.range_succ, List.flatMap_append]
  simp
theorem rowsB_len {R C C' : Int} {l m : List (Int × Int)} (hg : goodB R C l = true) (hg' : goodB R C' m = true) {k : Nat} (hk : (k : Int) ≤ R) : (rowsB C l C' m k).length = k * (C.toNat + C'.toNat) := by
  induction k with
  | zero => simp [rowsB]
  | succ k ih =>
    have hk' : (k : Int) < R := by omega
    rw [rowsB_succ, List.length_append, List.length_append, ih (by omega), rowL_len hg hk', rowL_len hg' hk', Nat.succ_mul]
    omega
theorem rowsB_all {R C C' : Int} {l m : List (Int × Int)} (hg : goodB R C l = true) (hg' : goodB R C' m = true) {k : Nat} (hk : (k : Int) ≤ R) : ∀ c ∈ rowsB C l C' m k, good c.1 c.2 = true := by
  intro c hc
  unfold rowsB at hc
  rw [List.mem_flatMap] at hc
  obtain ⟨i, hi, hc⟩ := hc
  rw [List.mem_range] at hi
  have h1 := rowL_good (k := i) hg (by omega)
  have h2 := rowL_good (k := i) hg' (by omega)
  unfold goodL at h1 h2
  rw [Bool.and_eq_true, List.all_eq_true] at h1 h2
  rcases List.mem_append.1 hc with h | h
  · exact h1.2 c h
  · exact h2.2 c h
theorem rowsB_small {R C C' : Int} {l m : List (Int × Int)} (hg : goodB R C l = true) (hg' : goodB R C' m = true) {k : Nat} (hk : (k : Int) ≤ R) : (rowsB C l C' m k).length ≤ 180 := by
  rw [rowsB_len hg hg' hk]
  obtain ⟨s1, s2, s3, s4⟩ := sizeB_iff.1 (goodB_iff.1 hg).1
  obtain ⟨t1, t2, t3, t4⟩ := sizeB_iff.1 (goodB_iff.1 hg').1
  have h1 : k ≤ 10 := by omega
  have h2 : C.toNat + C'.toNat ≤ 18 := by omega
  calc k * (C.toNat + C'.toNat) ≤ 10 * 18 := Nat.mul_le_mul h1 h2
    _ = 180 := rfl
def okBeside (R C : Int) (l : List (Int × Int)) (R' C' : Int) (m : List (Int × Int)) : Bool := goodB R C l && goodB R' C' m && decide (R = R' ∧ C + C' ≤ 9)
def besideL (R C : Int) (l : List (Int × Int)) (R' C' : Int) (m : List (Int × Int)) : List (Int × Int) := if okBeside R C l R' C' m then rowsB C l C' m R.toNat else []
theorem besideL_len (R C : Int) (l : List (Int × Int)) (R' C' : Int) (m : List (Int × Int)) : (besideL R C l R' C' m).length ≤ 1048576 := by
  unfold besideL
  rcases Bool.eq_false_or_eq_true (okBeside R C l R' C' m) with h | h
  · rw [h, if_pos rfl]
    unfold okBeside at h
    simp only [Bool.and_eq_true, decide_eq_true_eq] at h
    obtain ⟨⟨h1, h2⟩, rfl, _⟩ := h
    have h3 := (sizeB_iff.1 (goodB_iff.1 h1).1).1
    have := rowsB_small h1 h2 (k := R.toNat) (by omega)
    omega
  · rw [h]; simp
theorem good_beside {R C C' : Int} {l m : List (Int × Int)} (hg : goodB R C l = true) (hg' : goodB R C' m = true) (hc : C + C' ≤ 9) : goodB R (C + C') (rowsB C l C' m R.toNat) = true := by
  obtain ⟨s1, s2, s3, s4⟩ := sizeB_iff.1 (goodB_iff.1 hg).1
  obtain ⟨t1, t2, t3, t4⟩ := sizeB_iff.1 (goodB_iff.1 hg').1
  refine goodB_iff.2 ⟨sizeB_iff.2 (by omega), ?_, rowsB_all hg hg' (by omega)⟩
  rw [rowsB_len hg hg' (by omega)]
  obtain ⟨n, rfl⟩ : ∃ n : Nat, C = (n : Int) := ⟨C.toNat, by omega⟩
  obtain ⟨n', rfl⟩ : ∃ n : Nat, C' = (n : Int) := ⟨C'.toNat, by omega⟩
  obtain ⟨r, rfl⟩ : ∃ r : Nat, R = (r : Int) := ⟨R.toNat, by omega⟩
  simp only [Int.toNat_natCast]
  push_cast
  rfl
theorem bad_beside {R C C' : Int} {l : List (Int × Int)} (hc : ¬ C + C' ≤ 9) : goodB R (C + C') l = false := goodB_size (by unfold sizeB; simp; omega)
theorem run_make0 (n : Nat) (hn : n ≤ 1048576) (w : World) :
    (Instr.makeSlice 23 (.int .i64 0) (.int .i64 (n : Int))).run Tryz.prog w = .ok (.slice (some ⟨w.heap.size, 0, none⟩) 0 n) (w.alloc (.cells (zrow (2 * n)).toArray 86)) := by
  obtain ⟨i0, hi, hz0, hz1, hz2⟩ := info_parts cellInfo
  have h := run_make (P := Tryz.prog) w 23 86 i0 _ Tryz.underlying23 hi hz0 .i64 .i64 0 (n : Int) (by omega) (by omega) (by rw [hz2]; omega) (by omega)
  rw [hz1] at h
  simp only [Int.toNat_natCast] at h
  rw [h, made_cells]
  rfl
theorem made_row (w : World) (n : Nat) (hn : n ≤ maxLen) : (w.alloc (.cells (zrow (2 * n)).toArray 86)).ownsRow w.heap.size 86 2 (.slice (some ⟨w.heap.size, 0, none⟩) 0 n) 0 [] :=
  ⟨rfl, .inr ⟨w.heap.size, n, (zrow (2 * n)).toArray, rfl, Nat.le_refl _, heap_alloc_new w _, Nat.zero_le _, hn, by simp [zrow]; omega, by rw [Nat.zero_mul, List.take_zero]⟩⟩
end Go.Proofs.YtlnekfbhpfhcpaaGreat
namespace Go.Proofs.YtlnekfbhpfhcpaaGreat
open Go.ChangeShapes Go.WideShapes Go.ChangeAt Go.RowKit Go.Joins Go.Deep
set_option linter.unusedSimpArgs false
set_option linter.unusedVariables false
set_option maxRecDepth 100000
set_option maxHeartbeats 1000000
/-- Bytes as words. -/
def bytesV (l : List Int) : List Value := l.map (fun x => .int .u8 x)
/-- Block p is a cursor that has drawn at most n bytes. -/
def Cr (w : World) (p n : Nat) : Prop := ∃ (A : Option Addr) (cap : Nat) (l : List Int) (k : Nat) (sd : Int), l.length ≤ 9223372036854775807 ∧ (∀ x, x ∈ l → 0 ≤ x ∧ x ≤ 255) ∧ k ≤ n ∧ 0 ≤ sd ∧ sd < 18446744073709551616 ∧ Rd w p A (bytesV l) ∧ Whole w p 63 [.slice A l.length cap, .int .i64 k, .int .u64 sd]
theorem Cr.lt {w : World} {p n : Nat} (h : Cr w p n) : p < w.heap.size := by
  obtain ⟨A, cap, l, k, sd, -, -, -, -, -, -, hw⟩ := h
  exact hw.lt
theorem Cr.mono {w : World} {p n m : Nat} (h : Cr w p n) (hm : n ≤ m) : Cr w p m := by
  obtain ⟨A, cap, l, k, sd, h1, h2, h3, h4, h5, h6, hw⟩ := h
  exact ⟨A, cap, l, k, sd, h1, h2, Nat.le_trans h3 hm, h4, h5, h6, hw⟩
/-- What turns elsewhere above the cursor leaves it. -/
theorem Cr.keep {w w' : World} {p n : Nat} {row : Option Nat} (h : Cr w p n) (hg : w.grownBy w' row) (hr : ∀ j, row = some j → p < j) : Cr w' p n := by
  have hlt := h.lt
  obtain ⟨A, cap, l, k, sd, h1, h2, h3, h4, h5, h6, hw⟩ := h
  have hb : Below (p + 1) w w' := ⟨hg.os, hg.tape, hg.output, hg.size, fun i hi => hg.block i (by omega) (fun e => by have := hr i e.symm; omega)⟩
  exact ⟨A, cap, l, k, sd, h1, h2, h3, h4, h5, h6.below (hb.mono (by omega)), (hb.block p (by omega)).trans hw⟩
theorem grown_under {w w' : World} {p B : Nat} (hg : w.grownBy w' (some p)) (hB : B ≤ p) (hs : B ≤ w.heap.size) : Below B w w' :=
  ⟨hg.os, hg.tape, hg.output, hg.size, fun i hi => hg.block i (by omega) (fun e => by cases e; omega)⟩
theorem below_grown {w w' : World} {row : Option Nat} (hb : Below w.heap.size w w') : w.grownBy w' row :=
  ⟨hb.os, hb.tape, hb.output, hb.size, fun i hi _ => hb.block i hi⟩
theorem grown_set {w w' : World} {p j : Nat} {u : Value} (h : w.grownBy w' (some p)) : w.grownBy (w'.setCell ⟨p, j, none⟩ u) (some p) := only_setCell h j u
theorem grown_drew {w w' : World} {row : Option Nat} (h : w.grownBy w' row) (n : Nat) : w.grownBy (w'.drewN n) row := h.trans (below_grown (below_drewN (Below.refl _ _) n))
/-- What is new above w may turn. -/
theorem grown_set_new {w w' : World} {row : Option Nat} {g j : Nat} {u : Value} (h : w.grownBy w' row) (hg : w.heap.size ≤ g) : w.grownBy (w'.setCell ⟨g, j, none⟩ u) row :=
  ⟨h.os, h.tape, h.output, by simpa [World.setCell] using h.size, fun i hi hne => (Below.heap_setCell w' ⟨g, j, none⟩ u i (fun e => by have e2 : i = g := e; omega)).trans (h.block i hi hne)⟩
theorem Own.grownC {w w' : World} {A : Option Addr} {t : TypeId} {xs : List Value} {p : Nat} (h : Own w A t xs) (hg : w.grownBy w' (some p)) (hne : ∀ a, A = some a → a.block ≠ p) : Own w' A t xs := fun hx => by
  obtain ⟨g, rest, e, hw⟩ := h hx
  exact ⟨g, rest, e, (hg.block g hw.lt (fun e' => by cases e'; exact hne _ e rfl)).trans hw⟩
theorem Whole.grownC {w w' : World} {g : Nat} {t : TypeId} {xs : List Value} {p : Nat} (h : Whole w g t xs) (hg : w.grownBy w' (some p)) (hne : g ≠ p) : Whole w' g t xs :=
  (hg.block g h.lt (fun e => by cases e; exact hne rfl)).trans h
theorem Whole.drew {w : World} {g : Nat} {t : TypeId} {xs : List Value} (h : Whole w g t xs) (n : Nat) : Whole (w.drewN n) g t xs := h.below (below_drewN (Below.refl _ _) n) h.lt
theorem wrap64_id {n : Int} (h : 0 ≤ n) (h' : n ≤ 255) : wrap64 n = n := by unfold wrap64; omega
theorem u64w (x : Int) : 0 ≤ IntKind.u64.wrap x ∧ IntKind.u64.wrap x < 18446744073709551616 := by rw [IntKind.wrap_u64]; omega
theorem and255 {x : Int} (h0 : 0 ≤ x) (h1 : x < 18446744073709551616) : 0 ≤ wrap64 (bits .and .u64 x 255) ∧ wrap64 (bits .and .u64 x 255) ≤ 255 := by
  obtain ⟨a, rfl⟩ := Int.eq_ofNat_of_zero_le h0
  rw [show (255 : Int) = ((255 : Nat) : Int) from rfl, bits_and_u64_nat _ _ (by omega) (by omega)]
  have := Nat.and_le_right (n := a) (m := 255)
  rw [wrap64_id (by omega) (by omega)]
  omega
theorem byte_at {w : World} {p : Nat} {A : Option Addr} {l : List Int} (h : Rd w p A (bytesV l)) {i : Nat} (hi : i < l.length) : ∃ b o, A = some ⟨b, o, none⟩ ∧ b < p ∧ w.cell? ⟨b, o + i, none⟩ = some (.int .u8 l[i]) := by
  obtain ⟨b, o, e, hlt, hc⟩ := h (by rw [bytesV, List.length_map]; omega)
  exact ⟨b, o, e, hlt, hc i _ (by rw [bytesV, List.getElem?_map, List.getElem?_eq_getElem hi]; rfl)⟩
theorem next_any (p n : Nat) (w : World) (h : Cr w p n) (hn : n ≤ 1048576) :
    Calls Tryz.prog 76 #[.pointer (some ⟨p, 0, none⟩)] w fun e w' => ∃ x : Int, e = .returned (.int .i64 x) ∧ 0 ≤ x ∧ x ≤ 255 ∧ Cr w' p (n + 1) ∧ w.grownBy w' (some p) := by
  obtain ⟨A, cap, l, k, sd, h1, h2, h3, h4, h5, h6, hw⟩ := h
  have HN := Lib.hid h3
  have HR := Lib.hid h6
  have H2 := Lib.hid h2
  clear h3 h6 h2
  have k0 : w.cell? ⟨p, 0, none⟩ = some (.slice A l.length cap) := (hw.cell 0).trans rfl
  have k1 : w.cell? ⟨p, 1, none⟩ = some (.int .i64 k) := (hw.cell 1).trans rfl
  have k2 : w.cell? ⟨p, 2, none⟩ = some (.int .u64 sd) := (hw.cell 2).trans rfl
  have f1 := hw.frozen 1
  have f2 := hw.frozen 2
  have hk : k ≤ 1048576 := Nat.le_trans HN.out hn
  go_enter Tryz.func76, Tryz.ntmps76
  by_cases hlt : k < l.length
  · obtain ⟨b, o, rfl, hb, hc⟩ := byte_at HR.out hlt
    have hi : (k : Int) < (l.length : Int) := by omega
    have hle : (k : Int) + 1 ≤ (l.length : Int) := by omega
    have hx := H2.out _ (List.getElem_mem hlt)
    have hwx : wrap64 l[k] = l[k] := wrap64_id (by omega) (by omega)
    go_wp2
    go_quiet (fail)
    go_wp2
    go_quiet (fail)
    go_wp2
    go_quiet (fail)
    go_wp2
    go_returns
    refine ⟨_, rfl, hx.1, hx.2, ⟨_, cap, l, k + 1, _, h1, H2.out, by have := HN.out; omega, (u64w _).1, (u64w _).2, HR.out.below (by (repeat' (first | (with_reducible exact Below.refl _ _) | (with_reducible assumption) | (with_reducible refine Below.alloc ?_ ?_ _) | (with_reducible refine Below.setCell ?_ ?_ _) | (with_reducible refine Below.drew ?_) | (with_reducible refine below_drewN ?_ _) | (with_reducible refine Below.trans ?_ (Below.mono (by assumption) ?_)) | (with_reducible exact Nat.le_refl _) | (simp; done) | omega | (simp at *; omega)))), (((hw.drew _).set 1 _).set 2 _).drew _⟩, grown_drew (grown_set (grown_set (grown_drew (World.grownBy.refl w _) _)) ) _⟩
  · have hi : decide ((k : Int) < (l.length : Int)) = false := by simp; omega
    have hle : decide ((k : Int) + 1 ≤ (l.length : Int)) = false := by simp; omega
    go_wp2
    go_quiet (fail)
    go_wp2
    go_quiet (fail)
    go_wp2
    go_returns
    refine ⟨_, rfl, (and255 (Int.ediv_nonneg (u64w _).1 (by decide)) (by have := (u64w (IntKind.u64.wrap (IntKind.u64.wrap (sd * 6364136223846793005)) + 1442695040888963407)).2; omega)).1, (and255 (Int.ediv_nonneg (u64w _).1 (by decide)) (by have := (u64w (IntKind.u64.wrap (IntKind.u64.wrap (sd * 6364136223846793005)) + 1442695040888963407)).2; omega)).2, ⟨_, cap, l, k + 1, _, h1, H2.out, by have := HN.out; omega, (u64w _).1, (u64w _).2, HR.out.below (by (repeat' (first | (with_reducible exact Below.refl _ _) | (with_reducible assumption) | (with_reducible refine Below.alloc ?_ ?_ _) | (with_reducible refine Below.setCell ?_ ?_ _) | (with_reducible refine Below.drew ?_) | (with_reducible refine below_drewN ?_ _) | (with_reducible refine Below.trans ?_ (Below.mono (by assumption) ?_)) | (with_reducible exact Nat.le_refl _) | (simp; done) | omega | (simp at *; omega)))), (((hw.drew _).set 1 _).set 2 _).drew _⟩, grown_drew (grown_set (grown_set (grown_drew (World.grownBy.refl w _) _)) ) _⟩
theorem pick_any (p n : Nat) (m : Int) (w : World) (h : Cr w p n) (hn : n ≤ 1000000) (hm : 1 ≤ m) (hM : m ≤ 1048576) :
    Calls Tryz.prog 51 #[.pointer (some ⟨p, 0, none⟩), .int .i64 m] w fun e w' => ∃ x : Int, e = .returned (.int .i64 x) ∧ 0 ≤ x ∧ x < m ∧ Cr w' p (n + 2) ∧ w.grownBy w' (some p) := by
  go_enter Tryz.func51, Tryz.ntmps51
  by_cases h1 : m ≤ 1
  · go_wp2
    go_returns
    exact ⟨0, rfl, by omega, by omega, h.mono (by omega), World.grownBy.refl w _⟩
  · go_wp2_with fail; refine (next_any p n _ h (by omega)).mono ?_; rintro e w1 ⟨x, rfl, x0, x1, c1, g1⟩
    by_cases h2 : 200 < m
    · go_wp2_with fail; refine (next_any p (n + 1) _ c1 (by omega)).mono ?_; rintro e w2 ⟨y, rfl, y0, y1, c2, g2⟩
      go_wp2
      go_returns
      exact ⟨_, rfl, Int.emod_nonneg _ (by omega), Int.emod_lt_of_pos _ (by omega), c2, g1.trans g2⟩
    · go_wp2
      go_returns
      exact ⟨_, rfl, Int.emod_nonneg _ (by omega), Int.emod_lt_of_pos _ (by omega), c1.mono (by omega), g1⟩
theorem one_any (p n : Nat) (m : Int) (w : World) (h : Cr w p n) (hn : n ≤ 1000000) (hm : 1 ≤ m) (hM : m ≤ 1048576) :
    Calls Tryz.prog 54 #[.pointer (some ⟨p, 0, none⟩), .int .i64 m] w fun e w' => ∃ b : Bool, e = .returned (.bool b) ∧ Cr w' p (n + 2) ∧ w.grownBy w' (some p) := by
  go_enter Tryz.func54, Tryz.ntmps54
  go_wp2_with fail; refine (pick_any p n m _ h hn hm hM).mono ?_; rintro e w1 ⟨x, rfl, x0, x1, c1, g1⟩
  go_wp2
  go_returns
  exact ⟨_, rfl, c1, g1⟩
theorem among_any (p n : Nat) (A : Option Addr) (cap : Nat) (l : List Int) (w : World) (h : Cr w p n) (hn : n ≤ 1000000) (hl : 1 ≤ l.length) (hL : l.length ≤ 1048576) (hr : Rd w w.heap.size A (ints l)) (hne : ∀ a, A = some a → a.block ≠ p) :
    Calls Tryz.prog 52 #[.pointer (some ⟨p, 0, none⟩), .slice A l.length cap] w fun e w' => ∃ x : Int, e = .returned (.int .i64 x) ∧ x ∈ l ∧ Cr w' p (n + 2) ∧ w.grownBy w' (some p) := by
  obtain ⟨b, o, rfl, hb, hc⟩ := hr (by rw [ints_length]; omega)
  have hbp := hne _ rfl
  go_enter Tryz.func52, Tryz.ntmps52
  go_wp2_with fail; refine (pick_any p n l.length _ h hn (by omega) (by omega)).mono ?_; rintro e w1 ⟨x, rfl, x0, x1, c1, g1⟩
  obtain ⟨k, rfl⟩ := Int.eq_ofNat_of_zero_le x0
  have hk : k < l.length := by omega
  have k0 : w1.cell? ⟨b, o + k, none⟩ = some (.int .i64 l[k]) := by
    exact g1.cell (hc k _ (ints_at l k hk)) (by simpa using hbp)
  go_wp2
  go_returns
  exact ⟨_, rfl, List.getElem_mem hk, c1, g1⟩
end Go.Proofs.YtlnekfbhpfhcpaaGreat
namespace Go.Proofs.YtlnekfbhpfhcpaaGreat
open Go.ChangeShapes Go.WideShapes Go.ChangeAt Go.RowKit Go.Joins Go.Deep
set_option linter.unusedSimpArgs false
set_option linter.unusedVariables false
set_option maxRecDepth 100000
set_option maxHeartbeats 400000
/-- A valid cell is one of ten. -/
theorem good_cases {P : Int → Int → Prop} (h00 : P 0 0) (h10 : P 1 0) (h20 : P 2 0) (h30 : P 3 0) (h31 : P 3 1) (h40 : P 4 0) (h50 : P 5 0) (h60 : P 6 0) (h61 : P 6 1) (h70 : P 7 0) (a b : Int) (h : good a b = true) : P a b := by
  unfold good at h
  simp only [decide_eq_true_eq] at h
  obtain ⟨h1, h2, h3⟩ := h
  have ha : a = 0 ∨ a = 1 ∨ a = 2 ∨ a = 3 ∨ a = 4 ∨ a = 5 ∨ a = 6 ∨ a = 7 := by omega
  rcases ha with rfl | rfl | rfl | rfl | rfl | rfl | rfl | rfl <;> rcases h3 with rfl | ⟨rfl, h3⟩ <;> first | assumption | (exfalso; omega)
def letB (a b : Int) : UInt8 := if b = 1 then (if a = 3 then 70 else 71) else if a = 0 then 46 else if a = 1 then 108 else if a = 2 then 114 else if a = 3 then 102 else if a = 4 then 120 else if a = 5 then 111 else if a = 6 then 103 else 99
def selS (ok : Bool) (s : ByteArray) : ByteArray := if ok then s else ⟨#[]⟩
theorem ret_strb {a c : ByteArray} {x y : Bool} (h : x = y) (h1 : y = true → a = c) (h3 : y = false → a = ⟨#[]⟩) :
    Ending.returned (.tuple #[.string a, .bool x]) = .returned (.tuple #[.string (selS y c), .bool y]) := by
  subst h
  cases x
  · rw [h3 rfl]; rfl
  · rw [h1 rfl]; rfl
theorem enc_letB (a b : Int) (h : good a b = true) : Utf8.encode (letB a b).toNat = ⟨#[letB a b]⟩ :=
  good_cases (P := fun a b => Utf8.encode (letB a b).toNat = ⟨#[letB a b]⟩) (by decide +kernel) (by decide +kernel) (by decide +kernel) (by decide +kernel) (by decide +kernel) (by decide +kernel) (by decide +kernel) (by decide +kernel) (by decide +kernel) (by decide +kernel) a b h
end Go.Proofs.YtlnekfbhpfhcpaaGreat
namespace Go.Proofs.YtlnekfbhpfhcpaaGreat
open Go.ChangeShapes Go.WideShapes Go.ChangeAt Go.RowKit Go.Joins Go.Deep
set_option linter.unusedSimpArgs false
set_option linter.unusedVariables false
set_option maxRecDepth 100000
set_option maxHeartbeats 400000
def allOf (k : Nat) : List (Int × Int) := if k = 3 ∨ k = 6 then [((k : Int), 0), ((k : Int), 1)] else [((k : Int), 0)]
def allTo (k : Nat) : List (Int × Int) := (List.range k).flatMap allOf
theorem allTo_succ (k : Nat) : allTo (k + 1) = allTo k ++ allOf k := by simp [allTo, List.range_succ]
theorem allTo_le (k : Nat) : (allTo k).length ≤ 2 * k := by
  induction k with
  | zero => simp [allTo]
  | succ k ih =>
    rw [allTo_succ, List.length_append]
    have : (allOf k).length ≤ 2 := by unfold allOf; split <;> simp
    omega
theorem spec_paAll (w : World) :
    Calls Tryz.prog 94 #[] w fun e w' => ∃ A cap, e = .returned (.slice A (allTo 8).length cap) ∧ Own w' A 86 (flat (allTo 8)) ∧ New w A ∧ Below w.heap.size w w' := by
  obtain ⟨i0, hi, hz0, hz1, hz2⟩ := info_parts cellInfo
  go_enter Tryz.func94, Tryz.ntmps94
  go_wp2
  go_loopw [1, 2] (fun v i wr => ∃ k : Nat, k ≤ 8 ∧ i = .int .i64 k ∧ wr.ownsRow w.heap.size 86 2 v (allTo k).length (flat (allTo k)) ∧ Below w.heap.size w wr) (fun _ i _ => 8 - (intOf i).toNat)
  case atStart => exact ⟨0, Nat.zero_le _, rfl, World.ownsRow_nil _ _ _ _, Below.refl _ _⟩
  case round =>
    obtain ⟨k, hk, rfl, hown, hb⟩ := hrel
    by_cases hlt : k < 8
    · have hle := allTo_le k
      have hs := hb.size
      go_wp2_with (first | (at_builtin; refine wpList_append_own _ rfl (.tmp 8) (.tmp 11) 23 rfl w.heap.size 86 i0 _ 2 16 Tryz.underlying23 hi hz0 hz1 hz2 rfl (by omega) _ (allTo k).length (flat (allTo k)) rfl (hown.alloc _) ⟨wr.heap.size, 0, none⟩ 1 1 [.int .i64 (k : Int), .int .i64 0] rfl rfl two_cells two_one (by unfold maxLen; omega) (by omega) (by simp; omega) ?_; intro v1 w1 hown1 hg1 _) | fail)
      have hb1 : Below w.heap.size w w1 := row_below (hown.alloc _) (hb.alloc hs _) (by simp; omega) hg1
      have hs1 := hb1.size
      clear hg1 hown hb
      rcases Bool.eq_false_or_eq_true (turning (k : Int)) with ht | ht
      · have hall : allOf k = [((k : Int), 0), ((k : Int), 1)] := by unfold turning at ht; simp at ht; unfold allOf; rw [if_pos (by omega)]
        have HA := Lib.hid hall
        refine (spec_paTurning _ _ _).mono ?_; rintro e w2 ⟨rfl, b2⟩
        rw [ht]
        clear ht hall
        obtain ⟨c2, f2⟩ := bcell b2
        have z2 : w1.heap.size < w2.heap.size := by have := b2.size; simp at this; omega
        have hown2 := row_keep (hown1.alloc _) b2
        have hb2 : Below w.heap.size w w2 := (hb1.alloc hs1 _).trans (b2.mono (by simp; omega))
        clear b2 hown1 hb1
        go_wp2_with (first | (at_builtin; refine wpList_append_own _ rfl (.tmp 17) (.tmp 19) 23 rfl w.heap.size 86 i0 _ 2 16 Tryz.underlying23 hi hz0 hz1 hz2 rfl (by omega) v1 ((allTo k).length + 1) _ rfl (hown2.alloc _) ⟨w2.heap.size, 0, none⟩ 1 1 [.int .i64 (k : Int), .int .i64 1] rfl rfl two_cells two_one (by unfold maxLen; omega) (by omega) (by simp; omega) ?_; intro v3 w3 hown3 hg3 _) | fail)
        have hb3 : Below w.heap.size w w3 := row_below (hown2.alloc _) (hb2.alloc (by omega) _) (by simp; omega) hg3
        clear hown2 hb2 hg3 c2 f2
        go_roundw
        case rel =>
          refine ⟨k + 1, by omega, by go_num, ?_, hb3⟩
          rw [allTo_succ, HA.out, flat_append, List.length_append]
          rw [List.append_assoc] at hown3
          exact hown3
        case measure => simp [intOf]; omega
      · have hall : allOf k = [((k : Int), 0)] := by unfold turning at ht; simp at ht; unfold allOf; rw [if_neg (by omega)]
        have HA := Lib.hid hall
        refine (spec_paTurning _ _ _).mono ?_; rintro e w2 ⟨rfl, b2⟩
        rw [ht]
        clear ht hall
        have hown2 := row_keep (hown1.alloc _) b2
        have hb2 : Below w.heap.size w w2 := (hb1.alloc hs1 _).trans (b2.mono (by simp; omega))
        clear b2 hown1 hb1
        go_wp2
        go_roundw
        case rel =>
          refine ⟨k + 1, by omega, by go_num, ?_, hb2⟩
          rw [allTo_succ, HA.out, flat_append, List.length_append]
          exact hown2
        case measure => simp [intOf]; omega
    · obtain rfl : k = 8 := by omega
      have hv : ∃ A cap, u1 = .slice A (allTo 8).length cap := by
        rcases hown.2 with ⟨rfl, h0⟩ | ⟨g, cap, _, rfl, _⟩
        · exact ⟨none, 0, by rw [h0]⟩
        · exact ⟨_, _, rfl⟩
      obtain ⟨A, cap, rfl⟩ := hv
      have ho := own_of_row hown
      go_wp2
      go_returns
      exact ⟨A, cap, rfl, ho.1, ho.2, hb⟩
/-- Every cell of the row is valid. -/
theorem allTo_good : ∀ c ∈ allTo 8, good c.1 c.2 = true := by decide +kernel
/-- Whether a cell has this text as its letter. -/
def isLet (s : ByteArray) (c : Int × Int) : Bool := [letB c.1 c.2] == s.toList
def rdC (s : ByteArray) : Option (Int × Int) := (allTo 8).find? (isLet s)
def rdK (s : ByteArray) : Int := ((rdC s).getD (0, 0)).1
def rdS (s : ByteArray) : Int := ((rdC s).getD (0, 0)).2
theorem find_step {l : List (Int × Int)} {p : Int × Int → Bool} {k : Nat} (h : k < l.length) (hk : ∀ c ∈ l.take k, p c = false) (hp : p l[k] = false) : ∀ c ∈ l.take (k + 1), p c = false := by
  rw [List.take_succ_eq_append_getElem h]
  intro c hc
  rcases List.mem_append.1 hc with h1 | h1
  · exact hk c h1
  · rw [List.mem_singleton] at h1
    rw [h1]
    exact hp
theorem find_hit {l : List (Int × Int)} {p : Int × Int → Bool} {k : Nat} (h : k < l.length) (hk : ∀ c ∈ l.take k, p c = false) (hp : p l[k] = true) : l.find? p = some l[k] := by
  rw [List.find?_eq_some_iff_getElem]
  refine ⟨hp, k, h, rfl, fun j hj => ?_⟩
  have := hk l[j] (List.mem_take_iff_getElem.2 ⟨j, by omega, rfl⟩)
  simp [this]
theorem find_miss {l : List (Int × Int)} {p : Int × Int → Bool} (hk : ∀ c ∈ l.take l.length, p c = false) : l.find? p = none := by
  rw [List.take_length] at hk
  rw [List.find?_eq_none]
  intro c hc
  simp [hk c hc]
theorem frozen_new (w : World) (cs : Array Value) (t : TypeId) (o : Nat) : (w.alloc (.cells cs t)).frozen? ⟨w.heap.size, o, none⟩ = false := by
  have h : (w.alloc (.cells cs t)).heap[w.heap.size]? = some (.cells cs t (0, 0)) := heap_alloc_new w _
  simp only [World.frozen?, h]
  rfl
end Go.Proofs.YtlnekfbhpfhcpaaGreat
