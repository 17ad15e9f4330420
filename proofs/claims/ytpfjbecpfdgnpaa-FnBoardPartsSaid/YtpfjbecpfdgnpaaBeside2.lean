/- BesideBoards, the model: the region that appends to a field, walked in every order. -/
import Derived.Deep.RegionLaw
import Derived.Deep.AppendLies
import Derived.Test.YtpfjbecpfdgnpaaBeside
namespace Go.Proofs.Ytpfjbecpfdgnpaa
open Go.ChangeShapes Go.WideShapes Go.ChangeAt Go.RowKit Go.Joins Go.Deep
set_option linter.unusedSimpArgs false
set_option linter.unusedVariables false
set_option maxRecDepth 100000
set_option maxHeartbeats 8000000
theorem row_setFar {w : World} {base : Nat} {e : TypeId} {size n : Nat} {v : Value} {xs : List Value} (h : w.ownsRow base e size v n xs) (p : Addr) (u : Value) (hne : some p.block ≠ v.ownBlock) : (w.setCell p u).ownsRow base e size v n xs := by
  refine ⟨h.1, ?_⟩
  rcases h.2 with h2 | ⟨g, cap, cur, rfl, h2, hh, h3⟩
  · exact .inl h2
  · have hne' : g ≠ p.block := fun e' => hne (by simp [Value.ownBlock, e'])
    exact .inr ⟨g, cap, cur, rfl, h2, (Below.heap_setCell w p u g hne').trans hh, h3⟩
theorem spec_BesideBoards_bad1 (R C : Int) (A : Option Addr) (cap : Nat) (l : List (Int × Int)) (R' C' : Int) (A' : Option Addr) (cap' : Nat) (m : List (Int × Int)) (w : World) (hg : goodB R C l = false) (hn : l.length ≤ 1048576) (hr : Rd w w.heap.size A (flat l)) (hm : m.length ≤ 1048576) (hr' : Rd w w.heap.size A' (flat m)) : Calls Try.prog 22 #[.agg #[.int .i64 R, .int .i64 C, .slice A l.length cap], .agg #[.int .i64 R', .int .i64 C', .slice A' m.length cap']] w (PostB w 0 0 [] false) := by
  have HG := Lib.hid hg
  clear hg
  go_enter Try.func22, Try.ntmps22
  obtain ⟨v0, hv0, X0, X1, X2, B0, hz0⟩ := three_boxes w [.int .i64 R, .int .i64 C, .slice A l.length cap] 25 [.int .i64 R', .int .i64 C', .slice A' m.length cap'] 25 [.int .i64 0, .int .i64 0, .slice none 0 0] 25; have HV := Lib.hid hv0; have hx : w.heap.size + 1 + 1 < v0.heap.size := (by omega); have hz : w.heap.size + 1 < v0.heap.size := (by omega); have hy : w.heap.size < v0.heap.size := (by omega); have hb0 := B0.size; clear hv0 hz0; go_wp2_with fail; rewrite [show ((w.alloc (.cells ([.int .i64 R, .int .i64 C, .slice A l.length cap] : List Value).toArray 25)).alloc (.cells ([.int .i64 R', .int .i64 C', .slice A' m.length cap'] : List Value).toArray 25)).alloc (.cells ([.int .i64 0, .int .i64 0, .slice none 0 0] : List Value).toArray 25) = v0 from HV.out]; clear HV
  refine (spec_boGood _ _ _ _ l _ hn ((hr.below B0).mono B0.size)).mono ?_; rintro e w1 ⟨rfl, b1⟩
  rewrite [HG.out]
  replace X0 := X0.below b1 X0.lt; replace X1 := X1.below b1 X1.lt; replace X2 := X2.below b1 X2.lt; replace B0 := B0.trans (b1.mono B0.size); have hy := X0.lt; have hz := X1.lt; have hx := X2.lt; have hb0 := B0.size; clear b1
  have X2k0 : w1.cell? ⟨w.heap.size + 1 + 1, 0, none⟩ = some (.int .i64 0) := (X2.cell 0).trans rfl; have X2k1 : w1.cell? ⟨w.heap.size + 1 + 1, 1, none⟩ = some (.int .i64 0) := (X2.cell 1).trans rfl; have X2k2 : w1.cell? ⟨w.heap.size + 1 + 1, 2, none⟩ = some (.slice none 0 0) := (X2.cell 2).trans rfl
  have X2f0 := X2.frozen 0; have X2f1 := X2.frozen 1; have X2f2 := X2.frozen 2
  go_wp2
  refine bodyPost_ret (v := .tuple #[.agg #[.int .i64 0, .int .i64 0, .slice none 0 0], .bool false]) ?_ rfl ?_; (focus (simp [results, Try.results22, go_sem, *]; done))
  exact PostB.none_ (by (repeat' (first | (with_reducible exact Below.refl _ _) | (with_reducible assumption) | (with_reducible refine Below.alloc ?_ ?_ _) | (with_reducible refine Below.setCell ?_ ?_ _) | (with_reducible refine Below.drew ?_) | (with_reducible refine below_drewN ?_ _) | (with_reducible refine Below.trans ?_ (Below.mono (by assumption) ?_)) | (with_reducible exact Nat.le_refl _) | (simp; done) | omega | (simp at *; omega))))
theorem spec_BesideBoards_bad2 (R C : Int) (A : Option Addr) (cap : Nat) (l : List (Int × Int)) (R' C' : Int) (A' : Option Addr) (cap' : Nat) (m : List (Int × Int)) (w : World) (hg : goodB R C l = true) (hg' : goodB R' C' m = false) (hn : l.length ≤ 1048576) (hr : Rd w w.heap.size A (flat l)) (hm : m.length ≤ 1048576) (hr' : Rd w w.heap.size A' (flat m)) : Calls Try.prog 22 #[.agg #[.int .i64 R, .int .i64 C, .slice A l.length cap], .agg #[.int .i64 R', .int .i64 C', .slice A' m.length cap']] w (PostB w 0 0 [] false) := by
  have HG := Lib.hid hg
  have HG' := Lib.hid hg'
  clear hg hg'
  go_enter Try.func22, Try.ntmps22
  obtain ⟨v0, hv0, X0, X1, X2, B0, hz0⟩ := three_boxes w [.int .i64 R, .int .i64 C, .slice A l.length cap] 25 [.int .i64 R', .int .i64 C', .slice A' m.length cap'] 25 [.int .i64 0, .int .i64 0, .slice none 0 0] 25; have HV := Lib.hid hv0; have hx : w.heap.size + 1 + 1 < v0.heap.size := (by omega); have hz : w.heap.size + 1 < v0.heap.size := (by omega); have hy : w.heap.size < v0.heap.size := (by omega); have hb0 := B0.size; clear hv0 hz0; go_wp2_with fail; rewrite [show ((w.alloc (.cells ([.int .i64 R, .int .i64 C, .slice A l.length cap] : List Value).toArray 25)).alloc (.cells ([.int .i64 R', .int .i64 C', .slice A' m.length cap'] : List Value).toArray 25)).alloc (.cells ([.int .i64 0, .int .i64 0, .slice none 0 0] : List Value).toArray 25) = v0 from HV.out]; clear HV
  refine (spec_boGood _ _ _ _ l _ hn ((hr.below B0).mono B0.size)).mono ?_; rintro e w1 ⟨rfl, b1⟩
  rewrite [HG.out]
  replace X0 := X0.below b1 X0.lt; replace X1 := X1.below b1 X1.lt; replace X2 := X2.below b1 X2.lt; replace B0 := B0.trans (b1.mono B0.size); have hy := X0.lt; have hz := X1.lt; have hx := X2.lt; have hb0 := B0.size; clear b1
  have X1k0 : w1.cell? ⟨w.heap.size + 1, 0, none⟩ = some (.int .i64 R') := (X1.cell 0).trans rfl; have X1k1 : w1.cell? ⟨w.heap.size + 1, 1, none⟩ = some (.int .i64 C') := (X1.cell 1).trans rfl; have X1k2 : w1.cell? ⟨w.heap.size + 1, 2, none⟩ = some (.slice A' m.length cap') := (X1.cell 2).trans rfl
  go_wp2_with fail
  refine (spec_boGood _ _ _ _ m _ hm ((hr'.below B0).mono B0.size)).mono ?_; rintro e w2 ⟨rfl, b2⟩
  rewrite [HG'.out]
  clear X1k0 X1k1 X1k2
  replace X0 := X0.below b2 X0.lt; replace X1 := X1.below b2 X1.lt; replace X2 := X2.below b2 X2.lt; replace B0 := B0.trans (b2.mono B0.size); have hy := X0.lt; have hz := X1.lt; have hx := X2.lt; have hb0 := B0.size; clear b2
  have X2k0 : w2.cell? ⟨w.heap.size + 1 + 1, 0, none⟩ = some (.int .i64 0) := (X2.cell 0).trans rfl; have X2k1 : w2.cell? ⟨w.heap.size + 1 + 1, 1, none⟩ = some (.int .i64 0) := (X2.cell 1).trans rfl; have X2k2 : w2.cell? ⟨w.heap.size + 1 + 1, 2, none⟩ = some (.slice none 0 0) := (X2.cell 2).trans rfl
  have X2f0 := X2.frozen 0; have X2f1 := X2.frozen 1; have X2f2 := X2.frozen 2
  go_wp2
  refine bodyPost_ret (v := .tuple #[.agg #[.int .i64 0, .int .i64 0, .slice none 0 0], .bool false]) ?_ rfl ?_; (focus (simp [results, Try.results22, go_sem, *]; done))
  exact PostB.none_ (by (repeat' (first | (with_reducible exact Below.refl _ _) | (with_reducible assumption) | (with_reducible refine Below.alloc ?_ ?_ _) | (with_reducible refine Below.setCell ?_ ?_ _) | (with_reducible refine Below.drew ?_) | (with_reducible refine below_drewN ?_ _) | (with_reducible refine Below.trans ?_ (Below.mono (by assumption) ?_)) | (with_reducible exact Nat.le_refl _) | (simp; done) | omega | (simp at *; omega))))
theorem spec_BesideBoards_rows (R C : Int) (A : Option Addr) (cap : Nat) (l : List (Int × Int)) (R' C' : Int) (A' : Option Addr) (cap' : Nat) (m : List (Int × Int)) (w : World) (hg : goodB R C l = true) (hg' : goodB R' C' m = true) (hc : ¬ R = R') (hn : l.length ≤ 1048576) (hr : Rd w w.heap.size A (flat l)) (hm : m.length ≤ 1048576) (hr' : Rd w w.heap.size A' (flat m)) : Calls Try.prog 22 #[.agg #[.int .i64 R, .int .i64 C, .slice A l.length cap], .agg #[.int .i64 R', .int .i64 C', .slice A' m.length cap']] w (PostB w 0 0 [] false) := by
  have HG := Lib.hid hg; have HG' := Lib.hid hg'; clear hg hg'
  have hcb : (R != R') = true := by simpa using hc
  clear hc
  go_enter Try.func22, Try.ntmps22
  obtain ⟨v0, hv0, X0, X1, X2, B0, hz0⟩ := three_boxes w [.int .i64 R, .int .i64 C, .slice A l.length cap] 25 [.int .i64 R', .int .i64 C', .slice A' m.length cap'] 25 [.int .i64 0, .int .i64 0, .slice none 0 0] 25; have HV := Lib.hid hv0; have hx : w.heap.size + 1 + 1 < v0.heap.size := (by omega); have hz : w.heap.size + 1 < v0.heap.size := (by omega); have hy : w.heap.size < v0.heap.size := (by omega); have hb0 := B0.size; clear hv0 hz0; go_wp2_with fail; rewrite [show ((w.alloc (.cells ([.int .i64 R, .int .i64 C, .slice A l.length cap] : List Value).toArray 25)).alloc (.cells ([.int .i64 R', .int .i64 C', .slice A' m.length cap'] : List Value).toArray 25)).alloc (.cells ([.int .i64 0, .int .i64 0, .slice none 0 0] : List Value).toArray 25) = v0 from HV.out]; clear HV
  refine (spec_boGood _ _ _ _ l _ hn ((hr.below B0).mono B0.size)).mono ?_; rintro e w1 ⟨rfl, b1⟩; rewrite [HG.out]; replace X0 := X0.below b1 X0.lt; replace X1 := X1.below b1 X1.lt; replace X2 := X2.below b1 X2.lt; replace B0 := B0.trans (b1.mono B0.size); have hy := X0.lt; have hz := X1.lt; have hx := X2.lt; have hb0 := B0.size; clear b1; have X1k0 : w1.cell? ⟨w.heap.size + 1, 0, none⟩ = some (.int .i64 R') := (X1.cell 0).trans rfl; have X1k1 : w1.cell? ⟨w.heap.size + 1, 1, none⟩ = some (.int .i64 C') := (X1.cell 1).trans rfl; have X1k2 : w1.cell? ⟨w.heap.size + 1, 2, none⟩ = some (.slice A' m.length cap') := (X1.cell 2).trans rfl; go_wp2_with fail; refine (spec_boGood _ _ _ _ m _ hm ((hr'.below B0).mono B0.size)).mono ?_; rintro e w2 ⟨rfl, b2⟩; rewrite [HG'.out]; clear X1k0 X1k1 X1k2; replace X0 := X0.below b2 X0.lt; replace X1 := X1.below b2 X1.lt; replace X2 := X2.below b2 X2.lt; replace B0 := B0.trans (b2.mono B0.size); have hy := X0.lt; have hz := X1.lt; have hx := X2.lt; have hb0 := B0.size; clear b2; have X1k0 : w2.cell? ⟨w.heap.size + 1, 0, none⟩ = some (.int .i64 R') := (X1.cell 0).trans rfl; have X1k1 : w2.cell? ⟨w.heap.size + 1, 1, none⟩ = some (.int .i64 C') := (X1.cell 1).trans rfl; have X1k2 : w2.cell? ⟨w.heap.size + 1, 2, none⟩ = some (.slice A' m.length cap') := (X1.cell 2).trans rfl; have X0k0 : w2.cell? ⟨w.heap.size, 0, none⟩ = some (.int .i64 R) := (X0.cell 0).trans rfl; have X0k1 : w2.cell? ⟨w.heap.size, 1, none⟩ = some (.int .i64 C) := (X0.cell 1).trans rfl; have X0k2 : w2.cell? ⟨w.heap.size, 2, none⟩ = some (.slice A l.length cap) := (X0.cell 2).trans rfl
  have X2k0 : w2.cell? ⟨w.heap.size + 1 + 1, 0, none⟩ = some (.int .i64 0) := (X2.cell 0).trans rfl; have X2k1 : w2.cell? ⟨w.heap.size + 1 + 1, 1, none⟩ = some (.int .i64 0) := (X2.cell 1).trans rfl; have X2k2 : w2.cell? ⟨w.heap.size + 1 + 1, 2, none⟩ = some (.slice none 0 0) := (X2.cell 2).trans rfl
  have X2f0 := X2.frozen 0; have X2f1 := X2.frozen 1; have X2f2 := X2.frozen 2
  go_wp2
  refine bodyPost_ret (v := .tuple #[.agg #[.int .i64 0, .int .i64 0, .slice none 0 0], .bool false]) ?_ rfl ?_; (focus (simp [results, Try.results22, go_sem, *]; done))
  exact PostB.none_ (by (repeat' (first | (with_reducible exact Below.refl _ _) | (with_reducible assumption) | (with_reducible refine Below.alloc ?_ ?_ _) | (with_reducible refine Below.setCell ?_ ?_ _) | (with_reducible refine Below.drew ?_) | (with_reducible refine below_drewN ?_ _) | (with_reducible refine Below.trans ?_ (Below.mono (by assumption) ?_)) | (with_reducible exact Nat.le_refl _) | (simp; done) | omega | (simp at *; omega))))
theorem spec_BesideBoards_post (R C : Int) (A : Option Addr) (cap : Nat) (l : List (Int × Int)) (R' C' : Int) (A' : Option Addr) (cap' : Nat) (m : List (Int × Int)) (w : World) (hg : goodB R C l = true) (hg' : goodB R C' m = true) (hn : l.length ≤ 1048576) (hr : Rd w w.heap.size A (flat l)) (hm : m.length ≤ 1048576) (hr' : Rd w w.heap.size A' (flat m)) (hcap : l.length ≤ cap) (hcap' : m.length ≤ cap') (Post : Ending → World → Prop) (hyes : C + C' ≤ 9 → PostB w R (C + C') (rowsB C l C' m R.toNat) true = Post) (hno : ¬ C + C' ≤ 9 → PostB w 0 0 [] false = Post) : Calls Try.prog 22 #[.agg #[.int .i64 R, .int .i64 C, .slice A l.length cap], .agg #[.int .i64 R, .int .i64 C', .slice A' m.length cap']] w Post := by
  obtain ⟨i0, hi, hz0, hz1, hz2⟩ := info_parts cellInfo
  obtain ⟨s1, s2, s3, s4⟩ := sizeB_iff.1 (goodB_iff.1 hg).1
  obtain ⟨_, _, t3, t4⟩ := sizeB_iff.1 (goodB_iff.1 hg').1
  obtain ⟨_, hl90, hlp⟩ := goodB_parts hg
  obtain ⟨_, hm90, hmp⟩ := goodB_parts hg'
  obtain ⟨b, o, rfl, hbl, hcc⟩ := hr (by rw [flat_length]; omega)
  obtain ⟨b', o', rfl, hbl', hcc'⟩ := hr' (by rw [flat_length]; omega)
  have hra : Rd w w.heap.size (some ⟨b, o, none⟩) (flat l) := fun _ => ⟨b, o, rfl, hbl, hcc⟩
  have hrb : Rd w w.heap.size (some ⟨b', o', none⟩) (flat m) := fun _ => ⟨b', o', rfl, hbl', hcc'⟩
  have HY := Lib.hid hyes
  have HNO := Lib.hid hno
  have m3 : IntKind.i64.wrap (C + C') = C + C' := IntWalk.i64_in (C + C') (by omega)
  clear hr hr' hcc hcc' hyes hno
  have HG := Lib.hid hg; have HG' := Lib.hid hg'; clear hg hg'
  go_enter Try.func22, Try.ntmps22
  obtain ⟨v0, hv0, X0, X1, X2, B0, hz0⟩ := three_boxes w [.int .i64 R, .int .i64 C, .slice (some ⟨b, o, none⟩) l.length cap] 25 [.int .i64 R, .int .i64 C', .slice (some ⟨b', o', none⟩) m.length cap'] 25 [.int .i64 0, .int .i64 0, .slice none 0 0] 25; have HV := Lib.hid hv0; have hx : w.heap.size + 1 + 1 < v0.heap.size := (by omega); have hz : w.heap.size + 1 < v0.heap.size := (by omega); have hy : w.heap.size < v0.heap.size := (by omega); have hb0 := B0.size; clear hv0 hz0; go_wp2_with fail; rewrite [show ((w.alloc (.cells ([.int .i64 R, .int .i64 C, .slice (some ⟨b, o, none⟩) l.length cap] : List Value).toArray 25)).alloc (.cells ([.int .i64 R, .int .i64 C', .slice (some ⟨b', o', none⟩) m.length cap'] : List Value).toArray 25)).alloc (.cells ([.int .i64 0, .int .i64 0, .slice none 0 0] : List Value).toArray 25) = v0 from HV.out]; clear HV
  refine (spec_boGood _ _ _ _ l _ hn ((hra.below B0).mono B0.size)).mono ?_; rintro e w1 ⟨rfl, b1⟩; rewrite [HG.out]; replace X0 := X0.below b1 X0.lt; replace X1 := X1.below b1 X1.lt; replace X2 := X2.below b1 X2.lt; replace B0 := B0.trans (b1.mono B0.size); have hy := X0.lt; have hz := X1.lt; have hx := X2.lt; have hb0 := B0.size; clear b1; have X1k0 : w1.cell? ⟨w.heap.size + 1, 0, none⟩ = some (.int .i64 R) := (X1.cell 0).trans rfl; have X1k1 : w1.cell? ⟨w.heap.size + 1, 1, none⟩ = some (.int .i64 C') := (X1.cell 1).trans rfl; have X1k2 : w1.cell? ⟨w.heap.size + 1, 2, none⟩ = some (.slice (some ⟨b', o', none⟩) m.length cap') := (X1.cell 2).trans rfl; go_wp2_with fail; refine (spec_boGood _ _ _ _ m _ hm ((hrb.below B0).mono B0.size)).mono ?_; rintro e w2 ⟨rfl, b2⟩; rewrite [HG'.out]; clear X1k0 X1k1 X1k2; replace X0 := X0.below b2 X0.lt; replace X1 := X1.below b2 X1.lt; replace X2 := X2.below b2 X2.lt; replace B0 := B0.trans (b2.mono B0.size); have hy := X0.lt; have hz := X1.lt; have hx := X2.lt; have hb0 := B0.size; clear b2; have X1k0 : w2.cell? ⟨w.heap.size + 1, 0, none⟩ = some (.int .i64 R) := (X1.cell 0).trans rfl; have X1k1 : w2.cell? ⟨w.heap.size + 1, 1, none⟩ = some (.int .i64 C') := (X1.cell 1).trans rfl; have X1k2 : w2.cell? ⟨w.heap.size + 1, 2, none⟩ = some (.slice (some ⟨b', o', none⟩) m.length cap') := (X1.cell 2).trans rfl; have X0k0 : w2.cell? ⟨w.heap.size, 0, none⟩ = some (.int .i64 R) := (X0.cell 0).trans rfl; have X0k1 : w2.cell? ⟨w.heap.size, 1, none⟩ = some (.int .i64 C) := (X0.cell 1).trans rfl; have X0k2 : w2.cell? ⟨w.heap.size, 2, none⟩ = some (.slice (some ⟨b, o, none⟩) l.length cap) := (X0.cell 2).trans rfl
  go_upto_region 4 with (fail)
  clear X0k0 X0k1 X0k2 X1k0 X1k1 X1k2
  have b2 : Below w2.heap.size w2 (w2.alloc (.cells #[.int .i64 R, .int .i64 (C + C'), .slice none 0 0] 25)) := (Below.refl _ _).alloc (Nat.le_refl _) _
  have X6 : Whole (w2.alloc (.cells #[.int .i64 R, .int .i64 (C + C'), .slice none 0 0] 25)) w2.heap.size 25 [.int .i64 R, .int .i64 (C + C'), .slice none 0 0] := heap_alloc_new w2 _
  replace X0 := X0.below b2 X0.lt
  replace X1 := X1.below b2 X1.lt
  replace X2 := X2.below b2 X2.lt
  replace B0 := B0.trans (b2.mono B0.size)
  clear b2
  generalize w2.alloc (.cells #[.int .i64 R, .int .i64 (C + C'), .slice none 0 0] 25) = w3 at *
  have hGlt := X6.lt
  generalize w2.heap.size = G at *
  go_wp2
  go_loopw [7] (fun i wr => ∃ (k : Nat) (A : Option Addr) (c : Nat), (k : Int) ≤ R ∧ i = .int .i64 k ∧ wr.ownsRow w.heap.size 27 2 (.slice A (rowsB C l C' m k).length c) (rowsB C l C' m k).length (flat (rowsB C l C' m k)) ∧ Whole wr w.heap.size 25 [.int .i64 R, .int .i64 C, .slice (some ⟨b, o, none⟩) l.length cap] ∧ Whole wr (w.heap.size + 1) 25 [.int .i64 R, .int .i64 C', .slice (some ⟨b', o', none⟩) m.length cap'] ∧ Whole wr (w.heap.size + 1 + 1) 25 [.int .i64 0, .int .i64 0, .slice none 0 0] ∧ Whole wr G 25 [.int .i64 R, .int .i64 (C + C'), .slice A (rowsB C l C' m k).length c] ∧ Below w.heap.size w wr) (fun i _ => R.toNat - (intOf i).toNat)
  case atStart => exact ⟨0, none, 0, by omega, rfl, World.ownsRow_nil _ _ _ _, X0, X1, X2, X6, B0⟩
  case round =>
    obtain ⟨k, A, c, hk, rfl, hown, h0, h1, h2, h6, hb⟩ := hrel
    by_cases hlt : (k : Int) < R
    · have HS := Lib.hid (rowsB_succ C l C' m k)
      have hsm := rowsB_small HG.out HG'.out hk
      have hl1 : (rowL C l k).length ≤ 9 := by rw [rowL_len HG.out hlt]; exact (row_facts HG.out hlt).2.2.2.2.1
      have hm1 : (rowL C' m k).length ≤ 9 := by rw [rowL_len HG'.out hlt]; exact (row_facts HG'.out hlt).2.2.2.2.1
      have hlpos : 0 < (rowL C l k).length := by rw [rowL_len HG.out hlt]; exact (row_facts HG.out hlt).2.2.2.2.2.1
      have hmpos : 0 < (rowL C' m k).length := by rw [rowL_len HG'.out hlt]; exact (row_facts HG'.out hlt).2.2.2.2.2.1
      have hrla := Lib.hid (rowL_rd HG.out hlt hra)
      have hrlb := Lib.hid (rowL_rd HG'.out hlt hrb)
      have hs := hb.size
      have HA := Lib.hid (fun w0 => spec_boRow R C b o cap l k w0 HG.out hlt hcap)
      have HZ := Lib.hid (fun w0 => spec_boRow R C' b' o' cap' m k w0 HG'.out hlt hcap')
      generalize rowL C l k = rl at *
      generalize rowL C' m k = rm at *
      generalize rowsB C l C' m k = rb at *
      have hk0 : wr.cell? ⟨w.heap.size, 0, none⟩ = some (.int .i64 R) := (h0.cell 0).trans rfl
      go_upto_region 7 with (fail)
      clear hk0
      have bd : Below wr.heap.size wr wr.drew := (Below.refl _ _).drew
      have h0k0 : wr.cell? ⟨w.heap.size, 0, none⟩ = some (.int .i64 R) := (h0.cell 0).trans rfl; have h0k1 : wr.cell? ⟨w.heap.size, 1, none⟩ = some (.int .i64 C) := (h0.cell 1).trans rfl; have h0k2 : wr.cell? ⟨w.heap.size, 2, none⟩ = some (.slice (some ⟨b, o, none⟩) l.length cap) := (h0.cell 2).trans rfl; have h1k0 : wr.cell? ⟨w.heap.size + 1, 0, none⟩ = some (.int .i64 R) := (h1.cell 0).trans rfl; have h1k1 : wr.cell? ⟨w.heap.size + 1, 1, none⟩ = some (.int .i64 C') := (h1.cell 1).trans rfl; have h1k2 : wr.cell? ⟨w.heap.size + 1, 2, none⟩ = some (.slice (some ⟨b', o', none⟩) m.length cap') := (h1.cell 2).trans rfl; have h6k0 : wr.cell? ⟨G, 0, none⟩ = some (.int .i64 R) := (h6.cell 0).trans rfl; have h6k1 : wr.cell? ⟨G, 1, none⟩ = some (.int .i64 (C + C')) := (h6.cell 1).trans rfl; have h6k2 : wr.cell? ⟨G, 2, none⟩ = some (.slice A rb.length c) := (h6.cell 2).trans rfl; have h6f0 := h6.frozen 0; have h6f1 := h6.frozen 1; have h6f2 := h6.frozen 2
      clear h0k0 h0k1 h0k2; clear h1k0 h1k1 h1k2; clear h6k0 h6k1 h6k2; clear h6f0 h6f1 h6f2
      replace h0 := h0.below bd h0.lt; replace h1 := h1.below bd h1.lt; replace h2 := h2.below bd h2.lt; replace h6 := h6.below bd h6.lt; replace hown := row_keep hown bd; replace hb := hb.trans (bd.mono hs); replace hs := hb.size; clear bd
      have h0k0 : wr.drew.cell? ⟨w.heap.size, 0, none⟩ = some (.int .i64 R) := (h0.cell 0).trans rfl; have h0k1 : wr.drew.cell? ⟨w.heap.size, 1, none⟩ = some (.int .i64 C) := (h0.cell 1).trans rfl; have h0k2 : wr.drew.cell? ⟨w.heap.size, 2, none⟩ = some (.slice (some ⟨b, o, none⟩) l.length cap) := (h0.cell 2).trans rfl; have h1k0 : wr.drew.cell? ⟨w.heap.size + 1, 0, none⟩ = some (.int .i64 R) := (h1.cell 0).trans rfl; have h1k1 : wr.drew.cell? ⟨w.heap.size + 1, 1, none⟩ = some (.int .i64 C') := (h1.cell 1).trans rfl; have h1k2 : wr.drew.cell? ⟨w.heap.size + 1, 2, none⟩ = some (.slice (some ⟨b', o', none⟩) m.length cap') := (h1.cell 2).trans rfl; have h6k0 : wr.drew.cell? ⟨G, 0, none⟩ = some (.int .i64 R) := (h6.cell 0).trans rfl; have h6k1 : wr.drew.cell? ⟨G, 1, none⟩ = some (.int .i64 (C + C')) := (h6.cell 1).trans rfl; have h6k2 : wr.drew.cell? ⟨G, 2, none⟩ = some (.slice A rb.length c) := (h6.cell 2).trans rfl; have h6f0 := h6.frozen 0; have h6f1 := h6.frozen 1; have h6f2 := h6.frozen 2
      have HC := Lib.hid True.intro
      go_region_law (first
        | (refine step_append_lies _ (by rfl) _ _ _ (by rfl) w.heap.size 27 i0 _ 2 16 Try.underlying23 hi hz0 hz1 hz2 rfl (by omega) (.slice A rb.length c) rb.length (flat rb) (by simp [Act.eval, Act.put]) hown ⟨b, o + k * C.toNat * 2, none⟩ rl.length (cap - k * C.toNat) (flat rl) (by simp [Act.eval, Act.put]) (by rw [flat_length]; omega) (rd_news hrla.out hb) (flat_one _) hlpos (by unfold maxLen; omega) (by omega) hs _ rfl ?_; intro g1 c1 w4 hown4 hg4 hat4 hlt4; clear hat4 hlt4; clear h0k0 h0k1 h0k2; clear h1k0 h1k1 h1k2; clear h6k0 h6k1 h6k2; clear h6f0 h6f1 h6f2; have B4 := row_below hown hb hs hg4; replace h0 := h0.grown hg4 (row_apart hown h0 (by decide)); replace h1 := h1.grown hg4 (row_apart hown h1 (by decide)); replace h2 := h2.grown hg4 (row_apart hown h2 (by decide)); replace h6 := h6.grown hg4 (row_apart hown h6 (by decide)); clear hg4 hown hb hs; have hown := hown4; have hb := B4; have hs := hb.size; clear B4 hown4; have h0k0 : w4.cell? ⟨w.heap.size, 0, none⟩ = some (.int .i64 R) := (h0.cell 0).trans rfl; have h0k1 : w4.cell? ⟨w.heap.size, 1, none⟩ = some (.int .i64 C) := (h0.cell 1).trans rfl; have h0k2 : w4.cell? ⟨w.heap.size, 2, none⟩ = some (.slice (some ⟨b, o, none⟩) l.length cap) := (h0.cell 2).trans rfl; have h1k0 : w4.cell? ⟨w.heap.size + 1, 0, none⟩ = some (.int .i64 R) := (h1.cell 0).trans rfl; have h1k1 : w4.cell? ⟨w.heap.size + 1, 1, none⟩ = some (.int .i64 C') := (h1.cell 1).trans rfl; have h1k2 : w4.cell? ⟨w.heap.size + 1, 2, none⟩ = some (.slice (some ⟨b', o', none⟩) m.length cap') := (h1.cell 2).trans rfl; have h6k0 : w4.cell? ⟨G, 0, none⟩ = some (.int .i64 R) := (h6.cell 0).trans rfl; have h6k1 : w4.cell? ⟨G, 1, none⟩ = some (.int .i64 (C + C')) := (h6.cell 1).trans rfl; have h6k2 : w4.cell? ⟨G, 2, none⟩ = some (.slice A rb.length c) := (h6.cell 2).trans rfl; have h6f0 := h6.frozen 0; have h6f1 := h6.frozen 1; have h6f2 := h6.frozen 2)
        | (refine step_append_lies _ (by rfl) _ _ _ (by rfl) w.heap.size 27 i0 _ 2 16 Try.underlying23 hi hz0 hz1 hz2 rfl (by omega) (.slice (some ⟨g1, 0, none⟩) (rb.length + rl.length) c1) (rb.length + rl.length) (flat rb ++ flat rl) (by simp [Act.eval, Act.put]) hown ⟨b', o' + k * C'.toNat * 2, none⟩ rm.length (cap' - k * C'.toNat) (flat rm) (by simp [Act.eval, Act.put]) (by rw [flat_length]; omega) (rd_news hrlb.out hb) (flat_one _) hmpos (by unfold maxLen; omega) (by omega) hs _ rfl ?_; intro g2 c2 w6 hown6 hg6 hat6 hlt6; clear hat6 hlt6; clear h0k0 h0k1 h0k2; clear h1k0 h1k1 h1k2; clear h6k0 h6k1 h6k2; clear h6f0 h6f1 h6f2; have B4 := row_below hown hb hs hg6; replace h0 := h0.grown hg6 (row_apart hown h0 (by decide)); replace h1 := h1.grown hg6 (row_apart hown h1 (by decide)); replace h2 := h2.grown hg6 (row_apart hown h2 (by decide)); replace h6 := h6.grown hg6 (row_apart hown h6 (by decide)); clear hg6 hown hb hs; have hown := hown6; have hb := B4; have hs := hb.size; clear B4 hown6; have h0k0 : w6.cell? ⟨w.heap.size, 0, none⟩ = some (.int .i64 R) := (h0.cell 0).trans rfl; have h0k1 : w6.cell? ⟨w.heap.size, 1, none⟩ = some (.int .i64 C) := (h0.cell 1).trans rfl; have h0k2 : w6.cell? ⟨w.heap.size, 2, none⟩ = some (.slice (some ⟨b, o, none⟩) l.length cap) := (h0.cell 2).trans rfl; have h1k0 : w6.cell? ⟨w.heap.size + 1, 0, none⟩ = some (.int .i64 R) := (h1.cell 0).trans rfl; have h1k1 : w6.cell? ⟨w.heap.size + 1, 1, none⟩ = some (.int .i64 C') := (h1.cell 1).trans rfl; have h1k2 : w6.cell? ⟨w.heap.size + 1, 2, none⟩ = some (.slice (some ⟨b', o', none⟩) m.length cap') := (h1.cell 2).trans rfl; have h6k0 : w6.cell? ⟨G, 0, none⟩ = some (.int .i64 R) := (h6.cell 0).trans rfl; have h6k1 : w6.cell? ⟨G, 1, none⟩ = some (.int .i64 (C + C')) := (h6.cell 1).trans rfl; have h6k2 : w6.cell? ⟨G, 2, none⟩ = some (.slice A rb.length c) := (h6.cell 2).trans rfl; have h6f0 := h6.frozen 0; have h6f1 := h6.frozen 1; have h6f2 := h6.frozen 2)
        | (go_simp; with_reducible refine Calls.mono (HA.out _) ?_; rintro e w5 ⟨rfl, b5⟩; clear h0k0 h0k1 h0k2; clear h1k0 h1k1 h1k2; clear h6k0 h6k1 h6k2; clear h6f0 h6f1 h6f2; replace h0 := h0.below b5 h0.lt; replace h1 := h1.below b5 h1.lt; replace h2 := h2.below b5 h2.lt; replace h6 := h6.below b5 h6.lt; replace hown := row_keep hown b5; replace hb := hb.trans (b5.mono hs); replace hs := hb.size; clear b5; have h0k0 : w5.cell? ⟨w.heap.size, 0, none⟩ = some (.int .i64 R) := (h0.cell 0).trans rfl; have h0k1 : w5.cell? ⟨w.heap.size, 1, none⟩ = some (.int .i64 C) := (h0.cell 1).trans rfl; have h0k2 : w5.cell? ⟨w.heap.size, 2, none⟩ = some (.slice (some ⟨b, o, none⟩) l.length cap) := (h0.cell 2).trans rfl; have h1k0 : w5.cell? ⟨w.heap.size + 1, 0, none⟩ = some (.int .i64 R) := (h1.cell 0).trans rfl; have h1k1 : w5.cell? ⟨w.heap.size + 1, 1, none⟩ = some (.int .i64 C') := (h1.cell 1).trans rfl; have h1k2 : w5.cell? ⟨w.heap.size + 1, 2, none⟩ = some (.slice (some ⟨b', o', none⟩) m.length cap') := (h1.cell 2).trans rfl; have h6k0 : w5.cell? ⟨G, 0, none⟩ = some (.int .i64 R) := (h6.cell 0).trans rfl; have h6k1 : w5.cell? ⟨G, 1, none⟩ = some (.int .i64 (C + C')) := (h6.cell 1).trans rfl; have h6k2 : w5.cell? ⟨G, 2, none⟩ = some (.slice A rb.length c) := (h6.cell 2).trans rfl; have h6f0 := h6.frozen 0; have h6f1 := h6.frozen 1; have h6f2 := h6.frozen 2)
        | (go_simp; with_reducible refine Calls.mono (HZ.out _) ?_; rintro e w5 ⟨rfl, b5⟩; clear h0k0 h0k1 h0k2; clear h1k0 h1k1 h1k2; clear h6k0 h6k1 h6k2; clear h6f0 h6f1 h6f2; replace h0 := h0.below b5 h0.lt; replace h1 := h1.below b5 h1.lt; replace h2 := h2.below b5 h2.lt; replace h6 := h6.below b5 h6.lt; replace hown := row_keep hown b5; replace hb := hb.trans (b5.mono hs); replace hs := hb.size; clear b5; have h0k0 : w5.cell? ⟨w.heap.size, 0, none⟩ = some (.int .i64 R) := (h0.cell 0).trans rfl; have h0k1 : w5.cell? ⟨w.heap.size, 1, none⟩ = some (.int .i64 C) := (h0.cell 1).trans rfl; have h0k2 : w5.cell? ⟨w.heap.size, 2, none⟩ = some (.slice (some ⟨b, o, none⟩) l.length cap) := (h0.cell 2).trans rfl; have h1k0 : w5.cell? ⟨w.heap.size + 1, 0, none⟩ = some (.int .i64 R) := (h1.cell 0).trans rfl; have h1k1 : w5.cell? ⟨w.heap.size + 1, 1, none⟩ = some (.int .i64 C') := (h1.cell 1).trans rfl; have h1k2 : w5.cell? ⟨w.heap.size + 1, 2, none⟩ = some (.slice (some ⟨b', o', none⟩) m.length cap') := (h1.cell 2).trans rfl; have h6k0 : w5.cell? ⟨G, 0, none⟩ = some (.int .i64 R) := (h6.cell 0).trans rfl; have h6k1 : w5.cell? ⟨G, 1, none⟩ = some (.int .i64 (C + C')) := (h6.cell 1).trans rfl; have h6k2 : w5.cell? ⟨G, 2, none⟩ = some (.slice A rb.length c) := (h6.cell 2).trans rfl; have h6f0 := h6.frozen 0; have h6f1 := h6.frozen 1; have h6f2 := h6.frozen 2)
        | fail)
      all_goals (clear h0k0 h0k1 h0k2; clear h1k0 h1k1 h1k2; clear h6k0 h6k1 h6k2; clear h6f0 h6f1 h6f2; go_wp2; go_roundw)
      all_goals first
        | (refine ⟨k + 1, some ⟨g2, 0, none⟩, c2, by omega, by go_num, ?_⟩; rewrite [HS.out, flat_append, flat_append, List.length_append, List.length_append]; exact ⟨row_setFar hown _ _ (row_apart hown h6 (by decide)), h0.set_far _ _ (by show G ≠ _; omega), h1.set_far _ _ (by show G ≠ _; omega), h2.set_far _ _ (by show G ≠ _; omega), h6.set 2 _, hb.setCell (p := ⟨G, 2, none⟩) (by show w.heap.size ≤ G; omega) _⟩)
        | (simp [intOf]; omega)
        | fail
    · obtain rfl : R = (k : Int) := by omega
      have ho := own_of_row hown
      have hap : 0 < (flat (rowsB C l C' m k)).length → ∀ a, A = some a → w.heap.size + 1 + 1 ≠ a.block := fun hx a ha => (own_apart ho.1 h2 (by decide) hx ha).symm
      have hsm := rowsB_small HG.out HG'.out hk
      have hs := hb.size
      have hx2 := h2.lt
      have h0k0 : wr.cell? ⟨w.heap.size, 0, none⟩ = some (.int .i64 (k : Int)) := (h0.cell 0).trans rfl; have h0k1 : wr.cell? ⟨w.heap.size, 1, none⟩ = some (.int .i64 C) := (h0.cell 1).trans rfl; have h0k2 : wr.cell? ⟨w.heap.size, 2, none⟩ = some (.slice (some ⟨b, o, none⟩) l.length cap) := (h0.cell 2).trans rfl
      have h6k0 : wr.cell? ⟨G, 0, none⟩ = some (.int .i64 (k : Int)) := (h6.cell 0).trans rfl; have h6k1 : wr.cell? ⟨G, 1, none⟩ = some (.int .i64 (C + C')) := (h6.cell 1).trans rfl; have h6k2 : wr.cell? ⟨G, 2, none⟩ = some (.slice A (rowsB C l C' m k).length c) := (h6.cell 2).trans rfl
      by_cases hc : C + C' ≤ 9
      · have HP := Lib.hid (HY.out hc)
        have hgood := Lib.hid (good_beside HG.out HG'.out hc)
        clear hc
        go_wp2_with fail
        refine (boIf_yes _ _ _ _ (rowsB C l C' m k) _ hgood.out (by omega) ho.1.rd).mono ?_; rintro e w5 ⟨rfl, b5⟩
        clear h0k0 h0k1 h0k2
        clear h6k0 h6k1 h6k2
        replace h2 := h2.below b5 hx2
        have ho5 := ho.1.keep b5
        have B5 := hb.trans (b5.mono hs)
        have h2k0 : w5.cell? ⟨w.heap.size + 1 + 1, 0, none⟩ = some (.int .i64 0) := (h2.cell 0).trans rfl; have h2k1 : w5.cell? ⟨w.heap.size + 1 + 1, 1, none⟩ = some (.int .i64 0) := (h2.cell 1).trans rfl; have h2k2 : w5.cell? ⟨w.heap.size + 1 + 1, 2, none⟩ = some (.slice none 0 0) := (h2.cell 2).trans rfl
        have h2f0 := h2.frozen 0; have h2f1 := h2.frozen 1; have h2f2 := h2.frozen 2
        go_wp2
        rewrite [← HP.out]
        refine bodyPost_ret (v := .tuple #[.agg #[.int .i64 (k : Int), .int .i64 (C + C'), .slice A (rowsB C l C' m k).length c], .bool true]) ?_ rfl ?_; (focus (simp [results, Try.results22, go_sem, *]; done))
        exact PostB.mk (((ho5.set_far2 _ _ hap).set_far2 _ _ hap).set_far2 _ _ hap) ho.2 (by (repeat' (first | (with_reducible exact Below.refl _ _) | (with_reducible assumption) | (with_reducible refine Below.alloc ?_ ?_ _) | (with_reducible refine Below.setCell ?_ ?_ _) | (with_reducible refine Below.drew ?_) | (with_reducible refine below_drewN ?_ _) | (with_reducible refine Below.trans ?_ (Below.mono (by assumption) ?_)) | (with_reducible exact Nat.le_refl _) | (simp; done) | omega | (simp at *; omega))))
      · have HP := Lib.hid (HNO.out (by omega))
        have hbad := Lib.hid (bad_beside (R := (k : Int)) (l := rowsB C l C' m k) (C := C) (C' := C') (by omega))
        clear hc
        go_wp2_with fail
        refine (boIf_no _ _ _ _ (rowsB C l C' m k) _ hbad.out (by omega) ho.1.rd).mono ?_; rintro e w5 ⟨rfl, b5⟩
        clear h0k0 h0k1 h0k2
        clear h6k0 h6k1 h6k2
        replace h2 := h2.below b5 hx2
        have B5 := hb.trans (b5.mono hs)
        have h2k0 : w5.cell? ⟨w.heap.size + 1 + 1, 0, none⟩ = some (.int .i64 0) := (h2.cell 0).trans rfl; have h2k1 : w5.cell? ⟨w.heap.size + 1 + 1, 1, none⟩ = some (.int .i64 0) := (h2.cell 1).trans rfl; have h2k2 : w5.cell? ⟨w.heap.size + 1 + 1, 2, none⟩ = some (.slice none 0 0) := (h2.cell 2).trans rfl
        have h2f0 := h2.frozen 0; have h2f1 := h2.frozen 1; have h2f2 := h2.frozen 2
        go_wp2
        rewrite [← HP.out]
        refine bodyPost_ret (v := .tuple #[.agg #[.int .i64 0, .int .i64 0, .slice none 0 0], .bool false]) ?_ rfl ?_; (focus (simp [results, Try.results22, go_sem, *]; done))
        exact PostB.none_ (by (repeat' (first | (with_reducible exact Below.refl _ _) | (with_reducible assumption) | (with_reducible refine Below.alloc ?_ ?_ _) | (with_reducible refine Below.setCell ?_ ?_ _) | (with_reducible refine Below.drew ?_) | (with_reducible refine below_drewN ?_ _) | (with_reducible refine Below.trans ?_ (Below.mono (by assumption) ?_)) | (with_reducible exact Nat.le_refl _) | (simp; done) | omega | (simp at *; omega))))
end Go.Proofs.Ytpfjbecpfdgnpaa
