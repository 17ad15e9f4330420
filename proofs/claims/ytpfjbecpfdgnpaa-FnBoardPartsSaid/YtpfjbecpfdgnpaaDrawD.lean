/- The draw of two boards that differ in few cells. -/
import Derived.Deep.RegionHeld3
import Derived.Deep.DeepCutAuto
import Derived.Test.YtpfjbecpfdgnpaaDrawS
namespace Go.Proofs.Ytpfjbecpfdgnpaa
open Go.ChangeShapes Go.WideShapes Go.ChangeAt Go.RowKit Go.Joins Go.Deep
set_option linter.unusedSimpArgs false
set_option linter.unusedVariables false
set_option maxRecDepth 100000
set_option maxHeartbeats 2000000
theorem spec_boOwn_nil (R C : Int) (A : Option Addr) (cap : Nat) (w : World) :
    Calls Try.prog 85 #[.agg #[.int .i64 R, .int .i64 C, .slice A 0 cap]] w (PostD w R C []) := by
  obtain ⟨v0, hv0, X0, X1, B0, hz0⟩ := two_boxes w [.int .i64 R, .int .i64 C, .slice A 0 cap] 25 [.int .i64 0, .int .i64 0, .slice none 0 0] 25
  have HV := Lib.hid hv0
  clear hv0
  go_enter Try.func85, Try.ntmps85
  go_upto_region 1 with (fail)
  rewrite [show (w.alloc (.cells ([.int .i64 R, .int .i64 C, .slice A 0 cap] : List Value).toArray 25)).alloc (.cells ([.int .i64 0, .int .i64 0, .slice none 0 0] : List Value).toArray 25) = v0 from HV.out]
  have hy := X0.lt
  have hz := X1.lt
  have X0k0 : v0.cell? ⟨w.heap.size, 0, none⟩ = some (.int .i64 R) := (X0.cell 0).trans rfl; have X0k1 : v0.cell? ⟨w.heap.size, 1, none⟩ = some (.int .i64 C) := (X0.cell 1).trans rfl; have X0k2 : v0.cell? ⟨w.heap.size, 2, none⟩ = some (.slice A 0 cap) := (X0.cell 2).trans rfl
  have X1k0 : v0.cell? ⟨w.heap.size + 1, 0, none⟩ = some (.int .i64 0) := (X1.cell 0).trans rfl; have X1k1 : v0.cell? ⟨w.heap.size + 1, 1, none⟩ = some (.int .i64 0) := (X1.cell 1).trans rfl; have X1k2 : v0.cell? ⟨w.heap.size + 1, 2, none⟩ = some (.slice none 0 0) := (X1.cell 2).trans rfl
  have X1f0 := X1.frozen 0; have X1f1 := X1.frozen 1; have X1f2 := X1.frozen 2
  cases A with
  | none =>
    go_region
    all_goals go_wp2
    all_goals (refine bodyPost_ret (v := .agg #[.int .i64 R, .int .i64 C, .slice (some ⟨w.heap.size + 2, 0, none⟩) 0 0]) ?_ rfl ?_; (focus (simp [results, Try.results85, go_sem, *]; done)))
    all_goals exact PostD.mk (l := []) (fun hx => absurd hx (by simp [flat])) (fun a ha => by cases ha; show w.heap.size ≤ w.heap.size + 2; omega) (by (repeat' (first | (with_reducible exact Below.refl _ _) | (with_reducible assumption) | (with_reducible refine Below.alloc ?_ ?_ _) | (with_reducible refine Below.setCell ?_ ?_ _) | (with_reducible refine Below.drew ?_) | (with_reducible refine below_drewN ?_ _) | (with_reducible refine Below.trans ?_ (Below.mono (by assumption) ?_)) | (with_reducible exact Nat.le_refl _) | (simp; done) | omega | (simp at *; omega))))
  | some a =>
    go_region
    all_goals go_wp2
    all_goals (refine bodyPost_ret (v := .agg #[.int .i64 R, .int .i64 C, .slice (some ⟨w.heap.size + 2, 0, none⟩) 0 0]) ?_ rfl ?_; (focus (simp [results, Try.results85, go_sem, *]; done)))
    all_goals exact PostD.mk (l := []) (fun hx => absurd hx (by simp [flat])) (fun a ha => by cases ha; show w.heap.size ≤ w.heap.size + 2; omega) (by (repeat' (first | (with_reducible exact Below.refl _ _) | (with_reducible assumption) | (with_reducible refine Below.alloc ?_ ?_ _) | (with_reducible refine Below.setCell ?_ ?_ _) | (with_reducible refine Below.drew ?_) | (with_reducible refine below_drewN ?_ _) | (with_reducible refine Below.trans ?_ (Below.mono (by assumption) ?_)) | (with_reducible exact Nat.le_refl _) | (simp; done) | omega | (simp at *; omega))))
theorem spec_boOwn_at (R C : Int) (A : Option Addr) (cap : Nat) (l : List (Int × Int)) (w : World) (hn : l.length ≤ 1048576) (hr : Rd w w.heap.size A (flat l)) :
    Calls Try.prog 85 #[.agg #[.int .i64 R, .int .i64 C, .slice A l.length cap]] w (PostD w R C l) := by
  rcases Nat.eq_zero_or_pos l.length with h | h
  · obtain rfl : l = [] := List.length_eq_zero_iff.1 h
    exact spec_boOwn_nil R C A cap w
  · obtain ⟨b, o, rfl, hb, hc⟩ := hr (by rw [flat_length]; omega)
    exact spec_boOwn R C b o cap l w h hn (fun _ => ⟨b, o, rfl, hb, hc⟩)
theorem at_drew {w : World} {A : Option Addr} {t : TypeId} {xs : List Value} (h : OwnAt w A t xs) : OwnAt w.drew A t xs := h.new ((Below.refl _ _).drew)
theorem SInv.sets {w wx : World} {gB g5 j j' : Nat} {u u' : Value} {R C : Int} {B : Option Addr} {k n : Nat} {m : List (Int × Int)} (h : SInv w wx gB R C B k m n) (hg : gB < g5) (hgB : w.heap.size + 1 + 1 < gB) (hB : ∀ a, B = some a → a.block < gB) : SInv w ((wx.setCell ⟨g5, j, none⟩ u).setCell ⟨g5, j', none⟩ u') gB R C B k m n := by
  obtain ⟨h1, h2, h3, h4, h5, h6⟩ := h
  have e0 : g5 ≠ w.heap.size := by omega
  have e1 : g5 ≠ w.heap.size + 1 := by omega
  have e2 : g5 ≠ gB := by omega
  have e3 : ∀ a, B = some a → g5 ≠ a.block := fun a ha => by have := hB a ha; omega
  exact ⟨(h1.set_far (by omega)).set_far (by omega), (h2.set_far _ _ e0).set_far _ _ e0, (h3.set_far _ _ e1).set_far _ _ e1, (h4.set_far _ _ e2).set_far _ _ e2, (h5.set_far _ _ e3).set_far _ _ e3, (h6.setCell (by show w.heap.size ≤ g5; omega) _).setCell (by show w.heap.size ≤ g5; omega) _⟩
/-- A board that a draw has handed out; nothing is said of its room. -/
structure BoardOutW (w w' : World) (R C : Int) (A : Option Addr) (l : List (Int × Int)) : Prop where
  rows : 0 ≤ R ∧ R ≤ 11
  cols : 0 ≤ C ∧ C ≤ 10
  few : l.length ≤ 90
  own : OwnAt w' A 27 (flat l)
  new : New w A
/-- Two boards that a draw has handed out. -/
def TwoOutW (w : World) (e : Ending) (w' : World) : Prop :=
  ∃ (R C : Int) (B : Option Addr) (k : Nat) (m : List (Int × Int)) (R' C' : Int) (B' : Option Addr) (k' : Nat) (m' : List (Int × Int)), e = .returned (.tuple #[.agg #[.int .i64 R, .int .i64 C, .slice B m.length k], .agg #[.int .i64 R', .int .i64 C', .slice B' m'.length k']]) ∧ BoardOutW w w' R C B m ∧ BoardOutW w w' R' C' B' m' ∧ Below w.heap.size w w'
theorem DrawDifferentCells_any (A : Option Addr) (cap : Nat) (l : List Int) (w : World) (h : Bytes w A l) :
    Calls Try.prog 23 #[.slice A l.length cap] w (TwoOutW w) := by
  obtain ⟨v0, hv0, X0, X1, XC, B0, hz0⟩ := three_boxes w [.int .i64 0, .int .i64 0, .slice none 0 0] 25 [.int .i64 0, .int .i64 0, .slice none 0 0] 25 [.slice A l.length cap, .int .i64 0, .int .u64 0] 83
  have HV := Lib.hid hv0
  clear hv0
  have C0 := cur_new h B0 (by omega) XC
  go_enter Try.func23, Try.ntmps23
  go_wp2_with fail
  rewrite [show ((w.alloc (.cells ([.int .i64 0, .int .i64 0, .slice none 0 0] : List Value).toArray 25)).alloc (.cells ([.int .i64 0, .int .i64 0, .slice none 0 0] : List Value).toArray 25)).alloc (.cells ([.slice A l.length cap, .int .i64 0, .int .u64 0] : List Value).toArray 83) = v0 from HV.out]
  clear HV
  refine (anyBoard_any _ 0 _ C0 (by omega)).mono ?_; rintro e w1 ⟨R, C, B, k, m, rfl, hR, hC, h90, hk, ho, hn1, c1, g1⟩
  replace X0 := X0.grownC g1 (by omega)
  replace X1 := X1.grownC g1 (by omega)
  have B1 : Below w.heap.size w w1 := grown_old B0 g1 (by omega)
  have hBn : ∀ a, B = some a → w.heap.size + 1 + 1 < a.block := fun a ha => by have := hn1 a ha; omega
  have hp1 := c1.lt
  have hB5 : 0 < m.length → ∀ a, B = some a → a.block < w1.heap.size := fun hp a ha => by
    obtain ⟨g, pre, rest, e, hw⟩ := ho (pos_flat hp)
    rw [e] at ha
    cases ha
    exact hw.lt
  clear C0 XC g1 hn1 hz0
  obtain ⟨v1, hv1, XB, B2, hz1⟩ := one_box w1 [.int .i64 R, .int .i64 C, .slice B m.length k] 25
  have HV := Lib.hid hv1
  clear hv1
  have c2 : Cr v1 (w.heap.size + 1 + 1) 2200 := c1.keep (below_grown (row := none) B2) (by simp)
  have SI : SInv w v1 w1.heap.size R C B k m 2200 := ⟨c2, X0.new B2, X1.new B2, XB, ho.new B2, B1.trans (B2.mono B1.size)⟩
  clear c1 B2 c2 X0 X1 XB ho B1
  go_wp2_with fail
  rewrite [show w1.alloc (.cells ([.int .i64 R, .int .i64 C, .slice B m.length k] : List Value).toArray 25) = v1 from HV.out]
  clear HV
  generalize w1.heap.size = gB at *
  refine (one_any _ _ 6 _ SI.1 (by omega) (by omega) (by omega)).mono ?_; rintro e w2 ⟨bb, rfl, c3, g3⟩
  replace SI := SI.step g3 c3 hp1 hBn
  clear c3 g3
  have hne : w.heap.size ≠ gB := by omega
  have hne1 : w.heap.size + 1 ≠ gB := by omega
  cases bb with
  | true =>
    obtain ⟨SC, X0, X1, XB, ho, B1⟩ := SI
    (obtain ⟨b0, b1, b2⟩ := whole3 XB)
    have hgl := XB.lt
    go_upto_region 4 with (fail)
    go_region_held3 (fun w' => w'.cell? ⟨gB, 0, none⟩ = some (.int .i64 R) ∧ w'.cell? ⟨gB, 1, none⟩ = some (.int .i64 C) ∧ w'.cell? ⟨gB, 2, none⟩ = some (.slice B m.length k))
      ((refine whole3 (t := 25) ?_; (repeat (with_reducible refine Whole.set_far ?_ _ _ (by first | exact hne | exact hne1))); (first | exact XB5.new (by (repeat' (first | (with_reducible exact Below.refl _ _) | (with_reducible assumption) | (with_reducible refine Below.alloc ?_ ?_ _) | (with_reducible refine Below.setCell ?_ ?_ _) | (with_reducible refine Below.drew ?_) | (with_reducible refine below_drewN ?_ _) | (with_reducible refine Below.trans ?_ (Below.mono (by assumption) ?_)) | go_size)) : Below w7.heap.size w7 _) | exact XB.new (by (repeat' (first | (with_reducible exact Below.refl _ _) | (with_reducible assumption) | (with_reducible refine Below.alloc ?_ ?_ _) | (with_reducible refine Below.setCell ?_ ?_ _) | (with_reducible refine Below.drew ?_) | (with_reducible refine below_drewN ?_ _) | (with_reducible refine Below.trans ?_ (Below.mono (by assumption) ?_)) | go_size)) : Below w2.heap.size w2 _) | fail)))
      (((go_at_call 65; (refine (anyBoard_any (w.heap.size + 1 + 1) (2200 + 2) _ ?_ (by omega)).mono ?_); (focus exact SC.keep (below_grown (row := none) (by (repeat' (first | (with_reducible exact Below.refl _ _) | (with_reducible assumption) | (with_reducible refine Below.alloc ?_ ?_ _) | (with_reducible refine Below.setCell ?_ ?_ _) | (with_reducible refine Below.drew ?_) | (with_reducible refine below_drewN ?_ _) | (with_reducible refine Below.trans ?_ (Below.mono (by assumption) ?_)) | go_size)) : Below w2.heap.size w2 _)) (by simp)); rintro e w7 ⟨R', C', B', k', m', rfl, hR', hC', h90', hk', ho', hn', c7, g7⟩; have G7 := (below_grown (row := some (w.heap.size + 1 + 1)) (by (repeat' (first | (with_reducible exact Below.refl _ _) | (with_reducible assumption) | (with_reducible refine Below.alloc ?_ ?_ _) | (with_reducible refine Below.setCell ?_ ?_ _) | (with_reducible refine Below.drew ?_) | (with_reducible refine below_drewN ?_ _) | (with_reducible refine Below.trans ?_ (Below.mono (by assumption) ?_)) | go_size)) : Below w2.heap.size w2 _)).trans g7; have XB5 := XB.grownC G7 (by omega); have X05 := X0.grownC G7 (by omega); have X15 := X1.grownC G7 (by omega); have s7 : w2.heap.size ≤ w7.heap.size := G7.size; clear g7; have f0 := X05.frozen 0; have f1 := X05.frozen 1; have f2 := X05.frozen 2; have f3 := X15.frozen 0; have f4 := X15.frozen 1; have f5 := X15.frozen 2; (obtain ⟨q0, q1, q2⟩ := whole3 (x := .int .i64 0) (y := .int .i64 0) (z := .slice none 0 0) X05); (obtain ⟨q3, q4, q5⟩ := whole3 (x := .int .i64 0) (y := .int .i64 0) (z := .slice none 0 0) X15))))
    have hx' : ∀ a, B' = some a → w.heap.size + 1 < a.block := fun a ha => by have h1 : w2.heap.size ≤ a.block := hn' a ha; omega
    have hl7 := ho.grownC G7 (fun a ha => by have := hBn a ha; omega)
    have B7 := grown_old B1 G7 (by omega)
    go_wp2
    refine bodyPost_ret (v := .tuple #[.agg #[.int .i64 R, .int .i64 C, .slice B m.length k], .agg #[.int .i64 R', .int .i64 C', .slice B' m'.length k']]) ?_ rfl ?_; (focus (simp [results, Try.results23, go_sem, *]; done))
    exact ⟨R, C, B, k, m, R', C', B', k', m', rfl, ⟨hR, hC, h90, at_six hl7 (fun a ha => by have := hBn a ha; omega), fun a ha => by have := hBn a ha; omega⟩,
      ⟨hR', hC', h90', at_six ho' hx', fun a ha => by have := hx' a ha; omega⟩, below_six B7⟩
  | false =>
    have XB := SI.2.2.2.1
    (obtain ⟨b0, b1, b2⟩ := whole3 XB)
    have hgl := XB.lt
    go_wp2_with fail
    refine (spec_boOwn_at R C B k m _ (by omega) SI.2.2.2.2.1.rd).mono ?_; rintro e w3 hP
    obtain ⟨A5, c5, rfl, O5, N5, b3⟩ := hP
    clear b0 b1 b2 XB
    have h5n : ∀ a, A5 = some a → gB < a.block := fun a ha => by have h1 := N5 a ha; omega
    replace SI := SI.step (below_grown b3) (SI.1.keep (below_grown (row := none) b3) (by simp)) hp1 hBn
    go_upto_region 6 with (fail)
    obtain ⟨v6, hv6, XA, B6, hz6⟩ := one_box w3 [.int .i64 R, .int .i64 C, .slice A5 m.length c5] 25
    have HV := Lib.hid hv6
    clear hv6
    rewrite [show w3.alloc (.cells ([.int .i64 R, .int .i64 C, .slice A5 m.length c5] : List Value).toArray 25) = v6 from HV.out]
    clear HV
    replace SI := SI.step (below_grown B6) (SI.1.keep (below_grown (row := none) B6) (by simp)) hp1 hBn
    have h56 : ∀ a, A5 = some a → 0 < m.length → a.block < w3.heap.size := fun a ha hp => O5.lt (pos_flat hp) ha
    have hg6 : gB < w3.heap.size := by have := b3.size; omega
    replace O5 := O5.keep B6
    generalize w3.heap.size = g6 at *
    clear B6 hz6 b3 N5
    go_wp2_with fail
    refine (pick_any _ _ 4 _ SI.1 (by omega) (by omega) (by omega)).mono ?_; rintro e w4 ⟨kk, rfl, k0, k1, c4, g4⟩
    replace SI := SI.step g4 c4 hp1 hBn
    replace XA := XA.grownC g4 (by omega)
    replace O5 := O5.grownC g4 (fun a ha => by have := h5n a ha; omega)
    clear c4 g4
    have SI2 : SInv w w4 gB R C B k m (2300 + 10 * (3 - kk).toNat) := SI.step (World.grownBy.refl _ _) (SI.1.mono (by omega)) hp1 hBn
    clear SI
    go_wp2
    go_loopw [7] (fun z wr => ∃ (kk : Int) (l' : List (Int × Int)), z = .int .i64 kk ∧ (0 ≤ kk ∧ kk ≤ 3) ∧ l'.length = m.length ∧ SInv w wr gB R C B k m (2300 + 10 * (3 - kk).toNat) ∧ Whole wr g6 25 [.int .i64 R, .int .i64 C, .slice A5 m.length c5] ∧ Own wr A5 27 (flat l')) (fun z _ => (intOf z).toNat)
    case atStart => exact ⟨kk, m, rfl, by omega, rfl, SI2, XA, O5⟩
    case round =>
      clear SI2 XA O5 k0 k1
      obtain ⟨kk, l', rfl, hkk, hl', SI, XA, O5⟩ := hrel
      have hga := XA.lt
      by_cases hk0 : 0 < kk
      · by_cases hm0 : 0 < m.length
        · obtain ⟨g5, rest5, rfl, X5⟩ := O5 (by rw [flat_length]; omega)
          have hg5 : gB < g5 := h5n _ rfl
          have h5l : g5 < g6 := h56 _ rfl hm0
          have a2 : wr.cell? ⟨g6, 2, none⟩ = some (.slice (some ⟨g5, 0, none⟩) m.length c5) := (XA.cell 2).trans rfl
          have hgne : g5 ≠ g6 := by omega
          have hgne' : g6 ≠ g5 := by omega
          have m9 : IntKind.i64.wrap (kk - 1) = kk - 1 := IntWalk.i64_in _ (by omega)
          obtain ⟨nb, hnb⟩ : ∃ nb, 2300 + 10 * (3 - kk).toNat = nb := ⟨_, rfl⟩
          rw [hnb] at SI
          go_upto_region 9 with (fail)
          go_region_held3 (fun w' => w'.cell? ⟨g6, 2, none⟩ = some (.slice (some ⟨g5, 0, none⟩) m.length c5))
            (first | exact keep_set (keep_set (((XB5.new (by (repeat' (first | (with_reducible exact Below.refl _ _) | (with_reducible assumption) | (with_reducible refine Below.alloc ?_ ?_ _) | (with_reducible refine Below.setCell ?_ ?_ _) | (with_reducible refine Below.drew ?_) | (with_reducible refine below_drewN ?_ _) | (with_reducible refine Below.trans ?_ (Below.mono (by assumption) ?_)) | go_size)) : Below w6.heap.size w6 _)).cell 2).trans rfl) hgne) hgne | exact ((XB5.new (by (repeat' (first | (with_reducible exact Below.refl _ _) | (with_reducible assumption) | (with_reducible refine Below.alloc ?_ ?_ _) | (with_reducible refine Below.setCell ?_ ?_ _) | (with_reducible refine Below.drew ?_) | (with_reducible refine below_drewN ?_ _) | (with_reducible refine Below.trans ?_ (Below.mono (by assumption) ?_)) | go_size)) : Below w6.heap.size w6 _)).cell 2).trans rfl | exact ((XB4.new (by (repeat' (first | (with_reducible exact Below.refl _ _) | (with_reducible assumption) | (with_reducible refine Below.alloc ?_ ?_ _) | (with_reducible refine Below.setCell ?_ ?_ _) | (with_reducible refine Below.drew ?_) | (with_reducible refine below_drewN ?_ _) | (with_reducible refine Below.trans ?_ (Below.mono (by assumption) ?_)) | go_size)) : Below w5.heap.size w5 _)).cell 2).trans rfl | exact ((XA.new (by (repeat' (first | (with_reducible exact Below.refl _ _) | (with_reducible assumption) | (with_reducible refine Below.alloc ?_ ?_ _) | (with_reducible refine Below.setCell ?_ ?_ _) | (with_reducible refine Below.drew ?_) | (with_reducible refine below_drewN ?_ _) | (with_reducible refine Below.trans ?_ (Below.mono (by assumption) ?_)) | go_size)) : Below wr.heap.size wr _)).cell 2).trans rfl | fail)
            ((first | (go_at_call 75; (with_reducible refine (pick_any (w.heap.size + 1 + 1) nb m.length _ ?_ (by omega) (by omega) (by omega)).mono ?_); (focus exact SI.1.keep (below_grown (row := none) (by (repeat' (first | (with_reducible exact Below.refl _ _) | (with_reducible assumption) | (with_reducible refine Below.alloc ?_ ?_ _) | (with_reducible refine Below.setCell ?_ ?_ _) | (with_reducible refine Below.drew ?_) | (with_reducible refine below_drewN ?_ _) | (with_reducible refine Below.trans ?_ (Below.mono (by assumption) ?_)) | go_size)) : Below wr.heap.size wr _)) (by simp)); rintro e w5 ⟨y, rfl, y0, y1, c5', g5'⟩; (obtain ⟨j, rfl⟩ := Int.eq_ofNat_of_zero_le y0); have hj : j < l'.length := (by omega); have hji : (j : Int) < (m.length : Int) := (by omega); have G4 := (below_grown (row := some (w.heap.size + 1 + 1)) (by (repeat' (first | (with_reducible exact Below.refl _ _) | (with_reducible assumption) | (with_reducible refine Below.alloc ?_ ?_ _) | (with_reducible refine Below.setCell ?_ ?_ _) | (with_reducible refine Below.drew ?_) | (with_reducible refine below_drewN ?_ _) | (with_reducible refine Below.trans ?_ (Below.mono (by assumption) ?_)) | go_size)) : Below wr.heap.size wr _)).trans g5'; have XB4 := XA.grownC G4 (by omega); have WG4 := X5.grownC G4 (by omega); clear g5') | (go_at_call 68; (with_reducible refine (anyCell_any (w.heap.size + 1 + 1) (nb + 2) _ ?_ (by omega)).mono ?_); (focus exact c5'.keep (below_grown (row := none) (by (repeat' (first | (with_reducible exact Below.refl _ _) | (with_reducible assumption) | (with_reducible refine Below.alloc ?_ ?_ _) | (with_reducible refine Below.setCell ?_ ?_ _) | (with_reducible refine Below.drew ?_) | (with_reducible refine below_drewN ?_ _) | (with_reducible refine Below.trans ?_ (Below.mono (by assumption) ?_)) | go_size)) : Below w5.heap.size w5 _)) (by simp)); rintro e w6 ⟨a, b, rfl, hab, c6, g6'⟩; have G5 := G4.trans ((below_grown (row := some (w.heap.size + 1 + 1)) (by (repeat' (first | (with_reducible exact Below.refl _ _) | (with_reducible assumption) | (with_reducible refine Below.alloc ?_ ?_ _) | (with_reducible refine Below.setCell ?_ ?_ _) | (with_reducible refine Below.drew ?_) | (with_reducible refine below_drewN ?_ _) | (with_reducible refine Below.trans ?_ (Below.mono (by assumption) ?_)) | go_size)) : Below w5.heap.size w5 _)).trans g6'); have XB5 := XA.grownC G5 (by omega); have WG5 := X5.grownC G5 (by omega); clear g6'; have m0 : w6.cell? ⟨g5, j * 2, none⟩ = some (.int .i64 l'[j].1) := (WG5.cell (j * 2)).trans (cell_left (flat_at l' j hj).1); have m1 : w6.cell? ⟨g5, j * 2 + 1, none⟩ = some (.int .i64 l'[j].2) := (WG5.cell (j * 2 + 1)).trans (cell_left (flat_at l' j hj).2); have m2 := WG5.frozen (j * 2); have m3 := WG5.frozen (j * 2 + 1)) | fail))
          have WF := (WG5.set (j * 2) (.int .i64 a)).set (j * 2 + 1) (.int .i64 b)
          rw [flat_set _ _ _ _ hj] at WF
          have SI2 := SI.step G5 c6 hp1 hBn
          have SI3 := SInv.sets (j := j * 2) (j' := j * 2 + 1) (u := .int .i64 a) (u' := .int .i64 b) SI2 (show gB < g5 from hg5) hp1 (hB5 hm0)
          have XA3 := (XB5.set_far ⟨g5, j * 2, none⟩ (.int .i64 a) hgne).set_far ⟨g5, j * 2 + 1, none⟩ (.int .i64 b) hgne
          clear XB4 XB5 WG4 WG5 G4 G5 m0 m1 m2 m3 a2 c6 c5' SI SI2 XA X5
          generalize (w6.setCell ⟨g5, j * 2, none⟩ (.int .i64 a)).setCell ⟨g5, j * 2 + 1, none⟩ (.int .i64 b) = w8 at *
          go_wp2
          refine ⟨⟨kk - 1, l'.set j (a, b), rfl, by omega, by rw [List.length_set]; exact hl', ?_, XA3, fun _ => ⟨g5, rest5, rfl, WF⟩⟩, by simp [intOf]; omega⟩
          exact SI3.step (World.grownBy.refl _ _) (SI3.1.mono (by omega)) hp1 hBn
        · have hm00 : m.length = 0 := by omega
          obtain ⟨SC, X0, X1, XB, ho, B1⟩ := SI
          (obtain ⟨b0, b1, b2⟩ := whole3 XB)
          (obtain ⟨a0, a1, a2⟩ := whole3 XA)
          (obtain ⟨q0, q1, q2⟩ := whole3 (x := .int .i64 0) (y := .int .i64 0) (z := .slice none 0 0) X0)
          (obtain ⟨q3, q4, q5⟩ := whole3 (x := .int .i64 0) (y := .int .i64 0) (z := .slice none 0 0) X1)
          have f0 := X0.frozen 0
          have f1 := X0.frozen 1
          have f2 := X0.frozen 2
          have f3 := X1.frozen 0
          have f4 := X1.frozen 1
          have f5 := X1.frozen 2
          have h0l := X0.lt
          have h1l := X1.lt
          have hbl := XB.lt
          have na0 : w.heap.size ≠ g6 := by omega
          have na1 : w.heap.size + 1 ≠ g6 := by omega
          have n01 : w.heap.size ≠ w.heap.size + 1 := by omega
          go_upto_region 10 with (fail)
          go_region
          go_wp2
          refine bodyPost_ret (v := .tuple #[.agg #[.int .i64 R, .int .i64 C, .slice B m.length k], .agg #[.int .i64 R, .int .i64 C, .slice A5 m.length c5]]) ?_ rfl ?_; (focus (simp [results, Try.results23, go_sem, *]; done))
          exact ⟨R, C, B, k, m, R, C, A5, c5, l', by rw [hl'], ⟨hR, hC, h90, at_drew (at_six ho (fun a ha => by have := hBn a ha; omega)), fun a ha => by have := hBn a ha; omega⟩,
            ⟨hR, hC, by omega, at_drew (at_six O5.at_ (fun a ha => by have := h5n a ha; omega)), fun a ha => by have := h5n a ha; omega⟩, (below_six B1).drew⟩
      · have hk00 : kk = 0 := by omega
        obtain ⟨SC, X0, X1, XB, ho, B1⟩ := SI
        (obtain ⟨b0, b1, b2⟩ := whole3 XB)
        (obtain ⟨a0, a1, a2⟩ := whole3 XA)
        (obtain ⟨q0, q1, q2⟩ := whole3 (x := .int .i64 0) (y := .int .i64 0) (z := .slice none 0 0) X0)
        (obtain ⟨q3, q4, q5⟩ := whole3 (x := .int .i64 0) (y := .int .i64 0) (z := .slice none 0 0) X1)
        have f0 := X0.frozen 0
        have f1 := X0.frozen 1
        have f2 := X0.frozen 2
        have f3 := X1.frozen 0
        have f4 := X1.frozen 1
        have f5 := X1.frozen 2
        have h0l := X0.lt
        have h1l := X1.lt
        have hbl := XB.lt
        have na0 : w.heap.size ≠ g6 := by omega
        have na1 : w.heap.size + 1 ≠ g6 := by omega
        have n01 : w.heap.size ≠ w.heap.size + 1 := by omega
        go_upto_region 10 with (fail)
        go_region
        go_wp2
        refine bodyPost_ret (v := .tuple #[.agg #[.int .i64 R, .int .i64 C, .slice B m.length k], .agg #[.int .i64 R, .int .i64 C, .slice A5 m.length c5]]) ?_ rfl ?_; (focus (simp [results, Try.results23, go_sem, *]; done))
        exact ⟨R, C, B, k, m, R, C, A5, c5, l', by rw [hl'], ⟨hR, hC, h90, at_drew (at_six ho (fun a ha => by have := hBn a ha; omega)), fun a ha => by have := hBn a ha; omega⟩,
          ⟨hR, hC, by omega, at_drew (at_six O5.at_ (fun a ha => by have := h5n a ha; omega)), fun a ha => by have := h5n a ha; omega⟩, (below_six B1).drew⟩
end Go.Proofs.Ytpfjbecpfdgnpaa
