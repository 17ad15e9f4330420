/- Contracts of the program and of the model, walked, part 11 of 11. No condition but what each says. -/
import Derived.Test.YtpfjbecpfdgnpaaM9
import Derived.Test.YtpfjbecpfdgnpaaM6
import Derived.Test.YtpfjbecpfdgnpaaM10
namespace Go.Proofs.Ytpfjbecpfdgnpaa
open Go.ChangeShapes Go.WideShapes Go.ChangeAt Go.RowKit Go.Joins Go.Deep
set_option linter.unusedSimpArgs false
set_option linter.unusedVariables false
set_option maxRecDepth 100000
set_option maxHeartbeats 4000000
def okN (R C : Int) (l : List (Int × Int)) (p q bl rd nx i j : Int) : Bool := okM R C l p q bl rd nx && inM 0 30 i && inM 0 30 j && inM 0 30 (bl + i) && inM 0 30 (rd + j)
def refO (R C : Int) (l : List (Int × Int)) (p q bl rd nx i j : Int) : MSt := if okN R C l p q bl rd nx i j then ⟨l, bl + i, rd + j, nx, [], []⟩ else noM
theorem refO_len (R C : Int) (l : List (Int × Int)) (p q bl rd nx i j : Int) (hn : l.length ≤ 1048576) : (refO R C l p q bl rd nx i j).l.length ≤ 1048576 := by
  unfold refO
  split
  · exact hn
  · exact Nat.zero_le _
/-- A machine of the call's own, and whether it succeeds. -/
def PostAM (w : World) (R C : Int) (p q : Int) (s : MSt) (ok : Bool) (e : Ending) (w' : World) : Prop :=
  ∃ A' cap', e = .returned (.tuple #[.agg #[.int .i64 R, .int .i64 C, .slice A' s.l.length cap', .int .i64 p, .int .i64 q, .int .i64 s.bl, .int .i64 s.rd, .int .i64 s.nx], .bool ok]) ∧ Own w' A' 27 (flat s.l) ∧ New w A' ∧ Below w.heap.size w w'
theorem PostAM.none_ {w w' : World} (b : Below w.heap.size w w') : PostAM w 0 0 0 0 noM false (.returned (.tuple #[(.agg #[.int .i64 0, .int .i64 0, .slice none 0 0, .int .i64 0, .int .i64 0, .int .i64 0, .int .i64 0, .int .i64 0]), .bool false])) w' :=
  ⟨none, 0, rfl, Own.none_, New.none_, b⟩
theorem PostAM.no {w w' : World} {R C : Int} {l : List (Int × Int)} {p q bl rd nx i j : Int} {ok : Bool} {sF : MSt} (h : okN R C l p q bl rd nx i j = false) (HN : Hid (okN R C l p q bl rd nx i j = ok)) (HF : Hid (refO R C l p q bl rd nx i j = sF)) (b : Below w.heap.size w w') :
    PostAM w (selI ok R) (selI ok C) (selI ok p) (selI ok q) sF ok (.returned (.tuple #[(.agg #[.int .i64 0, .int .i64 0, .slice none 0 0, .int .i64 0, .int .i64 0, .int .i64 0, .int .i64 0, .int .i64 0]), .bool false])) w' := by
  obtain rfl : ok = false := HN.out.symm.trans h
  obtain rfl : sF = noM := HF.out.symm.trans (by unfold refO; rw [h]; rfl)
  exact PostAM.none_ b
theorem PostAM.yes {w w' : World} {R C : Int} {l : List (Int × Int)} {p q bl rd nx i j : Int} {ok : Bool} {sF : MSt} {A5 : Option Addr} {c5 : Nat} (h : okN R C l p q bl rd nx i j = true) (HN : Hid (okN R C l p q bl rd nx i j = ok)) (HF : Hid (refO R C l p q bl rd nx i j = sF)) (O : Own w' A5 27 (flat l)) (N : New w A5) (b : Below w.heap.size w w') :
    PostAM w (selI ok R) (selI ok C) (selI ok p) (selI ok q) sF ok (.returned (.tuple #[.agg #[.int .i64 R, .int .i64 C, .slice A5 l.length c5, .int .i64 p, .int .i64 q, .int .i64 (bl + i), .int .i64 (rd + j), .int .i64 nx], .bool true])) w' := by
  obtain rfl : ok = true := HN.out.symm.trans h
  obtain rfl : sF = ⟨l, bl + i, rd + j, nx, [], []⟩ := HF.out.symm.trans (by unfold refO; rw [h]; rfl)
  exact ⟨A5, c5, rfl, O, N, b⟩
theorem inM_iff {lo hi n : Int} : inM lo hi n = true ↔ lo ≤ n ∧ n ≤ hi := by
  unfold inM
  simp
theorem okM_more {R C : Int} {l : List (Int × Int)} {p q bl rd nx : Int} (h : okM R C l p q bl rd nx = true) (x y : Int) : okM R C l p q x y nx = (inM 0 30 x && inM 0 30 y) := by
  unfold okM at h ⊢
  simp only [Bool.and_eq_true] at h
  rw [h.1.1.1.1, h.1.1.1.2, h.2]
  cases inM 0 30 x <;> cases inM 0 30 y <;> rfl
theorem okM_nx {R C : Int} {l : List (Int × Int)} {p q bl rd nx : Int} (h : okM R C l p q bl rd nx = true) : 0 ≤ bl ∧ bl ≤ 30 ∧ 0 ≤ rd ∧ rd ≤ 30 := by
  obtain ⟨-, -, a, b, c, d, -, -⟩ := okM_parts h
  exact ⟨a, b, c, d⟩
theorem spec_RefillMachine (R C : Int) (A : Option Addr) (cap : Nat) (l : List (Int × Int)) (p q bl rd nx i j : Int) (w : World) (hn : l.length ≤ 1048576) (hr : Rd w w.heap.size A (flat l)) :
    Calls Try.prog 61 #[.agg #[.int .i64 R, .int .i64 C, .slice A l.length cap, .int .i64 p, .int .i64 q, .int .i64 bl, .int .i64 rd, .int .i64 nx], .int .i64 i, .int .i64 j] w (PostAM w (selI (okN R C l p q bl rd nx i j) R) (selI (okN R C l p q bl rd nx i j) C) (selI (okN R C l p q bl rd nx i j) p) (selI (okN R C l p q bl rd nx i j) q) (refO R C l p q bl rd nx i j) (okN R C l p q bl rd nx i j)) := by
  obtain ⟨ok, hN⟩ : ∃ ok, okN R C l p q bl rd nx i j = ok := ⟨_, rfl⟩
  obtain ⟨sF, hF⟩ : ∃ s, refO R C l p q bl rd nx i j = s := ⟨_, rfl⟩
  rewrite [hN, hF]
  have HN := Lib.hid hN
  have HF := Lib.hid hF
  clear hN hF
  rcases Bool.eq_false_or_eq_true (okM R C l p q bl rd nx) with ho | ho
  · have HO := Lib.hid ho
    obtain ⟨y1, y2, y3, y4⟩ := okM_nx ho
    have HMo := Lib.hid (okM_more ho)
    rcases Bool.eq_false_or_eq_true (inM 0 30 i) with hi | hi
    · have HI2 := Lib.hid hi
      have HI := Lib.hid (show (decide (0 ≤ i) && decide (i ≤ 30)) = true from hi)
      obtain ⟨x1, x2⟩ := inM_iff.1 hi
      rcases Bool.eq_false_or_eq_true (inM 0 30 j) with hj | hj
      · have HJ2 := Lib.hid hj
        have HJ := Lib.hid (show (decide (0 ≤ j) && decide (j ≤ 30)) = true from hj)
        obtain ⟨x3, x4⟩ := inM_iff.1 hj
        have m1 : IntKind.i64.wrap (bl + i) = bl + i := IntWalk.i64_in _ (by omega)
        have m2 : IntKind.i64.wrap (rd + j) = rd + j := IntWalk.i64_in _ (by omega)
        obtain ⟨r, c, rfl, rfl, hG, hg, hp, hq⟩ := okM_ints ho
        obtain ⟨_, _, hpos⟩ := goodB_parts hg
        obtain ⟨b, o, rfl, hbl, hc⟩ := hr (by rw [flat_length]; omega)
        have hr' : Rd w w.heap.size (some ⟨b, o, none⟩) (flat l) := fun _ => ⟨b, o, rfl, hbl, hc⟩
        clear hG hg hp hq hbl hc hi hj ho
        go_enter Try.func61, Try.ntmps61
        obtain ⟨v0, hv0, X0, X1, B0, hz0⟩ := two_boxes w [.int .i64 (r : Int), .int .i64 (c : Int), .slice (some ⟨b, o, none⟩) l.length cap, .int .i64 p, .int .i64 q, .int .i64 bl, .int .i64 rd, .int .i64 nx] 56 [.int .i64 0, .int .i64 0, .slice none 0 0, .int .i64 0, .int .i64 0, .int .i64 0, .int .i64 0, .int .i64 0] 56; have HV := Lib.hid hv0; have hz : w.heap.size + 1 < v0.heap.size := (by omega); have hy : w.heap.size < v0.heap.size := (by omega); have hb0 := B0.size; clear hv0 hz0; go_wp2_with fail; rewrite [show (w.alloc (.cells ([.int .i64 (r : Int), .int .i64 (c : Int), .slice (some ⟨b, o, none⟩) l.length cap, .int .i64 p, .int .i64 q, .int .i64 bl, .int .i64 rd, .int .i64 nx] : List Value).toArray 56)).alloc (.cells ([.int .i64 0, .int .i64 0, .slice none 0 0, .int .i64 0, .int .i64 0, .int .i64 0, .int .i64 0, .int .i64 0] : List Value).toArray 56) = v0 from HV.out]; clear HV
        refine (spec_maGood _ _ _ _ l _ _ _ _ _ _ hn ((hr'.below B0).mono B0.size)).mono ?_; rintro e w1 ⟨rfl, b1⟩
        rewrite [HO.out]
        replace X0 := X0.below b1 X0.lt; replace X1 := X1.below b1 X1.lt; replace B0 := B0.trans (b1.mono B0.size); have hy := X0.lt; have hz := X1.lt; have hb0 := B0.size; clear b1
        go_wp2_with fail
        refine (spec_l1In _ _ _ _).mono ?_; rintro e w2 ⟨rfl, rfl⟩
        rewrite [HI.out]
        go_wp2_with fail
        refine (spec_l1In _ _ _ _).mono ?_; rintro e w3 ⟨rfl, rfl⟩
        rewrite [HJ.out]
        have X0k0 : w1.cell? ⟨w.heap.size, 0, none⟩ = some (.int .i64 (r : Int)) := (X0.cell 0).trans rfl; have X0k1 : w1.cell? ⟨w.heap.size, 1, none⟩ = some (.int .i64 (c : Int)) := (X0.cell 1).trans rfl; have X0k2 : w1.cell? ⟨w.heap.size, 2, none⟩ = some (.slice (some ⟨b, o, none⟩) l.length cap) := (X0.cell 2).trans rfl
        go_wp2_with fail
        refine (spec_boOwn _ _ _ _ _ l _ hpos hn ((hr'.below B0).mono B0.size)).mono ?_; rintro e w4 hP
        obtain ⟨A5, c5, rfl, O5, n5, b4⟩ := hP
        clear X0k0 X0k1 X0k2
        have N5 : New w A5 := fun a ha => Nat.le_trans B0.size (n5 a ha)
        have hne5 : ∀ a, A5 = some a → w.heap.size ≠ a.block := fun a ha => by have h := n5 a ha; omega
        replace X0 := X0.below b4 X0.lt; replace X1 := X1.below b4 X1.lt; replace B0 := B0.trans (b4.mono B0.size); have hy := X0.lt; have hz := X1.lt; have hb0 := B0.size; clear b4
        clear n5
        have X0k0 : w4.cell? ⟨w.heap.size, 0, none⟩ = some (.int .i64 (r : Int)) := (X0.cell 0).trans rfl; have X0k1 : w4.cell? ⟨w.heap.size, 1, none⟩ = some (.int .i64 (c : Int)) := (X0.cell 1).trans rfl; have X0k2 : w4.cell? ⟨w.heap.size, 2, none⟩ = some (.slice (some ⟨b, o, none⟩) l.length cap) := (X0.cell 2).trans rfl
        have X0k3 : w4.cell? ⟨w.heap.size, 5, none⟩ = some (.int .i64 bl) := (X0.cell 5).trans rfl
        have X0k4 : w4.cell? ⟨w.heap.size, 6, none⟩ = some (.int .i64 rd) := (X0.cell 6).trans rfl
        have X0f0 := X0.frozen 0; have X0f1 := X0.frozen 1; have X0f2 := X0.frozen 2
        have X0f5 := X0.frozen 5
        have X0f6 := X0.frozen 6
        have n01 : w.heap.size ≠ w.heap.size + 1 := by omega
        go_upto_region 6 with (fail)
        obtain ⟨v2, hv2⟩ : ∃ v2, v2 = ((((w4.setCell ⟨w.heap.size, 0, none⟩ (.int .i64 (r : Int))).setCell ⟨w.heap.size, 1, none⟩ (.int .i64 (c : Int))).setCell ⟨w.heap.size, 2, none⟩ (.slice A5 l.length c5)).setCell ⟨w.heap.size, 5, none⟩ (.int .i64 (bl + i))).setCell ⟨w.heap.size, 6, none⟩ (.int .i64 (rd + j)) := ⟨_, rfl⟩
        have Y0 : Whole v2 w.heap.size 56 [.int .i64 (r : Int), .int .i64 (c : Int), .slice A5 l.length c5, .int .i64 p, .int .i64 q, .int .i64 (bl + i), .int .i64 (rd + j), .int .i64 nx] := by rw [hv2]; exact ((whole_three8 X0).set 5 (.int .i64 (bl + i))).set 6 (.int .i64 (rd + j))
        replace X1 : Whole v2 (w.heap.size + 1) 56 [.int .i64 0, .int .i64 0, .slice none 0 0, .int .i64 0, .int .i64 0, .int .i64 0, .int .i64 0, .int .i64 0] := by rw [hv2]; exact ((three_far X1 n01).set_far _ _ n01).set_far _ _ n01
        replace O5 : Own v2 A5 27 (flat l) := by
          rw [hv2]
          exact ((((O5.set_far2 _ _ (fun hx a ha => hne5 a ha)).set_far2 _ _ (fun hx a ha => hne5 a ha)).set_far2 _ _ (fun hx a ha => hne5 a ha)).set_far2 _ _ (fun hx a ha => hne5 a ha)).set_far2 _ _ (fun hx a ha => hne5 a ha)
        replace B0 : Below w.heap.size w v2 := by rw [hv2]; exact ((((B0.setCell (p := ⟨w.heap.size, 0, none⟩) (Nat.le_refl _) _).setCell (p := ⟨w.heap.size, 1, none⟩) (Nat.le_refl _) _).setCell (p := ⟨w.heap.size, 2, none⟩) (Nat.le_refl _) _).setCell (p := ⟨w.heap.size, 5, none⟩) (Nat.le_refl _) _).setCell (p := ⟨w.heap.size, 6, none⟩) (Nat.le_refl _) _
        clear X0k0 X0k1 X0k2
        clear X0f0 X0f1 X0f2 X0f5 X0f6 X0k3 X0k4
        rewrite [← hv2]
        clear hv2 X0 hy hz hb0 hne5
        have hy := Y0.lt
        have hz := X1.lt
        have Y0k0 : v2.cell? ⟨w.heap.size, 0, none⟩ = some (.int .i64 (r : Int)) := (Y0.cell 0).trans rfl; have Y0k1 : v2.cell? ⟨w.heap.size, 1, none⟩ = some (.int .i64 (c : Int)) := (Y0.cell 1).trans rfl; have Y0k2 : v2.cell? ⟨w.heap.size, 2, none⟩ = some (.slice A5 l.length c5) := (Y0.cell 2).trans rfl; have Y0k3 : v2.cell? ⟨w.heap.size, 3, none⟩ = some (.int .i64 p) := (Y0.cell 3).trans rfl; have Y0k4 : v2.cell? ⟨w.heap.size, 4, none⟩ = some (.int .i64 q) := (Y0.cell 4).trans rfl; have Y0k5 : v2.cell? ⟨w.heap.size, 5, none⟩ = some (.int .i64 (bl + i)) := (Y0.cell 5).trans rfl
        have Y0k6 : v2.cell? ⟨w.heap.size, 6, none⟩ = some (.int .i64 (rd + j)) := (Y0.cell 6).trans rfl; have Y0k7 : v2.cell? ⟨w.heap.size, 7, none⟩ = some (.int .i64 nx) := (Y0.cell 7).trans rfl
        go_wp2_with fail
        refine (spec_maGood _ _ _ _ l _ _ _ _ _ _ hn O5.rd).mono ?_; rintro e w5 ⟨rfl, b5⟩
        clear Y0k0 Y0k1 Y0k2 Y0k3 Y0k4 Y0k5 Y0k6 Y0k7
        rewrite [HMo.out (bl + i) (rd + j)]
        replace Y0 := Y0.below b5 Y0.lt
        replace X1 := X1.below b5 X1.lt
        replace O5 := O5.keep b5
        replace B0 := B0.trans (b5.mono B0.size)
        clear b5 hy hz
        have hy := Y0.lt
        have hz := X1.lt
        rcases Bool.eq_false_or_eq_true (inM 0 30 (bl + i) && inM 0 30 (rd + j)) with hk | hk
        · have HK := Lib.hid hk
          rewrite [hk]
          clear hk
          have Y0k0 : w5.cell? ⟨w.heap.size, 0, none⟩ = some (.int .i64 (r : Int)) := (Y0.cell 0).trans rfl; have Y0k1 : w5.cell? ⟨w.heap.size, 1, none⟩ = some (.int .i64 (c : Int)) := (Y0.cell 1).trans rfl; have Y0k2 : w5.cell? ⟨w.heap.size, 2, none⟩ = some (.slice A5 l.length c5) := (Y0.cell 2).trans rfl; have Y0k3 : w5.cell? ⟨w.heap.size, 3, none⟩ = some (.int .i64 p) := (Y0.cell 3).trans rfl; have Y0k4 : w5.cell? ⟨w.heap.size, 4, none⟩ = some (.int .i64 q) := (Y0.cell 4).trans rfl; have Y0k5 : w5.cell? ⟨w.heap.size, 5, none⟩ = some (.int .i64 (bl + i)) := (Y0.cell 5).trans rfl
          have Y0k6 : w5.cell? ⟨w.heap.size, 6, none⟩ = some (.int .i64 (rd + j)) := (Y0.cell 6).trans rfl; have Y0k7 : w5.cell? ⟨w.heap.size, 7, none⟩ = some (.int .i64 nx) := (Y0.cell 7).trans rfl
          have X1k0 : w5.cell? ⟨w.heap.size + 1, 0, none⟩ = some (.int .i64 0) := (X1.cell 0).trans rfl; have X1k1 : w5.cell? ⟨w.heap.size + 1, 1, none⟩ = some (.int .i64 0) := (X1.cell 1).trans rfl; have X1k2 : w5.cell? ⟨w.heap.size + 1, 2, none⟩ = some (.slice none 0 0) := (X1.cell 2).trans rfl; have X1k3 : w5.cell? ⟨w.heap.size + 1, 3, none⟩ = some (.int .i64 0) := (X1.cell 3).trans rfl; have X1k4 : w5.cell? ⟨w.heap.size + 1, 4, none⟩ = some (.int .i64 0) := (X1.cell 4).trans rfl; have X1k5 : w5.cell? ⟨w.heap.size + 1, 5, none⟩ = some (.int .i64 0) := (X1.cell 5).trans rfl
          have X1k6 : w5.cell? ⟨w.heap.size + 1, 6, none⟩ = some (.int .i64 0) := (X1.cell 6).trans rfl; have X1k7 : w5.cell? ⟨w.heap.size + 1, 7, none⟩ = some (.int .i64 0) := (X1.cell 7).trans rfl
          have X1f0 := X1.frozen 0; have X1f1 := X1.frozen 1; have X1f2 := X1.frozen 2; have X1f3 := X1.frozen 3; have X1f4 := X1.frozen 4; have X1f5 := X1.frozen 5; have X1f6 := X1.frozen 6; have X1f7 := X1.frozen 7
          go_wp2
          rewrite [mset_fold]; obtain ⟨v4, hv4⟩ : ∃ v4, v4 = mset w5 (w.heap.size + 1) (.int .i64 (r : Int)) (.int .i64 (c : Int)) (.slice A5 l.length c5) (.int .i64 p) (.int .i64 q) (.int .i64 (bl + i)) (.int .i64 (rd + j)) (.int .i64 nx) := ⟨_, rfl⟩; have Z1 : Whole v4 (w.heap.size + 1) 56 [.int .i64 (r : Int), .int .i64 (c : Int), .slice A5 l.length c5, .int .i64 p, .int .i64 q, .int .i64 (bl + i), .int .i64 (rd + j), .int .i64 nx] := (by rw [hv4]; exact Whole.mset X1 _ _ _ _ _ _ _ _)
          replace O5 : Own v4 A5 27 (flat l) := by rw [hv4]; exact own_mset O5 X1 (by decide)
          replace B0 : Below w.heap.size w v4 := by rw [hv4]; exact below_mset B0 (by omega)
          clear Y0k0 Y0k1 Y0k2 Y0k3 Y0k4 Y0k5 Y0k6 Y0k7
          clear X1k0 X1k1 X1k2 X1k3 X1k4 X1k5 X1k6 X1k7
          clear X1f0 X1f1 X1f2 X1f3 X1f4 X1f5 X1f6 X1f7
          rewrite [← hv4]
          clear hv4 X1 Y0
          have Z1k0 : v4.cell? ⟨w.heap.size + 1, 0, none⟩ = some (.int .i64 (r : Int)) := (Z1.cell 0).trans rfl; have Z1k1 : v4.cell? ⟨w.heap.size + 1, 1, none⟩ = some (.int .i64 (c : Int)) := (Z1.cell 1).trans rfl; have Z1k2 : v4.cell? ⟨w.heap.size + 1, 2, none⟩ = some (.slice A5 l.length c5) := (Z1.cell 2).trans rfl; have Z1k3 : v4.cell? ⟨w.heap.size + 1, 3, none⟩ = some (.int .i64 p) := (Z1.cell 3).trans rfl; have Z1k4 : v4.cell? ⟨w.heap.size + 1, 4, none⟩ = some (.int .i64 q) := (Z1.cell 4).trans rfl; have Z1k5 : v4.cell? ⟨w.heap.size + 1, 5, none⟩ = some (.int .i64 (bl + i)) := (Z1.cell 5).trans rfl; have Z1k6 : v4.cell? ⟨w.heap.size + 1, 6, none⟩ = some (.int .i64 (rd + j)) := (Z1.cell 6).trans rfl; have Z1k7 : v4.cell? ⟨w.heap.size + 1, 7, none⟩ = some (.int .i64 nx) := (Z1.cell 7).trans rfl
          refine bodyPost_ret (v := .tuple #[.agg #[.int .i64 (r : Int), .int .i64 (c : Int), .slice A5 l.length c5, .int .i64 p, .int .i64 q, .int .i64 (bl + i), .int .i64 (rd + j), .int .i64 nx], .bool true]) ?_ rfl ?_; (focus (simp [results, Try.results61, go_sem, *]; done))
          exact PostAM.yes (by unfold okN; rw [HO.out, HI2.out, HJ2.out]; exact HK.out) HN HF O5 N5 B0
        · have HK := Lib.hid hk
          rewrite [hk]
          clear hk
          (have X1 := X1; have X1k0 : w5.cell? ⟨w.heap.size + 1, 0, none⟩ = some (.int .i64 0) := (X1.cell 0).trans rfl; have X1k1 : w5.cell? ⟨w.heap.size + 1, 1, none⟩ = some (.int .i64 0) := (X1.cell 1).trans rfl; have X1k2 : w5.cell? ⟨w.heap.size + 1, 2, none⟩ = some (.slice none 0 0) := (X1.cell 2).trans rfl; have X1k3 : w5.cell? ⟨w.heap.size + 1, 3, none⟩ = some (.int .i64 0) := (X1.cell 3).trans rfl; have X1k4 : w5.cell? ⟨w.heap.size + 1, 4, none⟩ = some (.int .i64 0) := (X1.cell 4).trans rfl; have X1k5 : w5.cell? ⟨w.heap.size + 1, 5, none⟩ = some (.int .i64 0) := (X1.cell 5).trans rfl; have X1k6 : w5.cell? ⟨w.heap.size + 1, 6, none⟩ = some (.int .i64 0) := (X1.cell 6).trans rfl; have X1k7 : w5.cell? ⟨w.heap.size + 1, 7, none⟩ = some (.int .i64 0) := (X1.cell 7).trans rfl; have X1f0 := X1.frozen 0; have X1f1 := X1.frozen 1; have X1f2 := X1.frozen 2; have X1f3 := X1.frozen 3; have X1f4 := X1.frozen 4; have X1f5 := X1.frozen 5; have X1f6 := X1.frozen 6; have X1f7 := X1.frozen 7; go_wp2; rewrite [mset_fold]; obtain ⟨v4, hv4⟩ : ∃ v4, v4 = mset w5 (w.heap.size + 1) (.int .i64 0) (.int .i64 0) (.slice none 0 0) (.int .i64 0) (.int .i64 0) (.int .i64 0) (.int .i64 0) (.int .i64 0) := ⟨_, rfl⟩; have Z1 : Whole v4 (w.heap.size + 1) 56 [.int .i64 0, .int .i64 0, .slice none 0 0, .int .i64 0, .int .i64 0, .int .i64 0, .int .i64 0, .int .i64 0] := (by rw [hv4]; exact Whole.mset X1 _ _ _ _ _ _ _ _); replace B0 : Below w.heap.size w v4 := (by rw [hv4]; exact below_mset B0 (by omega)); clear X1k0 X1k1 X1k2 X1k3 X1k4 X1k5 X1k6 X1k7; clear X1f0 X1f1 X1f2 X1f3 X1f4 X1f5 X1f6 X1f7; rewrite [← hv4]; clear hv4; have Z1k0 : v4.cell? ⟨w.heap.size + 1, 0, none⟩ = some (.int .i64 0) := (Z1.cell 0).trans rfl; have Z1k1 : v4.cell? ⟨w.heap.size + 1, 1, none⟩ = some (.int .i64 0) := (Z1.cell 1).trans rfl; have Z1k2 : v4.cell? ⟨w.heap.size + 1, 2, none⟩ = some (.slice none 0 0) := (Z1.cell 2).trans rfl; have Z1k3 : v4.cell? ⟨w.heap.size + 1, 3, none⟩ = some (.int .i64 0) := (Z1.cell 3).trans rfl; have Z1k4 : v4.cell? ⟨w.heap.size + 1, 4, none⟩ = some (.int .i64 0) := (Z1.cell 4).trans rfl; have Z1k5 : v4.cell? ⟨w.heap.size + 1, 5, none⟩ = some (.int .i64 0) := (Z1.cell 5).trans rfl; have Z1k6 : v4.cell? ⟨w.heap.size + 1, 6, none⟩ = some (.int .i64 0) := (Z1.cell 6).trans rfl; have Z1k7 : v4.cell? ⟨w.heap.size + 1, 7, none⟩ = some (.int .i64 0) := (Z1.cell 7).trans rfl)
          refine bodyPost_ret (v := .tuple #[(.agg #[.int .i64 0, .int .i64 0, .slice none 0 0, .int .i64 0, .int .i64 0, .int .i64 0, .int .i64 0, .int .i64 0]), .bool false]) ?_ rfl ?_; (focus (simp [results, Try.results61, go_sem, *]; done))
          exact PostAM.no (by unfold okN; rw [HO.out, HI2.out, HJ2.out]; exact HK.out) HN HF B0
      · have HJ2 := Lib.hid hj
        have HJ := Lib.hid (show (decide (0 ≤ j) && decide (j ≤ 30)) = false from hj)
        clear ho hi hj HMo
        go_enter Try.func61, Try.ntmps61
        obtain ⟨v0, hv0, X0, X1, B0, hz0⟩ := two_boxes w [.int .i64 R, .int .i64 C, .slice A l.length cap, .int .i64 p, .int .i64 q, .int .i64 bl, .int .i64 rd, .int .i64 nx] 56 [.int .i64 0, .int .i64 0, .slice none 0 0, .int .i64 0, .int .i64 0, .int .i64 0, .int .i64 0, .int .i64 0] 56; have HV := Lib.hid hv0; have hz : w.heap.size + 1 < v0.heap.size := (by omega); have hy : w.heap.size < v0.heap.size := (by omega); have hb0 := B0.size; clear hv0 hz0; go_wp2_with fail; rewrite [show (w.alloc (.cells ([.int .i64 R, .int .i64 C, .slice A l.length cap, .int .i64 p, .int .i64 q, .int .i64 bl, .int .i64 rd, .int .i64 nx] : List Value).toArray 56)).alloc (.cells ([.int .i64 0, .int .i64 0, .slice none 0 0, .int .i64 0, .int .i64 0, .int .i64 0, .int .i64 0, .int .i64 0] : List Value).toArray 56) = v0 from HV.out]; clear HV
        refine (spec_maGood _ _ _ _ l _ _ _ _ _ _ hn ((hr.below B0).mono B0.size)).mono ?_; rintro e w1 ⟨rfl, b1⟩
        rewrite [HO.out]
        replace X0 := X0.below b1 X0.lt; replace X1 := X1.below b1 X1.lt; replace B0 := B0.trans (b1.mono B0.size); have hy := X0.lt; have hz := X1.lt; have hb0 := B0.size; clear b1
        go_wp2_with fail
        refine (spec_l1In _ _ _ _).mono ?_; rintro e w2 ⟨rfl, rfl⟩
        rewrite [HI.out]
        go_wp2_with fail
        refine (spec_l1In _ _ _ _).mono ?_; rintro e w3 ⟨rfl, rfl⟩
        rewrite [HJ.out]
        (have X1 := X1; have X1k0 : w1.cell? ⟨w.heap.size + 1, 0, none⟩ = some (.int .i64 0) := (X1.cell 0).trans rfl; have X1k1 : w1.cell? ⟨w.heap.size + 1, 1, none⟩ = some (.int .i64 0) := (X1.cell 1).trans rfl; have X1k2 : w1.cell? ⟨w.heap.size + 1, 2, none⟩ = some (.slice none 0 0) := (X1.cell 2).trans rfl; have X1k3 : w1.cell? ⟨w.heap.size + 1, 3, none⟩ = some (.int .i64 0) := (X1.cell 3).trans rfl; have X1k4 : w1.cell? ⟨w.heap.size + 1, 4, none⟩ = some (.int .i64 0) := (X1.cell 4).trans rfl; have X1k5 : w1.cell? ⟨w.heap.size + 1, 5, none⟩ = some (.int .i64 0) := (X1.cell 5).trans rfl; have X1k6 : w1.cell? ⟨w.heap.size + 1, 6, none⟩ = some (.int .i64 0) := (X1.cell 6).trans rfl; have X1k7 : w1.cell? ⟨w.heap.size + 1, 7, none⟩ = some (.int .i64 0) := (X1.cell 7).trans rfl; have X1f0 := X1.frozen 0; have X1f1 := X1.frozen 1; have X1f2 := X1.frozen 2; have X1f3 := X1.frozen 3; have X1f4 := X1.frozen 4; have X1f5 := X1.frozen 5; have X1f6 := X1.frozen 6; have X1f7 := X1.frozen 7; go_wp2; rewrite [mset_fold]; obtain ⟨v4, hv4⟩ : ∃ v4, v4 = mset w1 (w.heap.size + 1) (.int .i64 0) (.int .i64 0) (.slice none 0 0) (.int .i64 0) (.int .i64 0) (.int .i64 0) (.int .i64 0) (.int .i64 0) := ⟨_, rfl⟩; have Z1 : Whole v4 (w.heap.size + 1) 56 [.int .i64 0, .int .i64 0, .slice none 0 0, .int .i64 0, .int .i64 0, .int .i64 0, .int .i64 0, .int .i64 0] := (by rw [hv4]; exact Whole.mset X1 _ _ _ _ _ _ _ _); replace B0 : Below w.heap.size w v4 := (by rw [hv4]; exact below_mset B0 (by omega)); clear X1k0 X1k1 X1k2 X1k3 X1k4 X1k5 X1k6 X1k7; clear X1f0 X1f1 X1f2 X1f3 X1f4 X1f5 X1f6 X1f7; rewrite [← hv4]; clear hv4; have Z1k0 : v4.cell? ⟨w.heap.size + 1, 0, none⟩ = some (.int .i64 0) := (Z1.cell 0).trans rfl; have Z1k1 : v4.cell? ⟨w.heap.size + 1, 1, none⟩ = some (.int .i64 0) := (Z1.cell 1).trans rfl; have Z1k2 : v4.cell? ⟨w.heap.size + 1, 2, none⟩ = some (.slice none 0 0) := (Z1.cell 2).trans rfl; have Z1k3 : v4.cell? ⟨w.heap.size + 1, 3, none⟩ = some (.int .i64 0) := (Z1.cell 3).trans rfl; have Z1k4 : v4.cell? ⟨w.heap.size + 1, 4, none⟩ = some (.int .i64 0) := (Z1.cell 4).trans rfl; have Z1k5 : v4.cell? ⟨w.heap.size + 1, 5, none⟩ = some (.int .i64 0) := (Z1.cell 5).trans rfl; have Z1k6 : v4.cell? ⟨w.heap.size + 1, 6, none⟩ = some (.int .i64 0) := (Z1.cell 6).trans rfl; have Z1k7 : v4.cell? ⟨w.heap.size + 1, 7, none⟩ = some (.int .i64 0) := (Z1.cell 7).trans rfl)
        refine bodyPost_ret (v := .tuple #[(.agg #[.int .i64 0, .int .i64 0, .slice none 0 0, .int .i64 0, .int .i64 0, .int .i64 0, .int .i64 0, .int .i64 0]), .bool false]) ?_ rfl ?_; (focus (simp [results, Try.results61, go_sem, *]; done))
        exact PostAM.no (by unfold okN; rw [HO.out, HI2.out, HJ2.out]; rfl) HN HF B0
    · have HI2 := Lib.hid hi
      have HI := Lib.hid (show (decide (0 ≤ i) && decide (i ≤ 30)) = false from hi)
      clear ho hi HMo
      go_enter Try.func61, Try.ntmps61
      obtain ⟨v0, hv0, X0, X1, B0, hz0⟩ := two_boxes w [.int .i64 R, .int .i64 C, .slice A l.length cap, .int .i64 p, .int .i64 q, .int .i64 bl, .int .i64 rd, .int .i64 nx] 56 [.int .i64 0, .int .i64 0, .slice none 0 0, .int .i64 0, .int .i64 0, .int .i64 0, .int .i64 0, .int .i64 0] 56; have HV := Lib.hid hv0; have hz : w.heap.size + 1 < v0.heap.size := (by omega); have hy : w.heap.size < v0.heap.size := (by omega); have hb0 := B0.size; clear hv0 hz0; go_wp2_with fail; rewrite [show (w.alloc (.cells ([.int .i64 R, .int .i64 C, .slice A l.length cap, .int .i64 p, .int .i64 q, .int .i64 bl, .int .i64 rd, .int .i64 nx] : List Value).toArray 56)).alloc (.cells ([.int .i64 0, .int .i64 0, .slice none 0 0, .int .i64 0, .int .i64 0, .int .i64 0, .int .i64 0, .int .i64 0] : List Value).toArray 56) = v0 from HV.out]; clear HV
      refine (spec_maGood _ _ _ _ l _ _ _ _ _ _ hn ((hr.below B0).mono B0.size)).mono ?_; rintro e w1 ⟨rfl, b1⟩
      rewrite [HO.out]
      replace X0 := X0.below b1 X0.lt; replace X1 := X1.below b1 X1.lt; replace B0 := B0.trans (b1.mono B0.size); have hy := X0.lt; have hz := X1.lt; have hb0 := B0.size; clear b1
      go_wp2_with fail
      refine (spec_l1In _ _ _ _).mono ?_; rintro e w2 ⟨rfl, rfl⟩
      rewrite [HI.out]
      (have X1 := X1; have X1k0 : w1.cell? ⟨w.heap.size + 1, 0, none⟩ = some (.int .i64 0) := (X1.cell 0).trans rfl; have X1k1 : w1.cell? ⟨w.heap.size + 1, 1, none⟩ = some (.int .i64 0) := (X1.cell 1).trans rfl; have X1k2 : w1.cell? ⟨w.heap.size + 1, 2, none⟩ = some (.slice none 0 0) := (X1.cell 2).trans rfl; have X1k3 : w1.cell? ⟨w.heap.size + 1, 3, none⟩ = some (.int .i64 0) := (X1.cell 3).trans rfl; have X1k4 : w1.cell? ⟨w.heap.size + 1, 4, none⟩ = some (.int .i64 0) := (X1.cell 4).trans rfl; have X1k5 : w1.cell? ⟨w.heap.size + 1, 5, none⟩ = some (.int .i64 0) := (X1.cell 5).trans rfl; have X1k6 : w1.cell? ⟨w.heap.size + 1, 6, none⟩ = some (.int .i64 0) := (X1.cell 6).trans rfl; have X1k7 : w1.cell? ⟨w.heap.size + 1, 7, none⟩ = some (.int .i64 0) := (X1.cell 7).trans rfl; have X1f0 := X1.frozen 0; have X1f1 := X1.frozen 1; have X1f2 := X1.frozen 2; have X1f3 := X1.frozen 3; have X1f4 := X1.frozen 4; have X1f5 := X1.frozen 5; have X1f6 := X1.frozen 6; have X1f7 := X1.frozen 7; go_wp2; rewrite [mset_fold]; obtain ⟨v4, hv4⟩ : ∃ v4, v4 = mset w1 (w.heap.size + 1) (.int .i64 0) (.int .i64 0) (.slice none 0 0) (.int .i64 0) (.int .i64 0) (.int .i64 0) (.int .i64 0) (.int .i64 0) := ⟨_, rfl⟩; have Z1 : Whole v4 (w.heap.size + 1) 56 [.int .i64 0, .int .i64 0, .slice none 0 0, .int .i64 0, .int .i64 0, .int .i64 0, .int .i64 0, .int .i64 0] := (by rw [hv4]; exact Whole.mset X1 _ _ _ _ _ _ _ _); replace B0 : Below w.heap.size w v4 := (by rw [hv4]; exact below_mset B0 (by omega)); clear X1k0 X1k1 X1k2 X1k3 X1k4 X1k5 X1k6 X1k7; clear X1f0 X1f1 X1f2 X1f3 X1f4 X1f5 X1f6 X1f7; rewrite [← hv4]; clear hv4; have Z1k0 : v4.cell? ⟨w.heap.size + 1, 0, none⟩ = some (.int .i64 0) := (Z1.cell 0).trans rfl; have Z1k1 : v4.cell? ⟨w.heap.size + 1, 1, none⟩ = some (.int .i64 0) := (Z1.cell 1).trans rfl; have Z1k2 : v4.cell? ⟨w.heap.size + 1, 2, none⟩ = some (.slice none 0 0) := (Z1.cell 2).trans rfl; have Z1k3 : v4.cell? ⟨w.heap.size + 1, 3, none⟩ = some (.int .i64 0) := (Z1.cell 3).trans rfl; have Z1k4 : v4.cell? ⟨w.heap.size + 1, 4, none⟩ = some (.int .i64 0) := (Z1.cell 4).trans rfl; have Z1k5 : v4.cell? ⟨w.heap.size + 1, 5, none⟩ = some (.int .i64 0) := (Z1.cell 5).trans rfl; have Z1k6 : v4.cell? ⟨w.heap.size + 1, 6, none⟩ = some (.int .i64 0) := (Z1.cell 6).trans rfl; have Z1k7 : v4.cell? ⟨w.heap.size + 1, 7, none⟩ = some (.int .i64 0) := (Z1.cell 7).trans rfl)
      refine bodyPost_ret (v := .tuple #[(.agg #[.int .i64 0, .int .i64 0, .slice none 0 0, .int .i64 0, .int .i64 0, .int .i64 0, .int .i64 0, .int .i64 0]), .bool false]) ?_ rfl ?_; (focus (simp [results, Try.results61, go_sem, *]; done))
      exact PostAM.no (by unfold okN; rw [HO.out, HI2.out]; rfl) HN HF B0
  · have HO := Lib.hid ho
    clear ho
    go_enter Try.func61, Try.ntmps61
    obtain ⟨v0, hv0, X0, X1, B0, hz0⟩ := two_boxes w [.int .i64 R, .int .i64 C, .slice A l.length cap, .int .i64 p, .int .i64 q, .int .i64 bl, .int .i64 rd, .int .i64 nx] 56 [.int .i64 0, .int .i64 0, .slice none 0 0, .int .i64 0, .int .i64 0, .int .i64 0, .int .i64 0, .int .i64 0] 56; have HV := Lib.hid hv0; have hz : w.heap.size + 1 < v0.heap.size := (by omega); have hy : w.heap.size < v0.heap.size := (by omega); have hb0 := B0.size; clear hv0 hz0; go_wp2_with fail; rewrite [show (w.alloc (.cells ([.int .i64 R, .int .i64 C, .slice A l.length cap, .int .i64 p, .int .i64 q, .int .i64 bl, .int .i64 rd, .int .i64 nx] : List Value).toArray 56)).alloc (.cells ([.int .i64 0, .int .i64 0, .slice none 0 0, .int .i64 0, .int .i64 0, .int .i64 0, .int .i64 0, .int .i64 0] : List Value).toArray 56) = v0 from HV.out]; clear HV
    refine (spec_maGood _ _ _ _ l _ _ _ _ _ _ hn ((hr.below B0).mono B0.size)).mono ?_; rintro e w1 ⟨rfl, b1⟩
    rewrite [HO.out]
    replace X0 := X0.below b1 X0.lt; replace X1 := X1.below b1 X1.lt; replace B0 := B0.trans (b1.mono B0.size); have hy := X0.lt; have hz := X1.lt; have hb0 := B0.size; clear b1
    (have X1 := X1; have X1k0 : w1.cell? ⟨w.heap.size + 1, 0, none⟩ = some (.int .i64 0) := (X1.cell 0).trans rfl; have X1k1 : w1.cell? ⟨w.heap.size + 1, 1, none⟩ = some (.int .i64 0) := (X1.cell 1).trans rfl; have X1k2 : w1.cell? ⟨w.heap.size + 1, 2, none⟩ = some (.slice none 0 0) := (X1.cell 2).trans rfl; have X1k3 : w1.cell? ⟨w.heap.size + 1, 3, none⟩ = some (.int .i64 0) := (X1.cell 3).trans rfl; have X1k4 : w1.cell? ⟨w.heap.size + 1, 4, none⟩ = some (.int .i64 0) := (X1.cell 4).trans rfl; have X1k5 : w1.cell? ⟨w.heap.size + 1, 5, none⟩ = some (.int .i64 0) := (X1.cell 5).trans rfl; have X1k6 : w1.cell? ⟨w.heap.size + 1, 6, none⟩ = some (.int .i64 0) := (X1.cell 6).trans rfl; have X1k7 : w1.cell? ⟨w.heap.size + 1, 7, none⟩ = some (.int .i64 0) := (X1.cell 7).trans rfl; have X1f0 := X1.frozen 0; have X1f1 := X1.frozen 1; have X1f2 := X1.frozen 2; have X1f3 := X1.frozen 3; have X1f4 := X1.frozen 4; have X1f5 := X1.frozen 5; have X1f6 := X1.frozen 6; have X1f7 := X1.frozen 7; go_wp2; rewrite [mset_fold]; obtain ⟨v4, hv4⟩ : ∃ v4, v4 = mset w1 (w.heap.size + 1) (.int .i64 0) (.int .i64 0) (.slice none 0 0) (.int .i64 0) (.int .i64 0) (.int .i64 0) (.int .i64 0) (.int .i64 0) := ⟨_, rfl⟩; have Z1 : Whole v4 (w.heap.size + 1) 56 [.int .i64 0, .int .i64 0, .slice none 0 0, .int .i64 0, .int .i64 0, .int .i64 0, .int .i64 0, .int .i64 0] := (by rw [hv4]; exact Whole.mset X1 _ _ _ _ _ _ _ _); replace B0 : Below w.heap.size w v4 := (by rw [hv4]; exact below_mset B0 (by omega)); clear X1k0 X1k1 X1k2 X1k3 X1k4 X1k5 X1k6 X1k7; clear X1f0 X1f1 X1f2 X1f3 X1f4 X1f5 X1f6 X1f7; rewrite [← hv4]; clear hv4; have Z1k0 : v4.cell? ⟨w.heap.size + 1, 0, none⟩ = some (.int .i64 0) := (Z1.cell 0).trans rfl; have Z1k1 : v4.cell? ⟨w.heap.size + 1, 1, none⟩ = some (.int .i64 0) := (Z1.cell 1).trans rfl; have Z1k2 : v4.cell? ⟨w.heap.size + 1, 2, none⟩ = some (.slice none 0 0) := (Z1.cell 2).trans rfl; have Z1k3 : v4.cell? ⟨w.heap.size + 1, 3, none⟩ = some (.int .i64 0) := (Z1.cell 3).trans rfl; have Z1k4 : v4.cell? ⟨w.heap.size + 1, 4, none⟩ = some (.int .i64 0) := (Z1.cell 4).trans rfl; have Z1k5 : v4.cell? ⟨w.heap.size + 1, 5, none⟩ = some (.int .i64 0) := (Z1.cell 5).trans rfl; have Z1k6 : v4.cell? ⟨w.heap.size + 1, 6, none⟩ = some (.int .i64 0) := (Z1.cell 6).trans rfl; have Z1k7 : v4.cell? ⟨w.heap.size + 1, 7, none⟩ = some (.int .i64 0) := (Z1.cell 7).trans rfl)
    refine bodyPost_ret (v := .tuple #[(.agg #[.int .i64 0, .int .i64 0, .slice none 0 0, .int .i64 0, .int .i64 0, .int .i64 0, .int .i64 0, .int .i64 0]), .bool false]) ?_ rfl ?_; (focus (simp [results, Try.results61, go_sem, *]; done))
    exact PostAM.no (by unfold okN; rw [HO.out]; rfl) HN HF B0
theorem impl_RefillMachine (R C : Int) (A : Option Addr) (cap : Nat) (l : List (Int × Int)) (p q bl rd nx i j : Int) (w : World) (hn : l.length ≤ 1048576) (hr : Rd w w.heap.size A (flat l)) :
    Calls Try.prog 62 #[.agg #[.int .i64 R, .int .i64 C, .slice A l.length cap, .int .i64 p, .int .i64 q, .int .i64 bl, .int .i64 rd, .int .i64 nx], .int .i64 i, .int .i64 j] w (PostAM w (selI (okN R C l p q bl rd nx i j) R) (selI (okN R C l p q bl rd nx i j) C) (selI (okN R C l p q bl rd nx i j) p) (selI (okN R C l p q bl rd nx i j) q) (refO R C l p q bl rd nx i j) (okN R C l p q bl rd nx i j)) := by
  obtain ⟨ok, hN⟩ : ∃ ok, okN R C l p q bl rd nx i j = ok := ⟨_, rfl⟩
  obtain ⟨sF, hF⟩ : ∃ s, refO R C l p q bl rd nx i j = s := ⟨_, rfl⟩
  rewrite [hN, hF]
  have HN := Lib.hid hN
  have HF := Lib.hid hF
  clear hN hF
  rcases Bool.eq_false_or_eq_true (okM R C l p q bl rd nx) with ho | ho
  · have HO := Lib.hid ho
    obtain ⟨y1, y2, y3, y4⟩ := okM_nx ho
    have HMo := Lib.hid (okM_more ho)
    rcases Bool.eq_false_or_eq_true (inM 0 30 i) with hi | hi
    · have HI2 := Lib.hid hi
      have HI := Lib.hid (show (decide (0 ≤ i) && decide (i ≤ 30)) = true from hi)
      obtain ⟨x1, x2⟩ := inM_iff.1 hi
      rcases Bool.eq_false_or_eq_true (inM 0 30 j) with hj | hj
      · have HJ2 := Lib.hid hj
        have HJ := Lib.hid (show (decide (0 ≤ j) && decide (j ≤ 30)) = true from hj)
        obtain ⟨x3, x4⟩ := inM_iff.1 hj
        have m1 : IntKind.i64.wrap (bl + i) = bl + i := IntWalk.i64_in _ (by omega)
        have m2 : IntKind.i64.wrap (rd + j) = rd + j := IntWalk.i64_in _ (by omega)
        obtain ⟨r, c, rfl, rfl, hG, hg, hp, hq⟩ := okM_ints ho
        obtain ⟨_, _, hpos⟩ := goodB_parts hg
        obtain ⟨b, o, rfl, hbl, hc⟩ := hr (by rw [flat_length]; omega)
        have hr' : Rd w w.heap.size (some ⟨b, o, none⟩) (flat l) := fun _ => ⟨b, o, rfl, hbl, hc⟩
        clear hG hg hp hq hbl hc hi hj ho
        go_enter Try.func62, Try.ntmps62
        obtain ⟨v0, hv0, X0, X1, B0, hz0⟩ := two_boxes w [.int .i64 (r : Int), .int .i64 (c : Int), .slice (some ⟨b, o, none⟩) l.length cap, .int .i64 p, .int .i64 q, .int .i64 bl, .int .i64 rd, .int .i64 nx] 56 [.int .i64 0, .int .i64 0, .slice none 0 0, .int .i64 0, .int .i64 0, .int .i64 0, .int .i64 0, .int .i64 0] 56; have HV := Lib.hid hv0; have hz : w.heap.size + 1 < v0.heap.size := (by omega); have hy : w.heap.size < v0.heap.size := (by omega); have hb0 := B0.size; clear hv0 hz0; go_wp2_with fail; rewrite [show (w.alloc (.cells ([.int .i64 (r : Int), .int .i64 (c : Int), .slice (some ⟨b, o, none⟩) l.length cap, .int .i64 p, .int .i64 q, .int .i64 bl, .int .i64 rd, .int .i64 nx] : List Value).toArray 56)).alloc (.cells ([.int .i64 0, .int .i64 0, .slice none 0 0, .int .i64 0, .int .i64 0, .int .i64 0, .int .i64 0, .int .i64 0] : List Value).toArray 56) = v0 from HV.out]; clear HV
        refine (impl_IsMachine _ _ _ _ l _ _ _ _ _ _ hn ((hr'.below B0).mono B0.size)).mono ?_; rintro e w1 ⟨rfl, b1⟩
        rewrite [HO.out]
        replace X0 := X0.below b1 X0.lt; replace X1 := X1.below b1 X1.lt; replace B0 := B0.trans (b1.mono B0.size); have hy := X0.lt; have hz := X1.lt; have hb0 := B0.size; clear b1
        go_wp2_with fail
        refine (impl_isHopper _ _).mono ?_; rintro e w2 ⟨rfl, bb⟩
        rewrite [HI.out]
        replace X0 := X0.below bb X0.lt; replace X1 := X1.below bb X1.lt; replace B0 := B0.trans (bb.mono B0.size); have hy := X0.lt; have hz := X1.lt; have hb0 := B0.size; clear bb
        go_wp2_with fail
        refine (impl_isHopper _ _).mono ?_; rintro e w3 ⟨rfl, bb⟩
        rewrite [HJ.out]
        replace X0 := X0.below bb X0.lt; replace X1 := X1.below bb X1.lt; replace B0 := B0.trans (bb.mono B0.size); have hy := X0.lt; have hz := X1.lt; have hb0 := B0.size; clear bb
        have X0k0 : w3.cell? ⟨w.heap.size, 0, none⟩ = some (.int .i64 (r : Int)) := (X0.cell 0).trans rfl; have X0k1 : w3.cell? ⟨w.heap.size, 1, none⟩ = some (.int .i64 (c : Int)) := (X0.cell 1).trans rfl; have X0k2 : w3.cell? ⟨w.heap.size, 2, none⟩ = some (.slice (some ⟨b, o, none⟩) l.length cap) := (X0.cell 2).trans rfl; have X0k3 : w3.cell? ⟨w.heap.size, 3, none⟩ = some (.int .i64 p) := (X0.cell 3).trans rfl; have X0k4 : w3.cell? ⟨w.heap.size, 4, none⟩ = some (.int .i64 q) := (X0.cell 4).trans rfl; have X0k5 : w3.cell? ⟨w.heap.size, 5, none⟩ = some (.int .i64 bl) := (X0.cell 5).trans rfl
        have X0k6 : w3.cell? ⟨w.heap.size, 6, none⟩ = some (.int .i64 rd) := (X0.cell 6).trans rfl; have X0k7 : w3.cell? ⟨w.heap.size, 7, none⟩ = some (.int .i64 nx) := (X0.cell 7).trans rfl
        go_wp2_with fail
        refine (impl_isHopper _ _).mono ?_; rintro e w4 ⟨rfl, bb⟩
        clear X0k0 X0k1 X0k2 X0k3 X0k4 X0k5 X0k6 X0k7
        replace X0 := X0.below bb X0.lt; replace X1 := X1.below bb X1.lt; replace B0 := B0.trans (bb.mono B0.size); have hy := X0.lt; have hz := X1.lt; have hb0 := B0.size; clear bb
        rcases Bool.eq_false_or_eq_true (decide (0 ≤ bl + i) && decide (bl + i ≤ 30)) with hk | hk
        · have HK := Lib.hid (show inM 0 30 (bl + i) = true from hk)
          rewrite [hk]
          clear hk
          have X0k0 : w4.cell? ⟨w.heap.size, 0, none⟩ = some (.int .i64 (r : Int)) := (X0.cell 0).trans rfl; have X0k1 : w4.cell? ⟨w.heap.size, 1, none⟩ = some (.int .i64 (c : Int)) := (X0.cell 1).trans rfl; have X0k2 : w4.cell? ⟨w.heap.size, 2, none⟩ = some (.slice (some ⟨b, o, none⟩) l.length cap) := (X0.cell 2).trans rfl; have X0k3 : w4.cell? ⟨w.heap.size, 3, none⟩ = some (.int .i64 p) := (X0.cell 3).trans rfl; have X0k4 : w4.cell? ⟨w.heap.size, 4, none⟩ = some (.int .i64 q) := (X0.cell 4).trans rfl; have X0k5 : w4.cell? ⟨w.heap.size, 5, none⟩ = some (.int .i64 bl) := (X0.cell 5).trans rfl
          have X0k6 : w4.cell? ⟨w.heap.size, 6, none⟩ = some (.int .i64 rd) := (X0.cell 6).trans rfl; have X0k7 : w4.cell? ⟨w.heap.size, 7, none⟩ = some (.int .i64 nx) := (X0.cell 7).trans rfl
          go_wp2_with fail
          refine (impl_isHopper _ _).mono ?_; rintro e w5 ⟨rfl, bb⟩
          clear X0k0 X0k1 X0k2 X0k3 X0k4 X0k5 X0k6 X0k7
          replace X0 := X0.below bb X0.lt; replace X1 := X1.below bb X1.lt; replace B0 := B0.trans (bb.mono B0.size); have hy := X0.lt; have hz := X1.lt; have hb0 := B0.size; clear bb
          rcases Bool.eq_false_or_eq_true (decide (0 ≤ rd + j) && decide (rd + j ≤ 30)) with hk | hk
          · have HK2 := Lib.hid (show inM 0 30 (rd + j) = true from hk)
            rewrite [hk]
            clear hk
            have X0k0 : w5.cell? ⟨w.heap.size, 0, none⟩ = some (.int .i64 (r : Int)) := (X0.cell 0).trans rfl; have X0k1 : w5.cell? ⟨w.heap.size, 1, none⟩ = some (.int .i64 (c : Int)) := (X0.cell 1).trans rfl; have X0k2 : w5.cell? ⟨w.heap.size, 2, none⟩ = some (.slice (some ⟨b, o, none⟩) l.length cap) := (X0.cell 2).trans rfl; have X0k3 : w5.cell? ⟨w.heap.size, 3, none⟩ = some (.int .i64 p) := (X0.cell 3).trans rfl; have X0k4 : w5.cell? ⟨w.heap.size, 4, none⟩ = some (.int .i64 q) := (X0.cell 4).trans rfl; have X0k5 : w5.cell? ⟨w.heap.size, 5, none⟩ = some (.int .i64 bl) := (X0.cell 5).trans rfl
            have X0k6 : w5.cell? ⟨w.heap.size, 6, none⟩ = some (.int .i64 rd) := (X0.cell 6).trans rfl; have X0k7 : w5.cell? ⟨w.heap.size, 7, none⟩ = some (.int .i64 nx) := (X0.cell 7).trans rfl
            go_wp2_with fail
            refine (impl_cloneMachine (r : Int) (c : Int) b o cap l p q bl rd nx _ hn ((hr'.below B0).mono B0.size)).mono ?_; rintro e w6 ⟨A5, c5, rfl, O5, n5, b6⟩
            clear X0k0 X0k1 X0k2 X0k3 X0k4 X0k5 X0k6 X0k7
            have N5 : New w A5 := fun a ha => Nat.le_trans B0.size (n5 a ha)
            replace X0 := X0.below b6 X0.lt; replace X1 := X1.below b6 X1.lt; replace B0 := B0.trans (b6.mono B0.size); have hy := X0.lt; have hz := X1.lt; have hb0 := B0.size; clear b6
            clear n5
            go_upto_region 6 with (fail)
            obtain ⟨v2, hv2⟩ : ∃ v2, v2 = w6.alloc (.cells #[.int .i64 (r : Int), .int .i64 (c : Int), .slice A5 l.length c5, .int .i64 p, .int .i64 q, .int .i64 (bl + i), .int .i64 (rd + j), .int .i64 nx] 56) := ⟨_, rfl⟩
            have Xm : Whole v2 w6.heap.size 56 [.int .i64 (r : Int), .int .i64 (c : Int), .slice A5 l.length c5, .int .i64 p, .int .i64 q, .int .i64 (bl + i), .int .i64 (rd + j), .int .i64 nx] := by rw [hv2]; exact newW
            have b7 : Below w6.heap.size w6 v2 := by rw [hv2]; exact (Below.refl _ _).alloc (Nat.le_refl _) _
            rewrite [← hv2]
            clear hv2
            replace X1 := X1.below b7 X1.lt
            replace O5 := O5.keep b7
            replace B0 := B0.trans (b7.mono B0.size)
            generalize w6.heap.size = gm at *
            clear b7 hy hz hb0 X0
            have hz := X1.lt
            have hml := Xm.lt
            have Xmk0 : v2.cell? ⟨gm, 0, none⟩ = some (.int .i64 (r : Int)) := (Xm.cell 0).trans rfl; have Xmk1 : v2.cell? ⟨gm, 1, none⟩ = some (.int .i64 (c : Int)) := (Xm.cell 1).trans rfl; have Xmk2 : v2.cell? ⟨gm, 2, none⟩ = some (.slice A5 l.length c5) := (Xm.cell 2).trans rfl; have Xmk3 : v2.cell? ⟨gm, 3, none⟩ = some (.int .i64 p) := (Xm.cell 3).trans rfl; have Xmk4 : v2.cell? ⟨gm, 4, none⟩ = some (.int .i64 q) := (Xm.cell 4).trans rfl; have Xmk5 : v2.cell? ⟨gm, 5, none⟩ = some (.int .i64 (bl + i)) := (Xm.cell 5).trans rfl
            have Xmk6 : v2.cell? ⟨gm, 6, none⟩ = some (.int .i64 (rd + j)) := (Xm.cell 6).trans rfl; have Xmk7 : v2.cell? ⟨gm, 7, none⟩ = some (.int .i64 nx) := (Xm.cell 7).trans rfl
            have X1k0 : v2.cell? ⟨w.heap.size + 1, 0, none⟩ = some (.int .i64 0) := (X1.cell 0).trans rfl; have X1k1 : v2.cell? ⟨w.heap.size + 1, 1, none⟩ = some (.int .i64 0) := (X1.cell 1).trans rfl; have X1k2 : v2.cell? ⟨w.heap.size + 1, 2, none⟩ = some (.slice none 0 0) := (X1.cell 2).trans rfl; have X1k3 : v2.cell? ⟨w.heap.size + 1, 3, none⟩ = some (.int .i64 0) := (X1.cell 3).trans rfl; have X1k4 : v2.cell? ⟨w.heap.size + 1, 4, none⟩ = some (.int .i64 0) := (X1.cell 4).trans rfl; have X1k5 : v2.cell? ⟨w.heap.size + 1, 5, none⟩ = some (.int .i64 0) := (X1.cell 5).trans rfl
            have X1k6 : v2.cell? ⟨w.heap.size + 1, 6, none⟩ = some (.int .i64 0) := (X1.cell 6).trans rfl; have X1k7 : v2.cell? ⟨w.heap.size + 1, 7, none⟩ = some (.int .i64 0) := (X1.cell 7).trans rfl
            have X1f0 := X1.frozen 0; have X1f1 := X1.frozen 1; have X1f2 := X1.frozen 2; have X1f3 := X1.frozen 3; have X1f4 := X1.frozen 4; have X1f5 := X1.frozen 5; have X1f6 := X1.frozen 6; have X1f7 := X1.frozen 7
            go_wp2
            rewrite [mset_fold]; obtain ⟨v4, hv4⟩ : ∃ v4, v4 = mset v2 (w.heap.size + 1) (.int .i64 (r : Int)) (.int .i64 (c : Int)) (.slice A5 l.length c5) (.int .i64 p) (.int .i64 q) (.int .i64 (bl + i)) (.int .i64 (rd + j)) (.int .i64 nx) := ⟨_, rfl⟩; have Z1 : Whole v4 (w.heap.size + 1) 56 [.int .i64 (r : Int), .int .i64 (c : Int), .slice A5 l.length c5, .int .i64 p, .int .i64 q, .int .i64 (bl + i), .int .i64 (rd + j), .int .i64 nx] := (by rw [hv4]; exact Whole.mset X1 _ _ _ _ _ _ _ _)
            replace O5 : Own v4 A5 27 (flat l) := by rw [hv4]; exact own_mset O5 X1 (by decide)
            replace B0 : Below w.heap.size w v4 := by rw [hv4]; exact below_mset B0 (by omega)
            clear Xmk0 Xmk1 Xmk2 Xmk3 Xmk4 Xmk5 Xmk6 Xmk7
            clear X1k0 X1k1 X1k2 X1k3 X1k4 X1k5 X1k6 X1k7
            clear X1f0 X1f1 X1f2 X1f3 X1f4 X1f5 X1f6 X1f7
            rewrite [← hv4]
            clear hv4 X1 Xm
            have Z1k0 : v4.cell? ⟨w.heap.size + 1, 0, none⟩ = some (.int .i64 (r : Int)) := (Z1.cell 0).trans rfl; have Z1k1 : v4.cell? ⟨w.heap.size + 1, 1, none⟩ = some (.int .i64 (c : Int)) := (Z1.cell 1).trans rfl; have Z1k2 : v4.cell? ⟨w.heap.size + 1, 2, none⟩ = some (.slice A5 l.length c5) := (Z1.cell 2).trans rfl; have Z1k3 : v4.cell? ⟨w.heap.size + 1, 3, none⟩ = some (.int .i64 p) := (Z1.cell 3).trans rfl; have Z1k4 : v4.cell? ⟨w.heap.size + 1, 4, none⟩ = some (.int .i64 q) := (Z1.cell 4).trans rfl; have Z1k5 : v4.cell? ⟨w.heap.size + 1, 5, none⟩ = some (.int .i64 (bl + i)) := (Z1.cell 5).trans rfl; have Z1k6 : v4.cell? ⟨w.heap.size + 1, 6, none⟩ = some (.int .i64 (rd + j)) := (Z1.cell 6).trans rfl; have Z1k7 : v4.cell? ⟨w.heap.size + 1, 7, none⟩ = some (.int .i64 nx) := (Z1.cell 7).trans rfl
            refine bodyPost_ret (v := .tuple #[.agg #[.int .i64 (r : Int), .int .i64 (c : Int), .slice A5 l.length c5, .int .i64 p, .int .i64 q, .int .i64 (bl + i), .int .i64 (rd + j), .int .i64 nx], .bool true]) ?_ rfl ?_; (focus (simp [results, Try.results62, go_sem, *]; done))
            exact PostAM.yes (by unfold okN; rw [HO.out, HI2.out, HJ2.out, HK.out, HK2.out]; rfl) HN HF O5 N5 B0
          · have HK2 := Lib.hid (show inM 0 30 (rd + j) = false from hk)
            rewrite [hk]
            clear hk
            (have X1 := X1; have X1k0 : w5.cell? ⟨w.heap.size + 1, 0, none⟩ = some (.int .i64 0) := (X1.cell 0).trans rfl; have X1k1 : w5.cell? ⟨w.heap.size + 1, 1, none⟩ = some (.int .i64 0) := (X1.cell 1).trans rfl; have X1k2 : w5.cell? ⟨w.heap.size + 1, 2, none⟩ = some (.slice none 0 0) := (X1.cell 2).trans rfl; have X1k3 : w5.cell? ⟨w.heap.size + 1, 3, none⟩ = some (.int .i64 0) := (X1.cell 3).trans rfl; have X1k4 : w5.cell? ⟨w.heap.size + 1, 4, none⟩ = some (.int .i64 0) := (X1.cell 4).trans rfl; have X1k5 : w5.cell? ⟨w.heap.size + 1, 5, none⟩ = some (.int .i64 0) := (X1.cell 5).trans rfl; have X1k6 : w5.cell? ⟨w.heap.size + 1, 6, none⟩ = some (.int .i64 0) := (X1.cell 6).trans rfl; have X1k7 : w5.cell? ⟨w.heap.size + 1, 7, none⟩ = some (.int .i64 0) := (X1.cell 7).trans rfl; have X1f0 := X1.frozen 0; have X1f1 := X1.frozen 1; have X1f2 := X1.frozen 2; have X1f3 := X1.frozen 3; have X1f4 := X1.frozen 4; have X1f5 := X1.frozen 5; have X1f6 := X1.frozen 6; have X1f7 := X1.frozen 7; go_wp2; rewrite [mset_fold]; obtain ⟨v4, hv4⟩ : ∃ v4, v4 = mset w5 (w.heap.size + 1) (.int .i64 0) (.int .i64 0) (.slice none 0 0) (.int .i64 0) (.int .i64 0) (.int .i64 0) (.int .i64 0) (.int .i64 0) := ⟨_, rfl⟩; have Z1 : Whole v4 (w.heap.size + 1) 56 [.int .i64 0, .int .i64 0, .slice none 0 0, .int .i64 0, .int .i64 0, .int .i64 0, .int .i64 0, .int .i64 0] := (by rw [hv4]; exact Whole.mset X1 _ _ _ _ _ _ _ _); replace B0 : Below w.heap.size w v4 := (by rw [hv4]; exact below_mset B0 (by omega)); clear X1k0 X1k1 X1k2 X1k3 X1k4 X1k5 X1k6 X1k7; clear X1f0 X1f1 X1f2 X1f3 X1f4 X1f5 X1f6 X1f7; rewrite [← hv4]; clear hv4; have Z1k0 : v4.cell? ⟨w.heap.size + 1, 0, none⟩ = some (.int .i64 0) := (Z1.cell 0).trans rfl; have Z1k1 : v4.cell? ⟨w.heap.size + 1, 1, none⟩ = some (.int .i64 0) := (Z1.cell 1).trans rfl; have Z1k2 : v4.cell? ⟨w.heap.size + 1, 2, none⟩ = some (.slice none 0 0) := (Z1.cell 2).trans rfl; have Z1k3 : v4.cell? ⟨w.heap.size + 1, 3, none⟩ = some (.int .i64 0) := (Z1.cell 3).trans rfl; have Z1k4 : v4.cell? ⟨w.heap.size + 1, 4, none⟩ = some (.int .i64 0) := (Z1.cell 4).trans rfl; have Z1k5 : v4.cell? ⟨w.heap.size + 1, 5, none⟩ = some (.int .i64 0) := (Z1.cell 5).trans rfl; have Z1k6 : v4.cell? ⟨w.heap.size + 1, 6, none⟩ = some (.int .i64 0) := (Z1.cell 6).trans rfl; have Z1k7 : v4.cell? ⟨w.heap.size + 1, 7, none⟩ = some (.int .i64 0) := (Z1.cell 7).trans rfl)
            refine bodyPost_ret (v := .tuple #[(.agg #[.int .i64 0, .int .i64 0, .slice none 0 0, .int .i64 0, .int .i64 0, .int .i64 0, .int .i64 0, .int .i64 0]), .bool false]) ?_ rfl ?_; (focus (simp [results, Try.results62, go_sem, *]; done))
            exact PostAM.no (by unfold okN; rw [HO.out, HI2.out, HJ2.out, HK.out, HK2.out]; rfl) HN HF B0
        · have HK := Lib.hid (show inM 0 30 (bl + i) = false from hk)
          rewrite [hk]
          clear hk
          (have X1 := X1; have X1k0 : w4.cell? ⟨w.heap.size + 1, 0, none⟩ = some (.int .i64 0) := (X1.cell 0).trans rfl; have X1k1 : w4.cell? ⟨w.heap.size + 1, 1, none⟩ = some (.int .i64 0) := (X1.cell 1).trans rfl; have X1k2 : w4.cell? ⟨w.heap.size + 1, 2, none⟩ = some (.slice none 0 0) := (X1.cell 2).trans rfl; have X1k3 : w4.cell? ⟨w.heap.size + 1, 3, none⟩ = some (.int .i64 0) := (X1.cell 3).trans rfl; have X1k4 : w4.cell? ⟨w.heap.size + 1, 4, none⟩ = some (.int .i64 0) := (X1.cell 4).trans rfl; have X1k5 : w4.cell? ⟨w.heap.size + 1, 5, none⟩ = some (.int .i64 0) := (X1.cell 5).trans rfl; have X1k6 : w4.cell? ⟨w.heap.size + 1, 6, none⟩ = some (.int .i64 0) := (X1.cell 6).trans rfl; have X1k7 : w4.cell? ⟨w.heap.size + 1, 7, none⟩ = some (.int .i64 0) := (X1.cell 7).trans rfl; have X1f0 := X1.frozen 0; have X1f1 := X1.frozen 1; have X1f2 := X1.frozen 2; have X1f3 := X1.frozen 3; have X1f4 := X1.frozen 4; have X1f5 := X1.frozen 5; have X1f6 := X1.frozen 6; have X1f7 := X1.frozen 7; go_wp2; rewrite [mset_fold]; obtain ⟨v4, hv4⟩ : ∃ v4, v4 = mset w4 (w.heap.size + 1) (.int .i64 0) (.int .i64 0) (.slice none 0 0) (.int .i64 0) (.int .i64 0) (.int .i64 0) (.int .i64 0) (.int .i64 0) := ⟨_, rfl⟩; have Z1 : Whole v4 (w.heap.size + 1) 56 [.int .i64 0, .int .i64 0, .slice none 0 0, .int .i64 0, .int .i64 0, .int .i64 0, .int .i64 0, .int .i64 0] := (by rw [hv4]; exact Whole.mset X1 _ _ _ _ _ _ _ _); replace B0 : Below w.heap.size w v4 := (by rw [hv4]; exact below_mset B0 (by omega)); clear X1k0 X1k1 X1k2 X1k3 X1k4 X1k5 X1k6 X1k7; clear X1f0 X1f1 X1f2 X1f3 X1f4 X1f5 X1f6 X1f7; rewrite [← hv4]; clear hv4; have Z1k0 : v4.cell? ⟨w.heap.size + 1, 0, none⟩ = some (.int .i64 0) := (Z1.cell 0).trans rfl; have Z1k1 : v4.cell? ⟨w.heap.size + 1, 1, none⟩ = some (.int .i64 0) := (Z1.cell 1).trans rfl; have Z1k2 : v4.cell? ⟨w.heap.size + 1, 2, none⟩ = some (.slice none 0 0) := (Z1.cell 2).trans rfl; have Z1k3 : v4.cell? ⟨w.heap.size + 1, 3, none⟩ = some (.int .i64 0) := (Z1.cell 3).trans rfl; have Z1k4 : v4.cell? ⟨w.heap.size + 1, 4, none⟩ = some (.int .i64 0) := (Z1.cell 4).trans rfl; have Z1k5 : v4.cell? ⟨w.heap.size + 1, 5, none⟩ = some (.int .i64 0) := (Z1.cell 5).trans rfl; have Z1k6 : v4.cell? ⟨w.heap.size + 1, 6, none⟩ = some (.int .i64 0) := (Z1.cell 6).trans rfl; have Z1k7 : v4.cell? ⟨w.heap.size + 1, 7, none⟩ = some (.int .i64 0) := (Z1.cell 7).trans rfl)
          refine bodyPost_ret (v := .tuple #[(.agg #[.int .i64 0, .int .i64 0, .slice none 0 0, .int .i64 0, .int .i64 0, .int .i64 0, .int .i64 0, .int .i64 0]), .bool false]) ?_ rfl ?_; (focus (simp [results, Try.results62, go_sem, *]; done))
          exact PostAM.no (by unfold okN; rw [HO.out, HI2.out, HJ2.out, HK.out]; rfl) HN HF B0
      · have HJ2 := Lib.hid hj
        have HJ := Lib.hid (show (decide (0 ≤ j) && decide (j ≤ 30)) = false from hj)
        clear ho hi hj HMo
        go_enter Try.func62, Try.ntmps62
        obtain ⟨v0, hv0, X0, X1, B0, hz0⟩ := two_boxes w [.int .i64 R, .int .i64 C, .slice A l.length cap, .int .i64 p, .int .i64 q, .int .i64 bl, .int .i64 rd, .int .i64 nx] 56 [.int .i64 0, .int .i64 0, .slice none 0 0, .int .i64 0, .int .i64 0, .int .i64 0, .int .i64 0, .int .i64 0] 56; have HV := Lib.hid hv0; have hz : w.heap.size + 1 < v0.heap.size := (by omega); have hy : w.heap.size < v0.heap.size := (by omega); have hb0 := B0.size; clear hv0 hz0; go_wp2_with fail; rewrite [show (w.alloc (.cells ([.int .i64 R, .int .i64 C, .slice A l.length cap, .int .i64 p, .int .i64 q, .int .i64 bl, .int .i64 rd, .int .i64 nx] : List Value).toArray 56)).alloc (.cells ([.int .i64 0, .int .i64 0, .slice none 0 0, .int .i64 0, .int .i64 0, .int .i64 0, .int .i64 0, .int .i64 0] : List Value).toArray 56) = v0 from HV.out]; clear HV
        refine (impl_IsMachine _ _ _ _ l _ _ _ _ _ _ hn ((hr.below B0).mono B0.size)).mono ?_; rintro e w1 ⟨rfl, b1⟩
        rewrite [HO.out]
        replace X0 := X0.below b1 X0.lt; replace X1 := X1.below b1 X1.lt; replace B0 := B0.trans (b1.mono B0.size); have hy := X0.lt; have hz := X1.lt; have hb0 := B0.size; clear b1
        go_wp2_with fail
        refine (impl_isHopper _ _).mono ?_; rintro e w2 ⟨rfl, bb⟩
        rewrite [HI.out]
        replace X0 := X0.below bb X0.lt; replace X1 := X1.below bb X1.lt; replace B0 := B0.trans (bb.mono B0.size); have hy := X0.lt; have hz := X1.lt; have hb0 := B0.size; clear bb
        go_wp2_with fail
        refine (impl_isHopper _ _).mono ?_; rintro e w3 ⟨rfl, bb⟩
        rewrite [HJ.out]
        replace X0 := X0.below bb X0.lt; replace X1 := X1.below bb X1.lt; replace B0 := B0.trans (bb.mono B0.size); have hy := X0.lt; have hz := X1.lt; have hb0 := B0.size; clear bb
        (have X1 := X1; have X1k0 : w3.cell? ⟨w.heap.size + 1, 0, none⟩ = some (.int .i64 0) := (X1.cell 0).trans rfl; have X1k1 : w3.cell? ⟨w.heap.size + 1, 1, none⟩ = some (.int .i64 0) := (X1.cell 1).trans rfl; have X1k2 : w3.cell? ⟨w.heap.size + 1, 2, none⟩ = some (.slice none 0 0) := (X1.cell 2).trans rfl; have X1k3 : w3.cell? ⟨w.heap.size + 1, 3, none⟩ = some (.int .i64 0) := (X1.cell 3).trans rfl; have X1k4 : w3.cell? ⟨w.heap.size + 1, 4, none⟩ = some (.int .i64 0) := (X1.cell 4).trans rfl; have X1k5 : w3.cell? ⟨w.heap.size + 1, 5, none⟩ = some (.int .i64 0) := (X1.cell 5).trans rfl; have X1k6 : w3.cell? ⟨w.heap.size + 1, 6, none⟩ = some (.int .i64 0) := (X1.cell 6).trans rfl; have X1k7 : w3.cell? ⟨w.heap.size + 1, 7, none⟩ = some (.int .i64 0) := (X1.cell 7).trans rfl; have X1f0 := X1.frozen 0; have X1f1 := X1.frozen 1; have X1f2 := X1.frozen 2; have X1f3 := X1.frozen 3; have X1f4 := X1.frozen 4; have X1f5 := X1.frozen 5; have X1f6 := X1.frozen 6; have X1f7 := X1.frozen 7; go_wp2; rewrite [mset_fold]; obtain ⟨v4, hv4⟩ : ∃ v4, v4 = mset w3 (w.heap.size + 1) (.int .i64 0) (.int .i64 0) (.slice none 0 0) (.int .i64 0) (.int .i64 0) (.int .i64 0) (.int .i64 0) (.int .i64 0) := ⟨_, rfl⟩; have Z1 : Whole v4 (w.heap.size + 1) 56 [.int .i64 0, .int .i64 0, .slice none 0 0, .int .i64 0, .int .i64 0, .int .i64 0, .int .i64 0, .int .i64 0] := (by rw [hv4]; exact Whole.mset X1 _ _ _ _ _ _ _ _); replace B0 : Below w.heap.size w v4 := (by rw [hv4]; exact below_mset B0 (by omega)); clear X1k0 X1k1 X1k2 X1k3 X1k4 X1k5 X1k6 X1k7; clear X1f0 X1f1 X1f2 X1f3 X1f4 X1f5 X1f6 X1f7; rewrite [← hv4]; clear hv4; have Z1k0 : v4.cell? ⟨w.heap.size + 1, 0, none⟩ = some (.int .i64 0) := (Z1.cell 0).trans rfl; have Z1k1 : v4.cell? ⟨w.heap.size + 1, 1, none⟩ = some (.int .i64 0) := (Z1.cell 1).trans rfl; have Z1k2 : v4.cell? ⟨w.heap.size + 1, 2, none⟩ = some (.slice none 0 0) := (Z1.cell 2).trans rfl; have Z1k3 : v4.cell? ⟨w.heap.size + 1, 3, none⟩ = some (.int .i64 0) := (Z1.cell 3).trans rfl; have Z1k4 : v4.cell? ⟨w.heap.size + 1, 4, none⟩ = some (.int .i64 0) := (Z1.cell 4).trans rfl; have Z1k5 : v4.cell? ⟨w.heap.size + 1, 5, none⟩ = some (.int .i64 0) := (Z1.cell 5).trans rfl; have Z1k6 : v4.cell? ⟨w.heap.size + 1, 6, none⟩ = some (.int .i64 0) := (Z1.cell 6).trans rfl; have Z1k7 : v4.cell? ⟨w.heap.size + 1, 7, none⟩ = some (.int .i64 0) := (Z1.cell 7).trans rfl)
        refine bodyPost_ret (v := .tuple #[(.agg #[.int .i64 0, .int .i64 0, .slice none 0 0, .int .i64 0, .int .i64 0, .int .i64 0, .int .i64 0, .int .i64 0]), .bool false]) ?_ rfl ?_; (focus (simp [results, Try.results62, go_sem, *]; done))
        exact PostAM.no (by unfold okN; rw [HO.out, HI2.out, HJ2.out]; rfl) HN HF B0
    · have HI2 := Lib.hid hi
      have HI := Lib.hid (show (decide (0 ≤ i) && decide (i ≤ 30)) = false from hi)
      clear ho hi HMo
      go_enter Try.func62, Try.ntmps62
      obtain ⟨v0, hv0, X0, X1, B0, hz0⟩ := two_boxes w [.int .i64 R, .int .i64 C, .slice A l.length cap, .int .i64 p, .int .i64 q, .int .i64 bl, .int .i64 rd, .int .i64 nx] 56 [.int .i64 0, .int .i64 0, .slice none 0 0, .int .i64 0, .int .i64 0, .int .i64 0, .int .i64 0, .int .i64 0] 56; have HV := Lib.hid hv0; have hz : w.heap.size + 1 < v0.heap.size := (by omega); have hy : w.heap.size < v0.heap.size := (by omega); have hb0 := B0.size; clear hv0 hz0; go_wp2_with fail; rewrite [show (w.alloc (.cells ([.int .i64 R, .int .i64 C, .slice A l.length cap, .int .i64 p, .int .i64 q, .int .i64 bl, .int .i64 rd, .int .i64 nx] : List Value).toArray 56)).alloc (.cells ([.int .i64 0, .int .i64 0, .slice none 0 0, .int .i64 0, .int .i64 0, .int .i64 0, .int .i64 0, .int .i64 0] : List Value).toArray 56) = v0 from HV.out]; clear HV
      refine (impl_IsMachine _ _ _ _ l _ _ _ _ _ _ hn ((hr.below B0).mono B0.size)).mono ?_; rintro e w1 ⟨rfl, b1⟩
      rewrite [HO.out]
      replace X0 := X0.below b1 X0.lt; replace X1 := X1.below b1 X1.lt; replace B0 := B0.trans (b1.mono B0.size); have hy := X0.lt; have hz := X1.lt; have hb0 := B0.size; clear b1
      go_wp2_with fail
      refine (impl_isHopper _ _).mono ?_; rintro e w2 ⟨rfl, bb⟩
      rewrite [HI.out]
      replace X0 := X0.below bb X0.lt; replace X1 := X1.below bb X1.lt; replace B0 := B0.trans (bb.mono B0.size); have hy := X0.lt; have hz := X1.lt; have hb0 := B0.size; clear bb
      (have X1 := X1; have X1k0 : w2.cell? ⟨w.heap.size + 1, 0, none⟩ = some (.int .i64 0) := (X1.cell 0).trans rfl; have X1k1 : w2.cell? ⟨w.heap.size + 1, 1, none⟩ = some (.int .i64 0) := (X1.cell 1).trans rfl; have X1k2 : w2.cell? ⟨w.heap.size + 1, 2, none⟩ = some (.slice none 0 0) := (X1.cell 2).trans rfl; have X1k3 : w2.cell? ⟨w.heap.size + 1, 3, none⟩ = some (.int .i64 0) := (X1.cell 3).trans rfl; have X1k4 : w2.cell? ⟨w.heap.size + 1, 4, none⟩ = some (.int .i64 0) := (X1.cell 4).trans rfl; have X1k5 : w2.cell? ⟨w.heap.size + 1, 5, none⟩ = some (.int .i64 0) := (X1.cell 5).trans rfl; have X1k6 : w2.cell? ⟨w.heap.size + 1, 6, none⟩ = some (.int .i64 0) := (X1.cell 6).trans rfl; have X1k7 : w2.cell? ⟨w.heap.size + 1, 7, none⟩ = some (.int .i64 0) := (X1.cell 7).trans rfl; have X1f0 := X1.frozen 0; have X1f1 := X1.frozen 1; have X1f2 := X1.frozen 2; have X1f3 := X1.frozen 3; have X1f4 := X1.frozen 4; have X1f5 := X1.frozen 5; have X1f6 := X1.frozen 6; have X1f7 := X1.frozen 7; go_wp2; rewrite [mset_fold]; obtain ⟨v4, hv4⟩ : ∃ v4, v4 = mset w2 (w.heap.size + 1) (.int .i64 0) (.int .i64 0) (.slice none 0 0) (.int .i64 0) (.int .i64 0) (.int .i64 0) (.int .i64 0) (.int .i64 0) := ⟨_, rfl⟩; have Z1 : Whole v4 (w.heap.size + 1) 56 [.int .i64 0, .int .i64 0, .slice none 0 0, .int .i64 0, .int .i64 0, .int .i64 0, .int .i64 0, .int .i64 0] := (by rw [hv4]; exact Whole.mset X1 _ _ _ _ _ _ _ _); replace B0 : Below w.heap.size w v4 := (by rw [hv4]; exact below_mset B0 (by omega)); clear X1k0 X1k1 X1k2 X1k3 X1k4 X1k5 X1k6 X1k7; clear X1f0 X1f1 X1f2 X1f3 X1f4 X1f5 X1f6 X1f7; rewrite [← hv4]; clear hv4; have Z1k0 : v4.cell? ⟨w.heap.size + 1, 0, none⟩ = some (.int .i64 0) := (Z1.cell 0).trans rfl; have Z1k1 : v4.cell? ⟨w.heap.size + 1, 1, none⟩ = some (.int .i64 0) := (Z1.cell 1).trans rfl; have Z1k2 : v4.cell? ⟨w.heap.size + 1, 2, none⟩ = some (.slice none 0 0) := (Z1.cell 2).trans rfl; have Z1k3 : v4.cell? ⟨w.heap.size + 1, 3, none⟩ = some (.int .i64 0) := (Z1.cell 3).trans rfl; have Z1k4 : v4.cell? ⟨w.heap.size + 1, 4, none⟩ = some (.int .i64 0) := (Z1.cell 4).trans rfl; have Z1k5 : v4.cell? ⟨w.heap.size + 1, 5, none⟩ = some (.int .i64 0) := (Z1.cell 5).trans rfl; have Z1k6 : v4.cell? ⟨w.heap.size + 1, 6, none⟩ = some (.int .i64 0) := (Z1.cell 6).trans rfl; have Z1k7 : v4.cell? ⟨w.heap.size + 1, 7, none⟩ = some (.int .i64 0) := (Z1.cell 7).trans rfl)
      refine bodyPost_ret (v := .tuple #[(.agg #[.int .i64 0, .int .i64 0, .slice none 0 0, .int .i64 0, .int .i64 0, .int .i64 0, .int .i64 0, .int .i64 0]), .bool false]) ?_ rfl ?_; (focus (simp [results, Try.results62, go_sem, *]; done))
      exact PostAM.no (by unfold okN; rw [HO.out, HI2.out]; rfl) HN HF B0
  · have HO := Lib.hid ho
    clear ho
    go_enter Try.func62, Try.ntmps62
    obtain ⟨v0, hv0, X0, X1, B0, hz0⟩ := two_boxes w [.int .i64 R, .int .i64 C, .slice A l.length cap, .int .i64 p, .int .i64 q, .int .i64 bl, .int .i64 rd, .int .i64 nx] 56 [.int .i64 0, .int .i64 0, .slice none 0 0, .int .i64 0, .int .i64 0, .int .i64 0, .int .i64 0, .int .i64 0] 56; have HV := Lib.hid hv0; have hz : w.heap.size + 1 < v0.heap.size := (by omega); have hy : w.heap.size < v0.heap.size := (by omega); have hb0 := B0.size; clear hv0 hz0; go_wp2_with fail; rewrite [show (w.alloc (.cells ([.int .i64 R, .int .i64 C, .slice A l.length cap, .int .i64 p, .int .i64 q, .int .i64 bl, .int .i64 rd, .int .i64 nx] : List Value).toArray 56)).alloc (.cells ([.int .i64 0, .int .i64 0, .slice none 0 0, .int .i64 0, .int .i64 0, .int .i64 0, .int .i64 0, .int .i64 0] : List Value).toArray 56) = v0 from HV.out]; clear HV
    refine (impl_IsMachine _ _ _ _ l _ _ _ _ _ _ hn ((hr.below B0).mono B0.size)).mono ?_; rintro e w1 ⟨rfl, b1⟩
    rewrite [HO.out]
    replace X0 := X0.below b1 X0.lt; replace X1 := X1.below b1 X1.lt; replace B0 := B0.trans (b1.mono B0.size); have hy := X0.lt; have hz := X1.lt; have hb0 := B0.size; clear b1
    (have X1 := X1; have X1k0 : w1.cell? ⟨w.heap.size + 1, 0, none⟩ = some (.int .i64 0) := (X1.cell 0).trans rfl; have X1k1 : w1.cell? ⟨w.heap.size + 1, 1, none⟩ = some (.int .i64 0) := (X1.cell 1).trans rfl; have X1k2 : w1.cell? ⟨w.heap.size + 1, 2, none⟩ = some (.slice none 0 0) := (X1.cell 2).trans rfl; have X1k3 : w1.cell? ⟨w.heap.size + 1, 3, none⟩ = some (.int .i64 0) := (X1.cell 3).trans rfl; have X1k4 : w1.cell? ⟨w.heap.size + 1, 4, none⟩ = some (.int .i64 0) := (X1.cell 4).trans rfl; have X1k5 : w1.cell? ⟨w.heap.size + 1, 5, none⟩ = some (.int .i64 0) := (X1.cell 5).trans rfl; have X1k6 : w1.cell? ⟨w.heap.size + 1, 6, none⟩ = some (.int .i64 0) := (X1.cell 6).trans rfl; have X1k7 : w1.cell? ⟨w.heap.size + 1, 7, none⟩ = some (.int .i64 0) := (X1.cell 7).trans rfl; have X1f0 := X1.frozen 0; have X1f1 := X1.frozen 1; have X1f2 := X1.frozen 2; have X1f3 := X1.frozen 3; have X1f4 := X1.frozen 4; have X1f5 := X1.frozen 5; have X1f6 := X1.frozen 6; have X1f7 := X1.frozen 7; go_wp2; rewrite [mset_fold]; obtain ⟨v4, hv4⟩ : ∃ v4, v4 = mset w1 (w.heap.size + 1) (.int .i64 0) (.int .i64 0) (.slice none 0 0) (.int .i64 0) (.int .i64 0) (.int .i64 0) (.int .i64 0) (.int .i64 0) := ⟨_, rfl⟩; have Z1 : Whole v4 (w.heap.size + 1) 56 [.int .i64 0, .int .i64 0, .slice none 0 0, .int .i64 0, .int .i64 0, .int .i64 0, .int .i64 0, .int .i64 0] := (by rw [hv4]; exact Whole.mset X1 _ _ _ _ _ _ _ _); replace B0 : Below w.heap.size w v4 := (by rw [hv4]; exact below_mset B0 (by omega)); clear X1k0 X1k1 X1k2 X1k3 X1k4 X1k5 X1k6 X1k7; clear X1f0 X1f1 X1f2 X1f3 X1f4 X1f5 X1f6 X1f7; rewrite [← hv4]; clear hv4; have Z1k0 : v4.cell? ⟨w.heap.size + 1, 0, none⟩ = some (.int .i64 0) := (Z1.cell 0).trans rfl; have Z1k1 : v4.cell? ⟨w.heap.size + 1, 1, none⟩ = some (.int .i64 0) := (Z1.cell 1).trans rfl; have Z1k2 : v4.cell? ⟨w.heap.size + 1, 2, none⟩ = some (.slice none 0 0) := (Z1.cell 2).trans rfl; have Z1k3 : v4.cell? ⟨w.heap.size + 1, 3, none⟩ = some (.int .i64 0) := (Z1.cell 3).trans rfl; have Z1k4 : v4.cell? ⟨w.heap.size + 1, 4, none⟩ = some (.int .i64 0) := (Z1.cell 4).trans rfl; have Z1k5 : v4.cell? ⟨w.heap.size + 1, 5, none⟩ = some (.int .i64 0) := (Z1.cell 5).trans rfl; have Z1k6 : v4.cell? ⟨w.heap.size + 1, 6, none⟩ = some (.int .i64 0) := (Z1.cell 6).trans rfl; have Z1k7 : v4.cell? ⟨w.heap.size + 1, 7, none⟩ = some (.int .i64 0) := (Z1.cell 7).trans rfl)
    refine bodyPost_ret (v := .tuple #[(.agg #[.int .i64 0, .int .i64 0, .slice none 0 0, .int .i64 0, .int .i64 0, .int .i64 0, .int .i64 0, .int .i64 0]), .bool false]) ?_ rfl ?_; (focus (simp [results, Try.results62, go_sem, *]; done))
    exact PostAM.no (by unfold okN; rw [HO.out]; rfl) HN HF B0
end Go.Proofs.Ytpfjbecpfdgnpaa
namespace Go.Proofs.Ytpfjbecpfdgnpaa
open Go.ChangeShapes Go.WideShapes Go.ChangeAt Go.RowKit Go.Joins Go.Deep
set_option linter.unusedSimpArgs false
set_option linter.unusedVariables false
set_option maxRecDepth 100000
set_option maxHeartbeats 4000000
/-- The first arrival in a column. -/
def fstA (col : Int) (fs : List (Int × Int × Int)) : Int × Bool := if fs.findIdx (fun f => decide (f.1 = 1 ∧ f.2.2 = col)) < fs.length then ((fs.findIdx (fun f => decide (f.1 = 1 ∧ f.2.2 = col)) : Int) + 1, true) else (0, false)
theorem fstA_some (col : Int) (fs : List (Int × Int × Int)) (k : Nat) (hk : k < fs.length) (h : fs[k].1 = 1 ∧ fs[k].2.2 = col) (hn : ∀ j (hj : j < k), ¬ (fs[j].1 = 1 ∧ fs[j].2.2 = col)) : fstA col fs = ((k : Int) + 1, true) := by
  have e : fs.findIdx (fun f => decide (f.1 = 1 ∧ f.2.2 = col)) = k := by
    rw [List.findIdx_eq hk]
    exact ⟨decide_eq_true h, fun j hj => decide_eq_false (hn j hj)⟩
  unfold fstA
  rw [e, if_pos hk]
theorem fstA_none (col : Int) (fs : List (Int × Int × Int)) (hn : ∀ j (hj : j < fs.length), ¬ (fs[j].1 = 1 ∧ fs[j].2.2 = col)) : fstA col fs = (0, false) := by
  unfold fstA
  rw [if_neg]
  intro h
  have := List.findIdx_getElem (w := h)
  exact hn _ h (of_decide_eq_true this)
theorem spec_FirstArrivalIn (R C : Int) (A : Option Addr) (cap : Nat) (l : List (Int × Int)) (p q bl rd nx : Int) (col : Int) (w : World) (hn : l.length ≤ 1048576) (hr : Rd w w.heap.size A (flat l)) :
    Calls Try.prog 63 #[.agg #[.int .i64 R, .int .i64 C, .slice A l.length cap, .int .i64 p, .int .i64 q, .int .i64 bl, .int .i64 rd, .int .i64 nx], .int .i64 col] w fun e w' => e = .returned (.tuple #[.int .i64 (fstA col (finO R C l p q bl rd nx).fs).1, .bool (fstA col (finO R C l p q bl rd nx).fs).2]) ∧ Below w.heap.size w w' := by
  unfold finO
  rcases Bool.eq_false_or_eq_true (okM R C l p q bl rd nx) with ho | ho
  · have HO := Lib.hid ho
    rw [ho, if_pos rfl]
    obtain ⟨r, c, rfl, rfl, hG, hg, hp, hq⟩ := okM_ints ho
    obtain ⟨_, _, hpos⟩ := goodB_parts hg
    obtain ⟨b, o, rfl, hbl, hc⟩ := hr (by rw [flat_length]; omega)
    have hr' : Rd w w.heap.size (some ⟨b, o, none⟩) (flat l) := fun _ => ⟨b, o, rfl, hbl, hc⟩
    have hfew := (MOk.run hp hq 60 _ (MOk.start ho)).few
    have HG := Lib.hid (fun w' h => spec_maRun r c b o cap l p q bl rd nx 60 w' ho (by omega) h)
    generalize runM (r : Int) (c : Int) p q 60 ⟨l, bl, rd, nx, [], []⟩ = s at *
    clear ho hr hG hg hp hq hc hbl
    go_enter Try.func63, Try.ntmps63
    obtain ⟨v0, hv0⟩ : ∃ v, v = w.alloc (.cells #[.int .i64 (r : Int), .int .i64 (c : Int), .slice (some ⟨b, o, none⟩) l.length cap, .int .i64 p, .int .i64 q, .int .i64 bl, .int .i64 rd, .int .i64 nx] 56) := ⟨_, rfl⟩; have X0 : Whole v0 w.heap.size 56 [.int .i64 (r : Int), .int .i64 (c : Int), .slice (some ⟨b, o, none⟩) l.length cap, .int .i64 p, .int .i64 q, .int .i64 bl, .int .i64 rd, .int .i64 nx] := (by rw [hv0]; exact heap_alloc_new w _); have hb : Below w.heap.size w v0 := (by rw [hv0]; exact (Below.refl _ _).alloc (Nat.le_refl _) _); have HV := Lib.hid hv0.symm; clear hv0; go_upto_region 1 with (fail); rewrite [HV.out]; clear HV; have hy := X0.lt
    have X0k0 : v0.cell? ⟨w.heap.size, 0, none⟩ = some (.int .i64 (r : Int)) := (X0.cell 0).trans rfl; have X0k1 : v0.cell? ⟨w.heap.size, 1, none⟩ = some (.int .i64 (c : Int)) := (X0.cell 1).trans rfl; have X0k2 : v0.cell? ⟨w.heap.size, 2, none⟩ = some (.slice (some ⟨b, o, none⟩) l.length cap) := (X0.cell 2).trans rfl; have X0k3 : v0.cell? ⟨w.heap.size, 3, none⟩ = some (.int .i64 p) := (X0.cell 3).trans rfl; have X0k4 : v0.cell? ⟨w.heap.size, 4, none⟩ = some (.int .i64 q) := (X0.cell 4).trans rfl; have X0k5 : v0.cell? ⟨w.heap.size, 5, none⟩ = some (.int .i64 bl) := (X0.cell 5).trans rfl; have X0k6 : v0.cell? ⟨w.heap.size, 6, none⟩ = some (.int .i64 rd) := (X0.cell 6).trans rfl; have X0k7 : v0.cell? ⟨w.heap.size, 7, none⟩ = some (.int .i64 nx) := (X0.cell 7).trans rfl
    go_wp2_with fail
    refine (spec_maGood _ _ _ _ l _ _ _ _ _ _ hn ((hr'.below hb).mono hb.size)).mono ?_; rintro e w1 ⟨rfl, b1⟩
    clear X0k0 X0k1 X0k2 X0k3 X0k4 X0k5 X0k6 X0k7
    (replace X0 := X0.below b1 X0.lt; replace hb := hb.trans (b1.mono hb.size); have hy := X0.lt; clear b1)
    rewrite [HO.out]
    have X0k0 : w1.cell? ⟨w.heap.size, 0, none⟩ = some (.int .i64 (r : Int)) := (X0.cell 0).trans rfl; have X0k1 : w1.cell? ⟨w.heap.size, 1, none⟩ = some (.int .i64 (c : Int)) := (X0.cell 1).trans rfl; have X0k2 : w1.cell? ⟨w.heap.size, 2, none⟩ = some (.slice (some ⟨b, o, none⟩) l.length cap) := (X0.cell 2).trans rfl; have X0k3 : w1.cell? ⟨w.heap.size, 3, none⟩ = some (.int .i64 p) := (X0.cell 3).trans rfl; have X0k4 : w1.cell? ⟨w.heap.size, 4, none⟩ = some (.int .i64 q) := (X0.cell 4).trans rfl; have X0k5 : w1.cell? ⟨w.heap.size, 5, none⟩ = some (.int .i64 bl) := (X0.cell 5).trans rfl; have X0k6 : w1.cell? ⟨w.heap.size, 6, none⟩ = some (.int .i64 rd) := (X0.cell 6).trans rfl; have X0k7 : w1.cell? ⟨w.heap.size, 7, none⟩ = some (.int .i64 nx) := (X0.cell 7).trans rfl
    go_wp2_with fail
    refine (HG.out _ ((hr'.below hb).mono hb.size)).mono ?_; rintro e w3 hP
    obtain ⟨A5, c5, v2, v3, rfl, O5, N5, h2, h3, b3⟩ := hP
    clear HG h2 O5 N5
    clear X0k0 X0k1 X0k2 X0k3 X0k4 X0k5 X0k6 X0k7
    obtain ⟨A6, c6, rfl, O6, N6⟩ := own_slice h3
    (replace X0 := X0.below b3 X0.lt; replace hb := hb.trans (b3.mono hb.size); have hy := X0.lt; clear b3)
    clear h3 N6 X0 hy
    obtain ⟨sl, sb, sr, sx, scs, fs⟩ := s
    have hfl : fs.length ≤ 60 := by have : fs.length + sb.toNat + sr.toNat ≤ 60 := hfew; omega
    clear hfew
    have HB := Lib.hid (fstA_some col fs)
    have HNn := Lib.hid (fstA_none col fs)
    go_upto_region 4 with (fail)
    have ba : Below w3.heap.size w3 (w3.alloc (.cells #[.int .i64 (r : Int), .int .i64 (c : Int), .slice A5 sl.length c5, .int .i64 p, .int .i64 q, .int .i64 sb, .int .i64 sr, .int .i64 sx] 56)) := (Below.refl _ _).alloc (Nat.le_refl _) _
    replace O6 := O6.keep ba
    replace hb := hb.trans (ba.mono hb.size)
    clear ba
    generalize w3.alloc (.cells #[.int .i64 (r : Int), .int .i64 (c : Int), .slice A5 sl.length c5, .int .i64 p, .int .i64 q, .int .i64 sb, .int .i64 sr, .int .i64 sx] 56) = v6 at *
    go_wp2
    go_loopw [22] (fun i wr => ∃ k : Nat, i = .int .i64 k ∧ k ≤ fs.length ∧ (∀ j (hj : j < fs.length), j < k → ¬ (fs[j].1 = 1 ∧ fs[j].2.2 = col)) ∧ Own wr A6 61 (flatF fs) ∧ Below w.heap.size w wr) (fun i _ => fs.length - (intOf i).toNat)
    case atStart => exact ⟨0, rfl, Nat.zero_le _, fun j _ h => absurd h (Nat.not_lt_zero j), O6, hb⟩
    case round =>
      clear O6 hb
      obtain ⟨k, rfl, hk, hall, O6, hb⟩ := hrel
      have hs := hb.size
      by_cases hlt : k < fs.length
      · obtain ⟨gr, rest, rfl, Xr⟩ := O6 (by rw [flatF_len]; omega)
        obtain ⟨hc0, hc1, hc2⟩ := flatF_at2 fs k hlt
        have hk0 : wr.cell? ⟨gr, k * 3, none⟩ = some (.int .i64 fs[k].1) := (Xr.cell _).trans (by rw [List.getElem?_append_left (by rw [flatF_len]; omega)]; exact hc0)
        have hk1 : wr.cell? ⟨gr, k * 3 + 1, none⟩ = some (.int .i64 fs[k].2.1) := (Xr.cell _).trans (by rw [List.getElem?_append_left (by rw [flatF_len]; omega)]; exact hc1)
        have hk2 : wr.cell? ⟨gr, k * 3 + 2, none⟩ = some (.int .i64 fs[k].2.2) := (Xr.cell _).trans (by rw [List.getElem?_append_left (by rw [flatF_len]; omega)]; exact hc2)
        have HBk := Lib.hid (fun h => HB.out k hlt h (fun j hj => hall j (by omega) hj))
        have HAk := Lib.hid (fun (h : ¬ (fs[k].1 = 1 ∧ fs[k].2.2 = col)) => (fun j (hj : j < fs.length) (hjk : j < k + 1) => (by
          rcases Nat.lt_or_eq_of_le (Nat.lt_succ_iff.1 hjk) with h1 | rfl
          · exact hall j hj h1
          · exact h) : ∀ j (hj : j < fs.length), j < k + 1 → ¬ (fs[j].1 = 1 ∧ fs[j].2.2 = col)))
        have hgl := Xr.lt
        clear hc0 hc1 hc2 hall
        generalize fs[k].1 = xe at *
        generalize fs[k].2.1 = xr at *
        generalize fs[k].2.2 = xc at *
        have m1 : IntKind.i64.wrap ((k : Int) + 1) = (k : Int) + 1 := IntWalk.i64_in _ (by omega)
        have ba : Below wr.heap.size wr (wr.alloc (.cells #[.int .i64 xe, .int .i64 xr, .int .i64 xc] 61)) := (Below.refl _ _).alloc (Nat.le_refl _) _
        have O67 := O6.keep ba
        have hb7 := hb.trans (ba.mono hs)
        clear ba hb O6 hs Xr
        by_cases hE : xe = 1
        · subst hE
          by_cases hE2 : xc = col
          · subst hE2
            have H9 := Lib.hid (HBk.out ⟨rfl, rfl⟩)
            clear HBk HAk
            go_wp2
            go_returns
            exact ⟨by rw [H9.out]; rfl, hb7⟩
          · have hb2 : (xc == col) = false := by simpa using hE2
            have H9 := Lib.hid (HAk.out (fun h => hE2 h.2))
            clear HBk HAk hE2
            go_wp2
            refine ⟨⟨k + 1, by go_num, by omega, H9.out, O67, hb7⟩, by simp [intOf]; omega⟩
        · have hb1 : (xe == 1) = false := by simpa using hE
          have H9 := Lib.hid (HAk.out (fun h => hE h.1))
          clear HBk HAk hE
          go_wp2
          refine ⟨⟨k + 1, by go_num, by omega, H9.out, O67, hb7⟩, by simp [intOf]; omega⟩
      · have H9 := Lib.hid (HNn.out (fun j hj => hall j hj (by omega)))
        clear hall
        go_wp2
        go_returns
        exact ⟨by rw [H9.out]; rfl, hb⟩
  · have HO := Lib.hid ho
    rw [ho, if_neg (by decide)]
    clear ho
    go_enter Try.func63, Try.ntmps63
    obtain ⟨v0, hv0⟩ : ∃ v, v = w.alloc (.cells #[.int .i64 R, .int .i64 C, .slice A l.length cap, .int .i64 p, .int .i64 q, .int .i64 bl, .int .i64 rd, .int .i64 nx] 56) := ⟨_, rfl⟩; have X0 : Whole v0 w.heap.size 56 [.int .i64 R, .int .i64 C, .slice A l.length cap, .int .i64 p, .int .i64 q, .int .i64 bl, .int .i64 rd, .int .i64 nx] := (by rw [hv0]; exact heap_alloc_new w _); have hb : Below w.heap.size w v0 := (by rw [hv0]; exact (Below.refl _ _).alloc (Nat.le_refl _) _); have HV := Lib.hid hv0.symm; clear hv0; go_upto_region 1 with (fail); rewrite [HV.out]; clear HV; have hy := X0.lt
    have X0k0 : v0.cell? ⟨w.heap.size, 0, none⟩ = some (.int .i64 R) := (X0.cell 0).trans rfl; have X0k1 : v0.cell? ⟨w.heap.size, 1, none⟩ = some (.int .i64 C) := (X0.cell 1).trans rfl; have X0k2 : v0.cell? ⟨w.heap.size, 2, none⟩ = some (.slice A l.length cap) := (X0.cell 2).trans rfl; have X0k3 : v0.cell? ⟨w.heap.size, 3, none⟩ = some (.int .i64 p) := (X0.cell 3).trans rfl; have X0k4 : v0.cell? ⟨w.heap.size, 4, none⟩ = some (.int .i64 q) := (X0.cell 4).trans rfl; have X0k5 : v0.cell? ⟨w.heap.size, 5, none⟩ = some (.int .i64 bl) := (X0.cell 5).trans rfl; have X0k6 : v0.cell? ⟨w.heap.size, 6, none⟩ = some (.int .i64 rd) := (X0.cell 6).trans rfl; have X0k7 : v0.cell? ⟨w.heap.size, 7, none⟩ = some (.int .i64 nx) := (X0.cell 7).trans rfl
    go_wp2_with fail
    refine (spec_maGood _ _ _ _ l _ _ _ _ _ _ hn ((hr.below hb).mono hb.size)).mono ?_; rintro e w1 ⟨rfl, b1⟩
    clear X0k0 X0k1 X0k2 X0k3 X0k4 X0k5 X0k6 X0k7
    (replace X0 := X0.below b1 X0.lt; replace hb := hb.trans (b1.mono hb.size); have hy := X0.lt; clear b1)
    rewrite [HO.out]
    go_wp2
    go_returns
    exact ⟨rfl, hb⟩
theorem impl_FirstArrivalIn (R C : Int) (A : Option Addr) (cap : Nat) (l : List (Int × Int)) (p q bl rd nx : Int) (col : Int) (w : World) (hn : l.length ≤ 1048576) (hr : Rd w w.heap.size A (flat l)) :
    Calls Try.prog 64 #[.agg #[.int .i64 R, .int .i64 C, .slice A l.length cap, .int .i64 p, .int .i64 q, .int .i64 bl, .int .i64 rd, .int .i64 nx], .int .i64 col] w fun e w' => e = .returned (.tuple #[.int .i64 (fstA col (finO R C l p q bl rd nx).fs).1, .bool (fstA col (finO R C l p q bl rd nx).fs).2]) ∧ Below w.heap.size w w' := by
  unfold finO
  rcases Bool.eq_false_or_eq_true (okM R C l p q bl rd nx) with ho | ho
  · rw [ho, if_pos rfl]
    obtain ⟨r, c, rfl, rfl, hG, hg, hp, hq⟩ := okM_ints ho
    obtain ⟨_, _, hpos⟩ := goodB_parts hg
    obtain ⟨b, o, rfl, hbl, hc⟩ := hr (by rw [flat_length]; omega)
    have hr' : Rd w w.heap.size (some ⟨b, o, none⟩) (flat l) := fun _ => ⟨b, o, rfl, hbl, hc⟩
    have hmk := MOk.run hp hq 60 _ (MOk.start ho)
    have HG := Lib.hid (fun w' h => impl_runSteps_yes r c b o cap l p q bl rd nx 60 w' ho (by omega) h)
    generalize runM (r : Int) (c : Int) p q 60 ⟨l, bl, rd, nx, [], []⟩ = s at *
    have HCs := Lib.hid (relS_fs hmk.same)
    have hrl : (relS s).length ≤ 60 := by have := hmk.few; rw [relS_len hmk.same]; omega
    have HB := Lib.hid (fstA_some col s.fs)
    have HNn := Lib.hid (fstA_none col s.fs)
    rw [← HCs.out] at HB HNn
    rewrite [← HCs.out]
    clear ho hr hG hg hp hq hc hbl hmk
    go_enter Try.func64, Try.ntmps64
    obtain ⟨v0, hv0⟩ : ∃ v, v = w.alloc (.cells #[.int .i64 (r : Int), .int .i64 (c : Int), .slice (some ⟨b, o, none⟩) l.length cap, .int .i64 p, .int .i64 q, .int .i64 bl, .int .i64 rd, .int .i64 nx] 56) := ⟨_, rfl⟩; have X0 : Whole v0 w.heap.size 56 [.int .i64 (r : Int), .int .i64 (c : Int), .slice (some ⟨b, o, none⟩) l.length cap, .int .i64 p, .int .i64 q, .int .i64 bl, .int .i64 rd, .int .i64 nx] := (by rw [hv0]; exact heap_alloc_new w _); have hb : Below w.heap.size w v0 := (by rw [hv0]; exact (Below.refl _ _).alloc (Nat.le_refl _) _); have HV := Lib.hid hv0.symm; clear hv0; go_upto_region 1 with (fail); rewrite [HV.out]; clear HV; have hy := X0.lt
    have X0k0 : v0.cell? ⟨w.heap.size, 0, none⟩ = some (.int .i64 (r : Int)) := (X0.cell 0).trans rfl; have X0k1 : v0.cell? ⟨w.heap.size, 1, none⟩ = some (.int .i64 (c : Int)) := (X0.cell 1).trans rfl; have X0k2 : v0.cell? ⟨w.heap.size, 2, none⟩ = some (.slice (some ⟨b, o, none⟩) l.length cap) := (X0.cell 2).trans rfl; have X0k3 : v0.cell? ⟨w.heap.size, 3, none⟩ = some (.int .i64 p) := (X0.cell 3).trans rfl; have X0k4 : v0.cell? ⟨w.heap.size, 4, none⟩ = some (.int .i64 q) := (X0.cell 4).trans rfl; have X0k5 : v0.cell? ⟨w.heap.size, 5, none⟩ = some (.int .i64 bl) := (X0.cell 5).trans rfl; have X0k6 : v0.cell? ⟨w.heap.size, 6, none⟩ = some (.int .i64 rd) := (X0.cell 6).trans rfl; have X0k7 : v0.cell? ⟨w.heap.size, 7, none⟩ = some (.int .i64 nx) := (X0.cell 7).trans rfl
    go_wp2_with fail
    refine (HG.out _ ((hr'.below hb).mono hb.size)).mono ?_; rintro e w3 hP
    obtain ⟨A5, c5, v2, rfl, O5, N5, h2, b3⟩ := hP
    clear HG O5 N5
    clear X0k0 X0k1 X0k2 X0k3 X0k4 X0k5 X0k6 X0k7
    obtain ⟨A6, c6, rfl, O6, N6⟩ := own_slice h2
    (replace X0 := X0.below b3 X0.lt; replace hb := hb.trans (b3.mono hb.size); have hy := X0.lt; clear b3)
    clear h2 N6 X0 hy
    generalize hRs : relS s = rs at *
    have HRs := Lib.hid hRs
    clear hRs
    obtain ⟨sl, sb, sr, sx, scs, sfs⟩ := s
    go_upto_region 2 with (fail)
    have ba : Below w3.heap.size w3 (w3.alloc (.cells #[.int .i64 (r : Int), .int .i64 (c : Int), .slice A5 sl.length c5, .int .i64 p, .int .i64 q, .int .i64 sb, .int .i64 sr, .int .i64 sx] 56)) := (Below.refl _ _).alloc (Nat.le_refl _) _
    replace O6 := O6.keep ba
    replace hb := hb.trans (ba.mono hb.size)
    clear ba
    generalize w3.alloc (.cells #[.int .i64 (r : Int), .int .i64 (c : Int), .slice A5 sl.length c5, .int .i64 p, .int .i64 q, .int .i64 sb, .int .i64 sr, .int .i64 sx] 56) = v6 at *
    go_wp2
    go_loopw [21] (fun i wr => ∃ k : Nat, i = .int .i64 k ∧ k ≤ rs.length ∧ (∀ j (hj : j < rs.length), j < k → ¬ (rs[j].2.1 = 1 ∧ rs[j].2.2.2 = col)) ∧ Own wr A6 117 (flatR rs) ∧ Below w.heap.size w wr) (fun i _ => rs.length - (intOf i).toNat)
    case atStart => exact ⟨0, rfl, Nat.zero_le _, fun j _ h => absurd h (Nat.not_lt_zero j), O6, hb⟩
    case round =>
      clear O6 hb
      obtain ⟨k, rfl, hk, hall, O6, hb⟩ := hrel
      have hs := hb.size
      by_cases hlt : k < rs.length
      · obtain ⟨gr, rest, rfl, Xr⟩ := O6 (by rw [flatR_len]; omega)
        obtain ⟨hc0, hc1⟩ := flatR_at rs k hlt
        obtain ⟨T, ev, hE⟩ := endV_iface rs[k].2
        rw [hE] at hc1
        have hk0 : wr.cell? ⟨gr, k * 2, none⟩ = some (.int .i64 rs[k].1) := (Xr.cell _).trans (by rw [List.getElem?_append_left (by rw [flatR_len]; omega)]; exact hc0)
        have hk1 : wr.cell? ⟨gr, k * 2 + 1, none⟩ = some (.iface T ev) := (Xr.cell _).trans (by rw [List.getElem?_append_left (by rw [flatR_len]; omega)]; exact hc1)
        have HBk := Lib.hid (fun (h : rs[k].2.1 = 1 ∧ rs[k].2.2.2 = col) => HB.out k (by rw [List.length_map]; exact hlt) (by rw [List.getElem_map]; exact h) (fun j hj => by rw [List.getElem_map]; exact hall j (by omega) hj))
        have HAk := Lib.hid (fun (h : ¬ (rs[k].2.1 = 1 ∧ rs[k].2.2.2 = col)) => (fun j (hj : j < rs.length) (hjk : j < k + 1) => (by
          rcases Nat.lt_or_eq_of_le (Nat.lt_succ_iff.1 hjk) with h1 | rfl
          · exact hall j hj h1
          · exact h) : ∀ j (hj : j < rs.length), j < k + 1 → ¬ (rs[j].2.1 = 1 ∧ rs[j].2.2.2 = col)))
        have HC := impl_arrivalColumn rs[k].2
        rw [hE] at HC
        have hgl := Xr.lt
        clear hc0 hc1 hE hall
        generalize rs[k].1 = x at *
        generalize rs[k].2 = f at *
        have m1 : IntKind.i64.wrap ((k : Int) + 1) = (k : Int) + 1 := IntWalk.i64_in _ (by omega)
        go_wp2_with fail
        refine (HC _).mono ?_; rintro e w5 ⟨rfl, b5⟩
        clear HC
        have ba : Below wr.heap.size wr (wr.alloc (.cells #[.int .i64 x, .iface T ev] 117)) := (Below.refl _ _).alloc (Nat.le_refl _) _
        replace O6 := (O6.keep ba).keep b5
        replace hb := (hb.trans (ba.mono hs)).trans (b5.mono (hb.trans (ba.mono hs)).size)
        clear ba b5 hk0 hk1 hgl hs Xr
        by_cases hE : f.1 = 1
        · rewrite [if_pos hE, decide_eq_true hE]
          by_cases hE2 : f.2.2 = col
          · have H9 := Lib.hid (HBk.out ⟨hE, hE2⟩)
            rewrite [hE2]
            clear HBk HAk hE hE2
            go_wp2
            go_returns
            exact ⟨by rw [HRs.out, H9.out]; rfl, hb⟩
          · have H9 := Lib.hid (HAk.out (fun h => hE2 h.2))
            have hb2 : (f.2.2 == col) = false := by simpa using hE2
            generalize f.2.2 = xc at *
            clear HBk HAk hE hE2
            go_wp2
            refine ⟨⟨k + 1, by go_num, by omega, H9.out, O6, hb⟩, by simp [intOf]; omega⟩
        · have H9 := Lib.hid (HAk.out (fun h => hE h.1))
          rewrite [if_neg hE, decide_eq_false hE]
          clear HBk HAk hE
          go_wp2
          refine ⟨⟨k + 1, by go_num, by omega, H9.out, O6, hb⟩, by simp [intOf]; omega⟩
      · have H9 := Lib.hid (HNn.out (fun j hj => by rw [List.getElem_map]; exact hall j (by rw [List.length_map] at hj; exact hj) (by rw [List.length_map] at hj; omega)))
        clear hall
        go_wp2
        go_returns
        exact ⟨by rw [HRs.out, H9.out]; rfl, hb⟩
  · rw [ho, if_neg (by decide)]
    have HG := Lib.hid (fun w' h => impl_runSteps_no R C A cap l p q bl rd nx 60 w' ho hn h)
    clear ho
    go_enter Try.func64, Try.ntmps64
    obtain ⟨v0, hv0⟩ : ∃ v, v = w.alloc (.cells #[.int .i64 R, .int .i64 C, .slice A l.length cap, .int .i64 p, .int .i64 q, .int .i64 bl, .int .i64 rd, .int .i64 nx] 56) := ⟨_, rfl⟩; have X0 : Whole v0 w.heap.size 56 [.int .i64 R, .int .i64 C, .slice A l.length cap, .int .i64 p, .int .i64 q, .int .i64 bl, .int .i64 rd, .int .i64 nx] := (by rw [hv0]; exact heap_alloc_new w _); have hb : Below w.heap.size w v0 := (by rw [hv0]; exact (Below.refl _ _).alloc (Nat.le_refl _) _); have HV := Lib.hid hv0.symm; clear hv0; go_upto_region 1 with (fail); rewrite [HV.out]; clear HV; have hy := X0.lt
    have X0k0 : v0.cell? ⟨w.heap.size, 0, none⟩ = some (.int .i64 R) := (X0.cell 0).trans rfl; have X0k1 : v0.cell? ⟨w.heap.size, 1, none⟩ = some (.int .i64 C) := (X0.cell 1).trans rfl; have X0k2 : v0.cell? ⟨w.heap.size, 2, none⟩ = some (.slice A l.length cap) := (X0.cell 2).trans rfl; have X0k3 : v0.cell? ⟨w.heap.size, 3, none⟩ = some (.int .i64 p) := (X0.cell 3).trans rfl; have X0k4 : v0.cell? ⟨w.heap.size, 4, none⟩ = some (.int .i64 q) := (X0.cell 4).trans rfl; have X0k5 : v0.cell? ⟨w.heap.size, 5, none⟩ = some (.int .i64 bl) := (X0.cell 5).trans rfl; have X0k6 : v0.cell? ⟨w.heap.size, 6, none⟩ = some (.int .i64 rd) := (X0.cell 6).trans rfl; have X0k7 : v0.cell? ⟨w.heap.size, 7, none⟩ = some (.int .i64 nx) := (X0.cell 7).trans rfl
    go_wp2_with fail
    refine (HG.out _ ((hr.below hb).mono hb.size)).mono ?_; rintro e w3 ⟨rfl, b3⟩
    clear HG
    clear X0k0 X0k1 X0k2 X0k3 X0k4 X0k5 X0k6 X0k7
    (replace X0 := X0.below b3 X0.lt; replace hb := hb.trans (b3.mono hb.size); have hy := X0.lt; clear b3)
    go_upto_region 2 with (fail)
    replace hb : Below w.heap.size w (w3.alloc (.cells #[.int .i64 0, .int .i64 0, .slice none 0 0, .int .i64 0, .int .i64 0, .int .i64 0, .int .i64 0, .int .i64 0] 56)) := hb.alloc hb.size _
    generalize w3.alloc (.cells #[.int .i64 0, .int .i64 0, .slice none 0 0, .int .i64 0, .int .i64 0, .int .i64 0, .int .i64 0, .int .i64 0] 56) = v6 at *
    clear X0 hy
    go_wp2
    go_rounds 1
    go_returns
    exact ⟨rfl, hb⟩
end Go.Proofs.Ytpfjbecpfdgnpaa
