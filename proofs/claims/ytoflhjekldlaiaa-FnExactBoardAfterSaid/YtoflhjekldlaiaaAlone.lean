/- fallAlone, areEntries: the program's. -/
import Derived.Test.YtoflhjekldlaiaaColumns
import Derived.Test.YtoflhjekldlaiaaLet
namespace Go.Proofs.Ytoflhjekldlaiaa
open Go.ChangeShapes Go.WideShapes Go.ChangeAt Go.RowKit Go.Joins Go.Deep
set_option linter.unusedSimpArgs false
set_option linter.unusedVariables false
set_option maxRecDepth 100000
set_option maxHeartbeats 4000000
/-- What fallAlone hands back: the cells met, and the end; nothing that was there has changed. -/
def PostN (w : World) (c : Nat) (F : FlR) (e : Ending) (w' : World) : Prop :=
  ∃ A cp, e = .returned (.tuple #[.slice A F.way.length cp, .agg #[.int .i64 F.e, .int .i64 F.row, .int .i64 F.col]]) ∧ Own w' A 3 (ints (wayI c F.way)) ∧ New w A ∧ Below w.heap.size w w'
theorem impl_fallAlone (r c b o cap : Nat) (l : List (Int × Int)) (col : Nat) (w : World) (hgd : goodB (r : Int) (c : Int) l = true) (hr : Rd w w.heap.size (some ⟨b, o, none⟩) (flat l)) (hcol : col < c) :
    Calls Try.prog 54 #[.agg #[.int .i64 (r : Int), .int .i64 (c : Int), .slice (some ⟨b, o, none⟩) l.length cap], .int .i64 (col : Int)] w (PostN w c (marO (r : Int) (c : Int) l (col : Int))) := by
  obtain ⟨r', c', er, ec, hG⟩ := geo_of hgd
  obtain rfl : r = r' := by omega
  obtain rfl : c = c' := by omega
  obtain ⟨_, h90, hpos⟩ := goodB_parts hgd
  have HM := Lib.hid (show marO (r : Int) (c : Int) l (col : Int) = flG (numL c l) r c r 0 l col 0 [] from rfl)
  rewrite [HM.out]
  clear HM er ec
  go_enter Try.func54, Try.ntmps54
  obtain ⟨v0, hv0, X0, X1, B0, hz0⟩ := two_boxes w [.int .i64 (r : Int), .int .i64 (c : Int), .slice (some ⟨b, o, none⟩) l.length cap] 32 [.int .i64 0, .int .i64 0, .int .i64 0] 27; have HV := Lib.hid hv0; have hz : w.heap.size + 1 < v0.heap.size := (by omega); have hy : w.heap.size < v0.heap.size := (by omega); have hb0 := B0.size; clear hv0 hz0; go_wp2_with fail; rewrite [show (w.alloc (.cells ([.int .i64 (r : Int), .int .i64 (c : Int), .slice (some ⟨b, o, none⟩) l.length cap] : List Value).toArray 32)).alloc (.cells ([.int .i64 0, .int .i64 0, .int .i64 0] : List Value).toArray 27) = v0 from HV.out]; clear HV
  have X0k0 : v0.cell? ⟨w.heap.size, 0, none⟩ = some (.int .i64 (r : Int)) := (X0.cell 0).trans rfl; have X0k1 : v0.cell? ⟨w.heap.size, 1, none⟩ = some (.int .i64 (c : Int)) := (X0.cell 1).trans rfl; have X0k2 : v0.cell? ⟨w.heap.size, 2, none⟩ = some (.slice (some ⟨b, o, none⟩) l.length cap) := (X0.cell 2).trans rfl
  go_wp2_with fail
  refine (impl_cloneBoard (r : Int) (c : Int) b o cap l _ (by omega) ((hr.below B0).mono B0.size)).mono ?_; rintro e w1 ⟨A5, c5, rfl, o5, n5, b1⟩
  clear X0k0 X0k1 X0k2
  obtain ⟨g5, rest5, rfl, X7⟩ := o5 (by rw [flat_length]; omega)
  have h5 : v0.heap.size ≤ g5 := n5 _ rfl
  clear n5 o5
  replace X0 := X0.below b1 X0.lt; replace X1 := X1.below b1 X1.lt; replace B0 := B0.trans (b1.mono B0.size); have hy := X0.lt; have hz := X1.lt; have hb0 := B0.size; clear b1
  go_wp2_with fail
  refine (impl_letFall r c g5 c5 l rest5 col _ hG hgd hcol X7).mono ?_; rintro e w2 ⟨A, cp, rfl, oA, nA, X7', gb⟩
  have hs := B0.size
  have B1 : Below w.heap.size w w2 := B0.grown gb hs (fun k e => by cases e; omega)
  have Z1 := X1.grown gb (fun e => by injection e with e; omega)
  have hA : ∀ a, A = some a → w.heap.size ≤ a.block := fun a ha => Nat.le_trans hs (nA a ha)
  clear X0 X1 X7 X7' gb nA B0 hb0 hy hz
  generalize flG (numL c l) r c r 0 l col 0 [] = F at *
  have Z1k0 : w2.cell? ⟨w.heap.size + 1, 0, none⟩ = some (.int .i64 0) := (Z1.cell 0).trans rfl; have Z1k1 : w2.cell? ⟨w.heap.size + 1, 1, none⟩ = some (.int .i64 0) := (Z1.cell 1).trans rfl; have Z1k2 : w2.cell? ⟨w.heap.size + 1, 2, none⟩ = some (.int .i64 0) := (Z1.cell 2).trans rfl
  have Z1f0 := Z1.frozen 0; have Z1f1 := Z1.frozen 1; have Z1f2 := Z1.frozen 2
  go_wp2
  refine bodyPost_ret (v := .tuple #[.slice A F.way.length cp, .agg #[.int .i64 F.e, .int .i64 F.row, .int .i64 F.col]]) ?_ rfl ?_; (focus (simp [results, Try.results54, go_sem, *]; done))
  exact ⟨A, cp, rfl, own_three oA Z1 (by decide), hA, ((B1.setCell (p := ⟨w.heap.size + 1, 0, none⟩) (by show w.heap.size ≤ w.heap.size + 1; omega) _).setCell (p := ⟨w.heap.size + 1, 1, none⟩) (by show w.heap.size ≤ w.heap.size + 1; omega) _).setCell (p := ⟨w.heap.size + 1, 2, none⟩) (by show w.heap.size ≤ w.heap.size + 1; omega) _⟩
theorem inI_lt {C x : Int} : inI 0 (C - 1) x = decide (0 ≤ x ∧ x < C) := by
  unfold inI
  rw [Bool.eq_iff_iff]
  simp
  omega
theorem okC'_one (R C : Int) (l : List (Int × Int)) (j : Int) : okC' R C l [j] = okF R C l j := by
  unfold okC' okF allI
  rw [List.all_cons, List.all_nil, Bool.and_true, inI_lt]
  simp
theorem impl_areEntries (R C : Int) (A : Option Addr) (cap : Nat) (l : List (Int × Int)) (A' : Option Addr) (cap' : Nat) (cs : List Int) (w : World) (hn : l.length ≤ 1048576) (hn' : cs.length ≤ 1048576) (hr : Rd w w.heap.size A (flat l)) (hr' : Rd w w.heap.size A' (ints cs)) :
    Calls Try.prog 53 #[.agg #[.int .i64 R, .int .i64 C, .slice A l.length cap], .slice A' cs.length cap'] w fun e w' => e = .returned (.bool (okC' R C l cs)) ∧ Below w.heap.size w w' := by
  unfold okC'
  rcases Bool.eq_false_or_eq_true (goodB R C l) with hg | hg
  · have HG := Lib.hid hg
    rw [hg]
    clear hg
    by_cases h60 : cs.length ≤ 60
    · have hd : decide ((60 : Int) < (cs.length : Int)) = false := by simp; omega
      have HE := Lib.hid (show (true && decide (cs.length ≤ 60) && allI 0 (C - 1) cs) = allI 0 (C - 1) cs by rw [decide_eq_true h60]; rfl)
      rewrite [HE.out]
      have HB := Lib.hid (fun k (hk : k < cs.length) h => allI_bad (lo := 0) (hi := C - 1) hk h)
      have HAl := Lib.hid (fun (h : ∀ k (hk : k < cs.length), inI 0 (C - 1) cs[k] = true) => (show allI 0 (C - 1) cs = true from by
        unfold allI
        rw [List.all_eq_true]
        intro x hx
        obtain ⟨k, hk, rfl⟩ := List.mem_iff_getElem.1 hx
        exact h k hk))
      clear HE
      go_enter Try.func53, Try.ntmps53
      obtain ⟨v0, hv0⟩ : ∃ v, v = w.alloc (.cells #[.int .i64 R, .int .i64 C, .slice A l.length cap] 32) := ⟨_, rfl⟩; have X0 : Whole v0 w.heap.size 32 [.int .i64 R, .int .i64 C, .slice A l.length cap] := (by rw [hv0]; exact heap_alloc_new w _); have hb : Below w.heap.size w v0 := (by rw [hv0]; exact (Below.refl _ _).alloc (Nat.le_refl _) _); have HV := Lib.hid hv0.symm; clear hv0; go_upto_region 1 with (fail); rewrite [HV.out]; clear HV; have X0k0 : v0.cell? ⟨w.heap.size, 0, none⟩ = some (.int .i64 R) := (X0.cell 0).trans rfl; have X0k1 : v0.cell? ⟨w.heap.size, 1, none⟩ = some (.int .i64 C) := (X0.cell 1).trans rfl; have X0k2 : v0.cell? ⟨w.heap.size, 2, none⟩ = some (.slice A l.length cap) := (X0.cell 2).trans rfl
      go_wp2_with fail
      refine (impl_IsBoard _ _ _ _ l _ hn ((hr.below hb).mono hb.size)).mono ?_; rintro e w1 ⟨rfl, b1⟩
      rewrite [HG.out]
      (clear X0k0 X0k1 X0k2; replace X0 := X0.below b1 X0.lt; replace hb := hb.trans (b1.mono hb.size); clear b1; have X0k0 : w1.cell? ⟨w.heap.size, 0, none⟩ = some (.int .i64 R) := (X0.cell 0).trans rfl; have X0k1 : w1.cell? ⟨w.heap.size, 1, none⟩ = some (.int .i64 C) := (X0.cell 1).trans rfl; have X0k2 : w1.cell? ⟨w.heap.size, 2, none⟩ = some (.slice A l.length cap) := (X0.cell 2).trans rfl)
      clear X0k0 X0k1 X0k2
      go_wp2
      go_loopw [17] (fun i wr => ∃ k : Nat, i = .int .i64 k ∧ k ≤ cs.length ∧ (∀ j (hj : j < cs.length), j < k → inI 0 (C - 1) cs[j] = true) ∧ Whole wr w.heap.size 32 [.int .i64 R, .int .i64 C, .slice A l.length cap] ∧ Below w.heap.size w wr) (fun i _ => cs.length - (intOf i).toNat)
      case atStart => exact ⟨0, rfl, Nat.zero_le _, fun j _ h => absurd h (Nat.not_lt_zero j), X0, hb⟩
      case round =>
        clear X0 hb
        obtain ⟨k, rfl, hk, hall, X0, hb⟩ := hrel
        by_cases hlt : k < cs.length
        · obtain ⟨b, o, rfl, hbl, hc⟩ := hr' (by rw [ints_length]; omega)
          have hck := (hb.cell (p := ⟨b, o + k, none⟩) hbl).trans (hc k _ (ints_at cs k hlt))
          have HBk := Lib.hid (HB.out k hlt)
          have hall' : inI 0 (C - 1) cs[k] = true → ∀ j (hj : j < cs.length), j < k + 1 → inI 0 (C - 1) cs[j] = true := fun h j hj hjk => by
            rcases Nat.lt_or_eq_of_le (Nat.lt_succ_iff.1 hjk) with h1 | rfl
            · exact hall j hj h1
            · exact h
          have HAk := Lib.hid hall'
          have HI := Lib.hid (inI_lt (C := C) (x := cs[k]))
          clear hall hall' hc
          generalize hx : cs[k] = x at *
          have X0k0 : wr.cell? ⟨w.heap.size, 0, none⟩ = some (.int .i64 R) := (X0.cell 0).trans rfl; have X0k1 : wr.cell? ⟨w.heap.size, 1, none⟩ = some (.int .i64 C) := (X0.cell 1).trans rfl; have X0k2 : wr.cell? ⟨w.heap.size, 2, none⟩ = some (.slice A l.length cap) := (X0.cell 2).trans rfl
          go_wp2_with fail
          refine (impl_hasColumn _ _ _ _ _ _ _).mono ?_; rintro e w2 ⟨rfl, b2⟩
          clear X0k0 X0k1 X0k2
          replace X0 := X0.below b2 X0.lt
          replace hb := hb.trans (b2.mono hb.size)
          clear b2
          rewrite [← HI.out]
          rcases Bool.eq_false_or_eq_true (inI 0 (C - 1) x) with h | h
          · rewrite [h]
            have HA2 := Lib.hid (HAk.out h)
            clear h hck
            go_wp2
            go_roundw
            case rel => exact ⟨k + 1, by go_num, by omega, HA2.out, X0, hb⟩
            case measure => simp [intOf]; omega
          · rewrite [h]
            have HB2 := Lib.hid (HBk.out h)
            clear h hck
            go_wp2
            go_returns
            exact ⟨by rw [HB2.out]; rfl, hb⟩
        · obtain rfl : k = cs.length := by omega
          have HA2 := Lib.hid (HAl.out (fun j hj => hall j hj hj))
          clear hall
          go_wp2
          go_returns
          exact ⟨by rw [HA2.out]; rfl, hb⟩
    · have hd : decide ((60 : Int) < (cs.length : Int)) = true := by simp; omega
      have HE := Lib.hid (show (true && decide (cs.length ≤ 60) && allI 0 (C - 1) cs) = false by rw [decide_eq_false h60]; rfl)
      go_enter Try.func53, Try.ntmps53
      obtain ⟨v0, hv0⟩ : ∃ v, v = w.alloc (.cells #[.int .i64 R, .int .i64 C, .slice A l.length cap] 32) := ⟨_, rfl⟩; have X0 : Whole v0 w.heap.size 32 [.int .i64 R, .int .i64 C, .slice A l.length cap] := (by rw [hv0]; exact heap_alloc_new w _); have hb : Below w.heap.size w v0 := (by rw [hv0]; exact (Below.refl _ _).alloc (Nat.le_refl _) _); have HV := Lib.hid hv0.symm; clear hv0; go_upto_region 1 with (fail); rewrite [HV.out]; clear HV; have X0k0 : v0.cell? ⟨w.heap.size, 0, none⟩ = some (.int .i64 R) := (X0.cell 0).trans rfl; have X0k1 : v0.cell? ⟨w.heap.size, 1, none⟩ = some (.int .i64 C) := (X0.cell 1).trans rfl; have X0k2 : v0.cell? ⟨w.heap.size, 2, none⟩ = some (.slice A l.length cap) := (X0.cell 2).trans rfl
      go_wp2_with fail
      refine (impl_IsBoard _ _ _ _ l _ hn ((hr.below hb).mono hb.size)).mono ?_; rintro e w1 ⟨rfl, b1⟩
      rewrite [HG.out]
      (clear X0k0 X0k1 X0k2; replace X0 := X0.below b1 X0.lt; replace hb := hb.trans (b1.mono hb.size); clear b1; have X0k0 : w1.cell? ⟨w.heap.size, 0, none⟩ = some (.int .i64 R) := (X0.cell 0).trans rfl; have X0k1 : w1.cell? ⟨w.heap.size, 1, none⟩ = some (.int .i64 C) := (X0.cell 1).trans rfl; have X0k2 : w1.cell? ⟨w.heap.size, 2, none⟩ = some (.slice A l.length cap) := (X0.cell 2).trans rfl)
      go_wp2
      go_returns
      exact ⟨by rw [HE.out]; rfl, by (repeat' (first | (with_reducible exact Below.refl _ _) | (with_reducible assumption) | (with_reducible refine Below.alloc ?_ ?_ _) | (with_reducible refine Below.setCell ?_ ?_ _) | (with_reducible refine Below.drew ?_) | (with_reducible refine below_drewN ?_ _) | (with_reducible refine Below.trans ?_ (Below.mono (by assumption) ?_)) | (with_reducible exact Nat.le_refl _) | (simp; done) | omega | (simp at *; omega)))⟩
  · have HG := Lib.hid hg
    rw [hg]
    clear hg
    go_enter Try.func53, Try.ntmps53
    obtain ⟨v0, hv0⟩ : ∃ v, v = w.alloc (.cells #[.int .i64 R, .int .i64 C, .slice A l.length cap] 32) := ⟨_, rfl⟩; have X0 : Whole v0 w.heap.size 32 [.int .i64 R, .int .i64 C, .slice A l.length cap] := (by rw [hv0]; exact heap_alloc_new w _); have hb : Below w.heap.size w v0 := (by rw [hv0]; exact (Below.refl _ _).alloc (Nat.le_refl _) _); have HV := Lib.hid hv0.symm; clear hv0; go_upto_region 1 with (fail); rewrite [HV.out]; clear HV; have X0k0 : v0.cell? ⟨w.heap.size, 0, none⟩ = some (.int .i64 R) := (X0.cell 0).trans rfl; have X0k1 : v0.cell? ⟨w.heap.size, 1, none⟩ = some (.int .i64 C) := (X0.cell 1).trans rfl; have X0k2 : v0.cell? ⟨w.heap.size, 2, none⟩ = some (.slice A l.length cap) := (X0.cell 2).trans rfl
    go_wp2_with fail
    refine (impl_IsBoard _ _ _ _ l _ hn ((hr.below hb).mono hb.size)).mono ?_; rintro e w1 ⟨rfl, b1⟩
    rewrite [HG.out]
    (clear X0k0 X0k1 X0k2; replace X0 := X0.below b1 X0.lt; replace hb := hb.trans (b1.mono hb.size); clear b1; have X0k0 : w1.cell? ⟨w.heap.size, 0, none⟩ = some (.int .i64 R) := (X0.cell 0).trans rfl; have X0k1 : w1.cell? ⟨w.heap.size, 1, none⟩ = some (.int .i64 C) := (X0.cell 1).trans rfl; have X0k2 : w1.cell? ⟨w.heap.size, 2, none⟩ = some (.slice A l.length cap) := (X0.cell 2).trans rfl)
    go_wp2
    go_returns
    exact ⟨rfl, by (repeat' (first | (with_reducible exact Below.refl _ _) | (with_reducible assumption) | (with_reducible refine Below.alloc ?_ ?_ _) | (with_reducible refine Below.setCell ?_ ?_ _) | (with_reducible refine Below.drew ?_) | (with_reducible refine below_drewN ?_ _) | (with_reducible refine Below.trans ?_ (Below.mono (by assumption) ?_)) | (with_reducible exact Nat.le_refl _) | (simp; done) | omega | (simp at *; omega)))⟩
theorem impl_areEntries1 (R C : Int) (A : Option Addr) (cap : Nat) (l : List (Int × Int)) (j : Int) (g : Nat) (w : World) (hn : l.length ≤ 1048576) (hr : Rd w w.heap.size A (flat l)) (hg : Whole w g 3 [.int .i64 j]) :
    Calls Try.prog 53 #[.agg #[.int .i64 R, .int .i64 C, .slice A l.length cap], .slice (some ⟨g, 0, none⟩) 1 1] w fun e w' => e = .returned (.bool (okF R C l j)) ∧ Below w.heap.size w w' := by
  rw [← okC'_one]
  exact impl_areEntries R C A cap l (some ⟨g, 0, none⟩) 1 [j] w hn (by simp) hr (hg.rd hg.lt)
end Go.Proofs.Ytoflhjekldlaiaa
