/- Contracts of the program and of the model, walked, part 9 of 9. No condition but what each says. -/
import Derived.Test.YtoflhjekldlaiaaM8
import Derived.StillTailTactics
import Derived.Test.YtoflhjekldlaiaaM5
import Derived.Test.YtoflhjekldlaiaaM1
namespace Go.Proofs.Ytoflhjekldlaiaa
open Go.ChangeShapes Go.WideShapes Go.ChangeAt Go.RowKit Go.Joins Go.Deep
set_option linter.unusedSimpArgs false
set_option linter.unusedVariables false
set_option maxRecDepth 100000
set_option maxHeartbeats 4000000
theorem impl_ArrivalCounts (R C : Int) (A : Option Addr) (cap : Nat) (l : List (Int × Int)) (A' : Option Addr) (cap' : Nat) (cs : List Int) (w : World) (hn : l.length ≤ 1048576) (hr : Rd w w.heap.size A (flat l)) (hn' : cs.length ≤ 1048576) (hrc : Rd w w.heap.size A' (ints cs)) :
    Calls Try.prog 40 #[.agg #[.int .i64 R, .int .i64 C, .slice A l.length cap], .slice A' cs.length cap'] w (PostL w (arrL R C l cs) (okC' R C l cs)) := by
  unfold arrL
  rcases Bool.eq_false_or_eq_true (okC' R C l cs) with ho | ho
  · have HO := Lib.hid ho
    obtain ⟨hg, h60, hall⟩ := okC'_parts ho
    obtain ⟨_, _, hpos⟩ := goodB_parts hg
    obtain ⟨b, o, rfl, hbl, hc⟩ := hr (by rw [flat_length]; omega)
    have hr' : Rd w w.heap.size (some ⟨b, o, none⟩) (flat l) := fun _ => ⟨b, o, rfl, hbl, hc⟩
    obtain ⟨r, c, rfl, rfl, hG⟩ := geo_of hg
    obtain ⟨s1, s2, s3, s4⟩ := sizeB_iff.1 (goodB_iff.1 hg).1
    have hfa : (fallsO (r : Int) (c : Int) l cs).1 = (stA (numL c l) r c l cs cs.length).1 := by unfold fallsO; rw [ho]; rfl
    have HLn := Lib.hid (show (fallsO (r : Int) (c : Int) l cs).1.length = cs.length by rw [hfa]; exact (stA_len (numL c l) r c l cs cs.length).1)
    have HOk := Lib.hid (show ∀ k, k < cs.length → okE c ((fallsO (r : Int) (c : Int) l cs).1.getD k (0, 0, 0)) by rw [hfa]; exact stA_okE (numL c l) r c l cs (fun k hk => (show 0 ≤ cs.getD k 0 ∧ cs.getD k 0 < (c : Int) by have := allI_at hall k hk; omega)) cs.length (Nat.le_refl _))
    have HQ0 := impl_FallsOf (r : Int) (c : Int) (some ⟨b, o, none⟩) cap l A' cap' cs
    rw [ho] at HQ0
    rw [ho, if_pos rfl, Int.toNat_natCast]
    clear hfa
    generalize (fallsO (r : Int) (c : Int) l cs).1 = fx at *
    generalize (fallsO (r : Int) (c : Int) l cs).2 = lx at *
    have HQ := Lib.hid (fun w h1 h2 h3 h4 => HQ0 w h1 h2 h3 h4)
    have hmk := run_make_c2 c (by omega)
    have m2 : IntKind.i64.wrap ((c : Int) + 2) = (c : Int) + 2 := IntWalk.i64_in _ (by omega)
    clear ho hr hG HQ0
    go_enter Try.func40, Try.ntmps40
    obtain ⟨v0, hv0⟩ : ∃ v, v = w.alloc (.cells #[.int .i64 (r : Int), .int .i64 (c : Int), .slice (some ⟨b, o, none⟩) l.length cap] 32) := ⟨_, rfl⟩; have X0 : Whole v0 w.heap.size 32 [.int .i64 (r : Int), .int .i64 (c : Int), .slice (some ⟨b, o, none⟩) l.length cap] := (by rw [hv0]; exact heap_alloc_new w _); have hb : Below w.heap.size w v0 := (by rw [hv0]; exact (Below.refl _ _).alloc (Nat.le_refl _) _); have HV := Lib.hid hv0.symm; clear hv0; go_upto_region 1 with (fail); rewrite [HV.out]; clear HV; have X0k0 : v0.cell? ⟨w.heap.size, 0, none⟩ = some (.int .i64 (r : Int)) := (X0.cell 0).trans rfl; have X0k1 : v0.cell? ⟨w.heap.size, 1, none⟩ = some (.int .i64 (c : Int)) := (X0.cell 1).trans rfl; have X0k2 : v0.cell? ⟨w.heap.size, 2, none⟩ = some (.slice (some ⟨b, o, none⟩) l.length cap) := (X0.cell 2).trans rfl
    go_wp2_with fail
    refine (HQ.out _ hn ((hr'.below hb).mono hb.size) hn' ((hrc.below hb).mono hb.size)).mono ?_; rintro e w1 ⟨Ax, cx, A5, c5, rfl, hx, Nx, O5, N5, b1⟩
    clear O5 N5 Nx HQ
    rewrite [HLn.out]
    (clear X0k0 X0k1 X0k2; replace X0 := X0.below b1 X0.lt; replace hb := hb.trans (b1.mono hb.size); clear b1; have X0k0 : w1.cell? ⟨w.heap.size, 0, none⟩ = some (.int .i64 (r : Int)) := (X0.cell 0).trans rfl; have X0k1 : w1.cell? ⟨w.heap.size, 1, none⟩ = some (.int .i64 (c : Int)) := (X0.cell 1).trans rfl; have X0k2 : w1.cell? ⟨w.heap.size, 2, none⟩ = some (.slice (some ⟨b, o, none⟩) l.length cap) := (X0.cell 2).trans rfl)
    clear X0k0 X0k1 X0k2
    have hs1 := hb.size
    go_upto_region 2 with (fail)
    generalize hv7 : World.alloc _ _ = v7
    have b7 : Below w1.heap.size w1 v7 := by rw [← hv7]; exact (Below.refl _ _).alloc (Nat.le_refl _) _
    clear hv7
    replace X0 := X0.below b7 X0.lt
    replace hx := hx.keep b7
    replace hb := hb.trans (b7.mono hs1)
    clear b7 hs1
    have X0k0 : v7.cell? ⟨w.heap.size, 0, none⟩ = some (.int .i64 (r : Int)) := (X0.cell 0).trans rfl; have X0k1 : v7.cell? ⟨w.heap.size, 1, none⟩ = some (.int .i64 (c : Int)) := (X0.cell 1).trans rfl; have X0k2 : v7.cell? ⟨w.heap.size, 2, none⟩ = some (.slice (some ⟨b, o, none⟩) l.length cap) := (X0.cell 2).trans rfl
    go_upto_region 5 with (fail)
    clear X0k0 X0k1 X0k2
    have bo : Below v7.heap.size v7 (v7.alloc (.cells (zrow (c + 2)).toArray 3)) := (Below.refl _ _).alloc (Nat.le_refl _) _
    have Xo : Whole (v7.alloc (.cells (zrow (c + 2)).toArray 3)) v7.heap.size 3 (ints (cntK c fx 0)) := by rw [show cntK c fx 0 = List.replicate (c + 2) 0 from rfl, ← zrow_ints]; exact heap_alloc_new v7 _
    have hgO : w.heap.size ≤ v7.heap.size := hb.size
    have hgO1 : w.heap.size < v7.heap.size := X0.lt
    replace X0 := X0.below bo X0.lt
    replace hx := hx.keep bo
    have B0 := hb.trans (bo.mono hb.size)
    clear bo hmk hb
    generalize v7.alloc (.cells (zrow (c + 2)).toArray 3) = v2 at *
    generalize v7.heap.size = gO at *
    go_wp2
    go_loopw [27] (fun i wr => ∃ k : Nat, i = .int .i64 k ∧ k ≤ cs.length ∧ Whole wr w.heap.size 32 [.int .i64 (r : Int), .int .i64 (c : Int), .slice (some ⟨b, o, none⟩) l.length cap] ∧ Whole wr gO 3 (ints (cntK c fx k)) ∧ Own wr Ax 27 (flatF fx) ∧ Below w.heap.size w wr) (fun i _ => cs.length - (intOf i).toNat)
    case atStart => exact ⟨0, rfl, Nat.zero_le _, X0, Xo, hx, B0⟩
    case round =>
      clear X0 Xo hx B0
      obtain ⟨k, rfl, hk, X0, Xo, hx, B0⟩ := hrel
      by_cases hlt : k < cs.length
      · obtain ⟨gx, hAx, hgx, x0, x1, x2⟩ := own_fall hx (show k < fx.length by have := HLn.out; omega)
        subst hAx
        have hs := B0.size
        have hok := HOk.out k hlt
        have HSt := Lib.hid (show cntK c fx (k + 1) = cStep c (cntK c fx k) (fx.getD k (0, 0, 0)) from rfl)
        have hvl := cntK_len c fx k
        have hvb := cntK_bd c fx k
        have hi0 : (0 : Int) ≤ (k : Int) := Int.natCast_nonneg _
        generalize fx.getD k (0, 0, 0) = p at *
        generalize cntK c fx k = V at *
        obtain ⟨x, y, z⟩ := p
        dsimp only at x0 x1 x2
        have hgo := Xo.lt
        have hyw := X0.lt
        rcases hok with ⟨h1, hz1, hz2⟩ | h2 | h3
        · dsimp only at h1 hz1 hz2
          subst h1
          obtain ⟨zn, rfl⟩ : ∃ zn : Nat, z = (zn : Int) := ⟨z.toNat, by omega⟩
          have HS := Lib.hid (show cntK c fx (k + 1) = V.set zn (V.getD zn 0 + 1) by rw [HSt.out]; unfold cStep; rw [if_pos rfl]; rfl)
          have hq := (Xo.cell zn).trans (ints_getD V zn (by omega))
          have hqb := hvb zn
          have hzl : (zn : Int) < ((c : Int) + 2) := by omega
          clear hvb
          generalize V.getD zn 0 = q at *
          have m9 : IntKind.i64.wrap (q + 1) = q + 1 := IntWalk.i64_in _ (by omega)
          have hf := Xo.frozen zn
          (go_wp2; go_roundw; (case rel => exact ⟨k + 1, by go_num, by omega, (X0.set_far ⟨gO, zn, none⟩ (.int .i64 (q + 1)) (by show gO ≠ _; omega)).alloc _, (by rw [HS.out, ← ints_setI]; exact (Xo.set zn _).alloc _), (set_row (j := zn) (u := .int .i64 (q + 1)) hx Xo (by decide)).alloc_ _, (B0.setCell (p := ⟨gO, zn, none⟩) (by show w.heap.size ≤ gO; omega) (.int .i64 (q + 1))).alloc (by rw [World.size_setCell]; exact hs) _⟩); (case measure => (simp [intOf]; omega)))
        · dsimp only at h2
          subst h2
          have HS := Lib.hid (show cntK c fx (k + 1) = V.set c (V.getD c 0 + 1) by rw [HSt.out]; unfold cStep; rw [if_neg (by show ¬ (2 : Int) = 1; decide), if_pos rfl])
          have hq := (Xo.cell c).trans (ints_getD V c (by omega))
          have hqb := hvb c
          clear hvb
          generalize V.getD c 0 = q at *
          have m9 : IntKind.i64.wrap (q + 1) = q + 1 := IntWalk.i64_in _ (by omega)
          have hf := Xo.frozen c
          have X0k0 : wr.cell? ⟨w.heap.size, 0, none⟩ = some (.int .i64 (r : Int)) := (X0.cell 0).trans rfl; have X0k1 : wr.cell? ⟨w.heap.size, 1, none⟩ = some (.int .i64 (c : Int)) := (X0.cell 1).trans rfl; have X0k2 : wr.cell? ⟨w.heap.size, 2, none⟩ = some (.slice (some ⟨b, o, none⟩) l.length cap) := (X0.cell 2).trans rfl
          (go_wp2; go_roundw; (case rel => exact ⟨k + 1, by go_num, by omega, (X0.set_far ⟨gO, c, none⟩ (.int .i64 (q + 1)) (by show gO ≠ _; omega)).alloc _, (by rw [HS.out, ← ints_setI]; exact (Xo.set c _).alloc _), (set_row (j := c) (u := .int .i64 (q + 1)) hx Xo (by decide)).alloc_ _, (B0.setCell (p := ⟨gO, c, none⟩) (by show w.heap.size ≤ gO; omega) (.int .i64 (q + 1))).alloc (by rw [World.size_setCell]; exact hs) _⟩); (case measure => (simp [intOf]; omega)))
        · dsimp only at h3
          subst h3
          have HS := Lib.hid (show cntK c fx (k + 1) = V.set (c + 1) (V.getD (c + 1) 0 + 1) by rw [HSt.out]; unfold cStep; rw [if_neg (by show ¬ (3 : Int) = 1; decide), if_neg (by show ¬ (3 : Int) = 2; decide)])
          have hq := (Xo.cell (c + 1)).trans (ints_getD V (c + 1) (by omega))
          have hqb := hvb (c + 1)
          clear hvb
          generalize V.getD (c + 1) 0 = q at *
          have m9 : IntKind.i64.wrap (q + 1) = q + 1 := IntWalk.i64_in _ (by omega)
          have m5 : IntKind.i64.wrap ((c : Int) + 1) = ((c + 1 : Nat) : Int) := by
            have e : ((c : Int) + 1) = ((c + 1 : Nat) : Int) := by push_cast; rfl
            rw [e]; exact IntWalk.i64_in _ (by omega)
          have hf := Xo.frozen (c + 1)
          have X0k0 : wr.cell? ⟨w.heap.size, 0, none⟩ = some (.int .i64 (r : Int)) := (X0.cell 0).trans rfl; have X0k1 : wr.cell? ⟨w.heap.size, 1, none⟩ = some (.int .i64 (c : Int)) := (X0.cell 1).trans rfl; have X0k2 : wr.cell? ⟨w.heap.size, 2, none⟩ = some (.slice (some ⟨b, o, none⟩) l.length cap) := (X0.cell 2).trans rfl
          (go_wp2; go_roundw; (case rel => exact ⟨k + 1, by go_num, by omega, (X0.set_far ⟨gO, (c + 1), none⟩ (.int .i64 (q + 1)) (by show gO ≠ _; omega)).alloc _, (by rw [HS.out, ← ints_setI]; exact (Xo.set (c + 1) _).alloc _), (set_row (j := (c + 1)) (u := .int .i64 (q + 1)) hx Xo (by decide)).alloc_ _, (B0.setCell (p := ⟨gO, (c + 1), none⟩) (by show w.heap.size ≤ gO; omega) (.int .i64 (q + 1))).alloc (by rw [World.size_setCell]; exact hs) _⟩); (case measure => (simp [intOf]; omega)))
      · obtain rfl : k = cs.length := by omega
        have hl9 := cntK_len c fx cs.length
        have HPo := Lib.hid (show (.slice (some ⟨gO, 0, none⟩) (c + 2) (c + 2) : Value) = .slice (some ⟨gO, 0, none⟩) (cntK c fx cs.length).length (c + 2) by rw [hl9])
        have ho := Xo.own
        clear hlt hl9
        go_wp2
        go_returns
        refine Eq.subst (motive := fun v => PostL w (cntK c fx cs.length) true (.returned (.tuple #[v, .bool true])) wr) HPo.out.symm ?_
        exact PostL.mk ho (fun a ha => by cases ha; show w.heap.size ≤ gO; omega) B0
  · have HO := Lib.hid ho
    have HQ0 := impl_FallsOf R C A cap l A' cap' cs
    have HE := Lib.hid (show (fallsO R C l cs).1.length = 0 by unfold fallsO; rw [ho]; rfl)
    rw [ho] at HQ0
    rw [ho]
    generalize (fallsO R C l cs).1 = fx at *
    generalize (fallsO R C l cs).2 = lx at *
    have HQ := Lib.hid (fun w h1 h2 h3 h4 => HQ0 w h1 h2 h3 h4)
    clear ho HQ0
    go_enter Try.func40, Try.ntmps40
    obtain ⟨v0, hv0⟩ : ∃ v, v = w.alloc (.cells #[.int .i64 R, .int .i64 C, .slice A l.length cap] 32) := ⟨_, rfl⟩; have X0 : Whole v0 w.heap.size 32 [.int .i64 R, .int .i64 C, .slice A l.length cap] := (by rw [hv0]; exact heap_alloc_new w _); have hb : Below w.heap.size w v0 := (by rw [hv0]; exact (Below.refl _ _).alloc (Nat.le_refl _) _); have HV := Lib.hid hv0.symm; clear hv0; go_upto_region 1 with (fail); rewrite [HV.out]; clear HV; have X0k0 : v0.cell? ⟨w.heap.size, 0, none⟩ = some (.int .i64 R) := (X0.cell 0).trans rfl; have X0k1 : v0.cell? ⟨w.heap.size, 1, none⟩ = some (.int .i64 C) := (X0.cell 1).trans rfl; have X0k2 : v0.cell? ⟨w.heap.size, 2, none⟩ = some (.slice A l.length cap) := (X0.cell 2).trans rfl
    go_wp2_with fail
    refine (HQ.out _ hn ((hr.below hb).mono hb.size) hn' ((hrc.below hb).mono hb.size)).mono ?_; rintro e w1 ⟨Ax, cx, A5, c5, rfl, hx, Nx, O5, N5, b1⟩
    clear O5 N5 Nx HQ hx
    (clear X0k0 X0k1 X0k2; replace X0 := X0.below b1 X0.lt; replace hb := hb.trans (b1.mono hb.size); clear b1; have X0k0 : w1.cell? ⟨w.heap.size, 0, none⟩ = some (.int .i64 R) := (X0.cell 0).trans rfl; have X0k1 : w1.cell? ⟨w.heap.size, 1, none⟩ = some (.int .i64 C) := (X0.cell 1).trans rfl; have X0k2 : w1.cell? ⟨w.heap.size, 2, none⟩ = some (.slice A l.length cap) := (X0.cell 2).trans rfl)
    have hbs := hb.size
    go_wp2
    go_returns
    exact PostL.none_ (by (repeat' (first | (with_reducible exact Below.refl _ _) | (with_reducible assumption) | (with_reducible refine Below.alloc ?_ ?_ _) | (with_reducible refine Below.setCell ?_ ?_ _) | (with_reducible refine Below.drew ?_) | (with_reducible refine below_drewN ?_ _) | (with_reducible refine Below.trans ?_ (Below.mono (by assumption) ?_)) | (with_reducible exact Nat.le_refl _) | (simp; done) | omega | (simp at *; omega))))
end Go.Proofs.Ytoflhjekldlaiaa
namespace Go.Proofs.Ytoflhjekldlaiaa
open Go.ChangeShapes Go.WideShapes Go.ChangeAt Go.RowKit Go.Joins Go.Deep
set_option linter.unusedSimpArgs false
set_option linter.unusedVariables false
set_option maxRecDepth 100000
set_option maxHeartbeats 4000000
theorem spec_ArrivalCounts (R C : Int) (A : Option Addr) (cap : Nat) (l : List (Int × Int)) (A' : Option Addr) (cap' : Nat) (cs : List Int) (w : World) (hn : l.length ≤ 1048576) (hr : Rd w w.heap.size A (flat l)) (hn' : cs.length ≤ 1048576) (hrc : Rd w w.heap.size A' (ints cs)) :
    Calls Try.prog 39 #[.agg #[.int .i64 R, .int .i64 C, .slice A l.length cap], .slice A' cs.length cap'] w (PostL w (arrL R C l cs) (okC' R C l cs)) := by
  unfold arrL
  rcases Bool.eq_false_or_eq_true (okC' R C l cs) with ho | ho
  · have HO := Lib.hid ho
    obtain ⟨hg, h60, hall⟩ := okC'_parts ho
    obtain ⟨_, _, hpos⟩ := goodB_parts hg
    obtain ⟨b, o, rfl, hbl, hc⟩ := hr (by rw [flat_length]; omega)
    have hr' : Rd w w.heap.size (some ⟨b, o, none⟩) (flat l) := fun _ => ⟨b, o, rfl, hbl, hc⟩
    obtain ⟨r, c, rfl, rfl, hG⟩ := geo_of hg
    obtain ⟨s1, s2, s3, s4⟩ := sizeB_iff.1 (goodB_iff.1 hg).1
    have HFa := Lib.hid (show (fallsO (r : Int) (c : Int) l cs).1 = (stA (numL c l) r c l cs cs.length).1 by unfold fallsO; rw [ho]; rfl)
    have HLn := Lib.hid (stA_len (numL c l) r c l cs cs.length).1
    have HOk0 := stA_okE (numL c l) r c l cs (fun k hk => (show 0 ≤ cs.getD k 0 ∧ cs.getD k 0 < (c : Int) by have := allI_at hall k hk; omega)) cs.length (Nat.le_refl _)
    rw [ho, if_pos rfl, Int.toNat_natCast, HFa.out]
    have HQ0 := spec_flAll r c b o cap l A' cap' cs
    generalize (stA (numL c l) r c l cs cs.length).1 = fx at *
    generalize (stA (numL c l) r c l cs cs.length).2 = lx at *
    have HQ := Lib.hid (fun w h1 h2 h3 h4 h5 => HQ0 w h1 h2 h3 h4 h5)
    have HOk := Lib.hid (fun k (hk : k < cs.length) => HOk0 k hk)
    have hmk := run_make_c2 c (by omega)
    have m2 : IntKind.i64.wrap ((c : Int) + 2) = (c : Int) + 2 := IntWalk.i64_in _ (by omega)
    clear ho hr hG HQ0 HOk0 HFa
    go_enter Try.func39, Try.ntmps39
    obtain ⟨v0, hv0⟩ : ∃ v, v = w.alloc (.cells #[.int .i64 (r : Int), .int .i64 (c : Int), .slice (some ⟨b, o, none⟩) l.length cap] 32) := ⟨_, rfl⟩; have X0 : Whole v0 w.heap.size 32 [.int .i64 (r : Int), .int .i64 (c : Int), .slice (some ⟨b, o, none⟩) l.length cap] := (by rw [hv0]; exact heap_alloc_new w _); have hb : Below w.heap.size w v0 := (by rw [hv0]; exact (Below.refl _ _).alloc (Nat.le_refl _) _); have HV := Lib.hid hv0.symm; clear hv0; go_upto_region 1 with (fail); rewrite [HV.out]; clear HV; have X0k0 : v0.cell? ⟨w.heap.size, 0, none⟩ = some (.int .i64 (r : Int)) := (X0.cell 0).trans rfl; have X0k1 : v0.cell? ⟨w.heap.size, 1, none⟩ = some (.int .i64 (c : Int)) := (X0.cell 1).trans rfl; have X0k2 : v0.cell? ⟨w.heap.size, 2, none⟩ = some (.slice (some ⟨b, o, none⟩) l.length cap) := (X0.cell 2).trans rfl
    go_wp2_with fail
    refine (spec_flColumns _ _ _ _ l _ _ cs _ hn hn' ((hr'.below hb).mono hb.size) ((hrc.below hb).mono hb.size)).mono ?_; rintro e w1 ⟨rfl, b1⟩
    rewrite [HO.out]
    (clear X0k0 X0k1 X0k2; replace X0 := X0.below b1 X0.lt; replace hb := hb.trans (b1.mono hb.size); clear b1; have X0k0 : w1.cell? ⟨w.heap.size, 0, none⟩ = some (.int .i64 (r : Int)) := (X0.cell 0).trans rfl; have X0k1 : w1.cell? ⟨w.heap.size, 1, none⟩ = some (.int .i64 (c : Int)) := (X0.cell 1).trans rfl; have X0k2 : w1.cell? ⟨w.heap.size, 2, none⟩ = some (.slice (some ⟨b, o, none⟩) l.length cap) := (X0.cell 2).trans rfl)
    go_upto_region 4 with (fail)
    clear X0k0 X0k1 X0k2
    have bo : Below w1.heap.size w1 (w1.alloc (.cells (zrow (c + 2)).toArray 3)) := (Below.refl _ _).alloc (Nat.le_refl _) _
    have Xo : Whole (w1.alloc (.cells (zrow (c + 2)).toArray 3)) w1.heap.size 3 (ints (cntK c fx 0)) := by rw [show cntK c fx 0 = List.replicate (c + 2) 0 from rfl, ← zrow_ints]; exact heap_alloc_new w1 _
    have hgO : w.heap.size ≤ w1.heap.size := hb.size
    have hgO1 : w.heap.size < w1.heap.size := X0.lt
    replace X0 := X0.below bo X0.lt
    replace hb := hb.trans (bo.mono hb.size)
    clear bo hmk
    generalize w1.alloc (.cells (zrow (c + 2)).toArray 3) = v2 at *
    generalize w1.heap.size = gO at *
    have X0k0 : v2.cell? ⟨w.heap.size, 0, none⟩ = some (.int .i64 (r : Int)) := (X0.cell 0).trans rfl; have X0k1 : v2.cell? ⟨w.heap.size, 1, none⟩ = some (.int .i64 (c : Int)) := (X0.cell 1).trans rfl; have X0k2 : v2.cell? ⟨w.heap.size, 2, none⟩ = some (.slice (some ⟨b, o, none⟩) l.length cap) := (X0.cell 2).trans rfl
    go_wp2_with fail
    refine (HQ.out _ hg ((hr'.below hb).mono hb.size) ((hrc.below hb).mono hb.size) h60 hall).mono ?_; rintro e w3 ⟨v3, A5, c5, rfl, hxr, O5, N5, b3⟩
    clear O5 N5
    clear X0k0 X0k1 X0k2
    obtain ⟨Ax, cx, rfl⟩ := slice_of_row hxr
    have hx := (own_of_row hxr).1
    clear hxr
    replace X0 := X0.below b3 X0.lt
    replace Xo := Xo.below b3 Xo.lt
    replace hb := hb.trans (b3.mono hb.size)
    clear b3
    have hs3 := hb.size
    go_upto_region 6 with (fail)
    generalize hv7 : World.alloc _ _ = v7
    have b7 : Below w3.heap.size w3 v7 := by rw [← hv7]; exact (Below.refl _ _).alloc (Nat.le_refl _) _
    clear hv7
    replace X0 := X0.below b7 X0.lt
    replace Xo := Xo.below b7 Xo.lt
    replace hx := hx.keep b7
    have B0 := hb.trans (b7.mono hs3)
    clear b7 hb hs3 HQ
    go_loopw [27] (fun i wr => ∃ k : Nat, i = .int .i64 k ∧ k ≤ cs.length ∧ Whole wr w.heap.size 32 [.int .i64 (r : Int), .int .i64 (c : Int), .slice (some ⟨b, o, none⟩) l.length cap] ∧ Whole wr gO 3 (ints (cntK c fx k)) ∧ Own wr Ax 27 (flatF fx) ∧ Below w.heap.size w wr) (fun i _ => cs.length - (intOf i).toNat)
    case atStart => exact ⟨0, rfl, Nat.zero_le _, X0, Xo, hx, B0⟩
    case round =>
      clear X0 Xo hx B0
      obtain ⟨k, rfl, hk, X0, Xo, hx, B0⟩ := hrel
      by_cases hlt : k < cs.length
      · obtain ⟨gx, hAx, hgx, x0, x1, x2⟩ := own_fall hx (show k < fx.length by have := HLn.out; omega)
        subst hAx
        have hs := B0.size
        have hok := HOk.out k hlt
        have HSt := Lib.hid (show cntK c fx (k + 1) = cStep c (cntK c fx k) (fx.getD k (0, 0, 0)) from rfl)
        have hvl := cntK_len c fx k
        have hvb := cntK_bd c fx k
        have hi0 : (0 : Int) ≤ (k : Int) := Int.natCast_nonneg _
        generalize fx.getD k (0, 0, 0) = p at *
        generalize cntK c fx k = V at *
        obtain ⟨x, y, z⟩ := p
        dsimp only at x0 x1 x2
        have hgo := Xo.lt
        have hyw := X0.lt
        rcases hok with ⟨h1, hz1, hz2⟩ | h2 | h3
        · dsimp only at h1 hz1 hz2
          subst h1
          obtain ⟨zn, rfl⟩ : ∃ zn : Nat, z = (zn : Int) := ⟨z.toNat, by omega⟩
          have HS := Lib.hid (show cntK c fx (k + 1) = V.set zn (V.getD zn 0 + 1) by rw [HSt.out]; unfold cStep; rw [if_pos rfl]; rfl)
          have hq := (Xo.cell zn).trans (ints_getD V zn (by omega))
          have hqb := hvb zn
          have hzl : (zn : Int) < ((c : Int) + 2) := by omega
          clear hvb
          generalize V.getD zn 0 = q at *
          have m9 : IntKind.i64.wrap (q + 1) = q + 1 := IntWalk.i64_in _ (by omega)
          have hf := Xo.frozen zn
          (go_wp2; go_roundw; (case rel => exact ⟨k + 1, by go_num, by omega, (X0.set_far ⟨gO, zn, none⟩ (.int .i64 (q + 1)) (by show gO ≠ _; omega)).alloc _, (by rw [HS.out, ← ints_setI]; exact (Xo.set zn _).alloc _), (set_row (j := zn) (u := .int .i64 (q + 1)) hx Xo (by decide)).alloc_ _, (B0.setCell (p := ⟨gO, zn, none⟩) (by show w.heap.size ≤ gO; omega) (.int .i64 (q + 1))).alloc (by rw [World.size_setCell]; exact hs) _⟩); (case measure => (simp [intOf]; omega)))
        · dsimp only at h2
          subst h2
          have HS := Lib.hid (show cntK c fx (k + 1) = V.set c (V.getD c 0 + 1) by rw [HSt.out]; unfold cStep; rw [if_neg (by show ¬ (2 : Int) = 1; decide), if_pos rfl])
          have hq := (Xo.cell c).trans (ints_getD V c (by omega))
          have hqb := hvb c
          clear hvb
          generalize V.getD c 0 = q at *
          have m9 : IntKind.i64.wrap (q + 1) = q + 1 := IntWalk.i64_in _ (by omega)
          have hf := Xo.frozen c
          have X0k0 : wr.cell? ⟨w.heap.size, 0, none⟩ = some (.int .i64 (r : Int)) := (X0.cell 0).trans rfl; have X0k1 : wr.cell? ⟨w.heap.size, 1, none⟩ = some (.int .i64 (c : Int)) := (X0.cell 1).trans rfl; have X0k2 : wr.cell? ⟨w.heap.size, 2, none⟩ = some (.slice (some ⟨b, o, none⟩) l.length cap) := (X0.cell 2).trans rfl
          (go_wp2; go_roundw; (case rel => exact ⟨k + 1, by go_num, by omega, (X0.set_far ⟨gO, c, none⟩ (.int .i64 (q + 1)) (by show gO ≠ _; omega)).alloc _, (by rw [HS.out, ← ints_setI]; exact (Xo.set c _).alloc _), (set_row (j := c) (u := .int .i64 (q + 1)) hx Xo (by decide)).alloc_ _, (B0.setCell (p := ⟨gO, c, none⟩) (by show w.heap.size ≤ gO; omega) (.int .i64 (q + 1))).alloc (by rw [World.size_setCell]; exact hs) _⟩); (case measure => (simp [intOf]; omega)))
        · dsimp only at h3
          subst h3
          have HS := Lib.hid (show cntK c fx (k + 1) = V.set (c + 1) (V.getD (c + 1) 0 + 1) by rw [HSt.out]; unfold cStep; rw [if_neg (by show ¬ (3 : Int) = 1; decide), if_neg (by show ¬ (3 : Int) = 2; decide)])
          have hq := (Xo.cell (c + 1)).trans (ints_getD V (c + 1) (by omega))
          have hqb := hvb (c + 1)
          clear hvb
          generalize V.getD (c + 1) 0 = q at *
          have m9 : IntKind.i64.wrap (q + 1) = q + 1 := IntWalk.i64_in _ (by omega)
          have m5 : IntKind.i64.wrap ((c : Int) + 1) = ((c + 1 : Nat) : Int) := by
            have e : ((c : Int) + 1) = ((c + 1 : Nat) : Int) := by push_cast; rfl
            rw [e]; exact IntWalk.i64_in _ (by omega)
          have hf := Xo.frozen (c + 1)
          have X0k0 : wr.cell? ⟨w.heap.size, 0, none⟩ = some (.int .i64 (r : Int)) := (X0.cell 0).trans rfl; have X0k1 : wr.cell? ⟨w.heap.size, 1, none⟩ = some (.int .i64 (c : Int)) := (X0.cell 1).trans rfl; have X0k2 : wr.cell? ⟨w.heap.size, 2, none⟩ = some (.slice (some ⟨b, o, none⟩) l.length cap) := (X0.cell 2).trans rfl
          (go_wp2; go_roundw; (case rel => exact ⟨k + 1, by go_num, by omega, (X0.set_far ⟨gO, (c + 1), none⟩ (.int .i64 (q + 1)) (by show gO ≠ _; omega)).alloc _, (by rw [HS.out, ← ints_setI]; exact (Xo.set (c + 1) _).alloc _), (set_row (j := (c + 1)) (u := .int .i64 (q + 1)) hx Xo (by decide)).alloc_ _, (B0.setCell (p := ⟨gO, (c + 1), none⟩) (by show w.heap.size ≤ gO; omega) (.int .i64 (q + 1))).alloc (by rw [World.size_setCell]; exact hs) _⟩); (case measure => (simp [intOf]; omega)))
      · obtain rfl : k = cs.length := by omega
        have hl9 := cntK_len c fx cs.length
        have HPo := Lib.hid (show (.slice (some ⟨gO, 0, none⟩) (c + 2) (c + 2) : Value) = .slice (some ⟨gO, 0, none⟩) (cntK c fx cs.length).length (c + 2) by rw [hl9])
        have ho := Xo.own
        clear hlt hl9
        go_wp2
        go_returns
        refine Eq.subst (motive := fun v => PostL w (cntK c fx cs.length) true (.returned (.tuple #[v, .bool true])) wr) HPo.out.symm ?_
        exact PostL.mk ho (fun a ha => by cases ha; show w.heap.size ≤ gO; omega) B0
  · have HO := Lib.hid ho
    rw [ho]
    clear ho
    go_enter Try.func39, Try.ntmps39
    obtain ⟨v0, hv0⟩ : ∃ v, v = w.alloc (.cells #[.int .i64 R, .int .i64 C, .slice A l.length cap] 32) := ⟨_, rfl⟩; have X0 : Whole v0 w.heap.size 32 [.int .i64 R, .int .i64 C, .slice A l.length cap] := (by rw [hv0]; exact heap_alloc_new w _); have hb : Below w.heap.size w v0 := (by rw [hv0]; exact (Below.refl _ _).alloc (Nat.le_refl _) _); have HV := Lib.hid hv0.symm; clear hv0; go_upto_region 1 with (fail); rewrite [HV.out]; clear HV; have X0k0 : v0.cell? ⟨w.heap.size, 0, none⟩ = some (.int .i64 R) := (X0.cell 0).trans rfl; have X0k1 : v0.cell? ⟨w.heap.size, 1, none⟩ = some (.int .i64 C) := (X0.cell 1).trans rfl; have X0k2 : v0.cell? ⟨w.heap.size, 2, none⟩ = some (.slice A l.length cap) := (X0.cell 2).trans rfl
    go_wp2_with fail
    refine (spec_flColumns _ _ _ _ l _ _ cs _ hn hn' ((hr.below hb).mono hb.size) ((hrc.below hb).mono hb.size)).mono ?_; rintro e w1 ⟨rfl, b1⟩
    rewrite [HO.out]
    (clear X0k0 X0k1 X0k2; replace X0 := X0.below b1 X0.lt; replace hb := hb.trans (b1.mono hb.size); clear b1; have X0k0 : w1.cell? ⟨w.heap.size, 0, none⟩ = some (.int .i64 R) := (X0.cell 0).trans rfl; have X0k1 : w1.cell? ⟨w.heap.size, 1, none⟩ = some (.int .i64 C) := (X0.cell 1).trans rfl; have X0k2 : w1.cell? ⟨w.heap.size, 2, none⟩ = some (.slice A l.length cap) := (X0.cell 2).trans rfl)
    go_wp2
    go_returns
    exact PostL.none_ (by (repeat' (first | (with_reducible exact Below.refl _ _) | (with_reducible assumption) | (with_reducible refine Below.alloc ?_ ?_ _) | (with_reducible refine Below.setCell ?_ ?_ _) | (with_reducible refine Below.drew ?_) | (with_reducible refine below_drewN ?_ _) | (with_reducible refine Below.trans ?_ (Below.mono (by assumption) ?_)) | (with_reducible exact Nat.le_refl _) | (simp; done) | omega | (simp at *; omega))))
end Go.Proofs.Ytoflhjekldlaiaa
namespace Go.Proofs.Ytoflhjekldlaiaa
open Go.ChangeShapes Go.WideShapes Go.ChangeAt Go.RowKit Go.Joins Go.Deep
set_option linter.unusedSimpArgs false
set_option linter.unusedVariables false
set_option maxRecDepth 100000
set_option maxHeartbeats 2000000
theorem eqFall_any (a b c a' b' c' : Int) (w : World) :
    Calls Try.prog 17 #[.agg #[.int .i64 a, .int .i64 b, .int .i64 c], .agg #[.int .i64 a', .int .i64 b', .int .i64 c']] w fun e w' => e = .returned (.bool (decide (a = a' ∧ b = b' ∧ c = c'))) ∧ Below w.heap.size w w' := by
  by_cases h1 : a = a'
  · subst h1
    by_cases h2 : b = b'
    · subst h2
      by_cases h3 : c = c'
      · subst h3
        go_enter Try.func17, Try.ntmps17
        go_wp2
        go_returns
        exact ⟨ret_bool (by first | rfl | simp), by (repeat' (first | (with_reducible exact Below.refl _ _) | (with_reducible assumption) | (with_reducible refine Below.alloc ?_ ?_ _) | (with_reducible refine Below.setCell ?_ ?_ _) | (with_reducible refine Below.drew ?_) | (with_reducible refine below_drewN ?_ _) | (with_reducible refine Below.trans ?_ (Below.mono (by assumption) ?_)) | (with_reducible exact Nat.le_refl _) | (simp; done) | omega | (simp at *; omega)))⟩
      · have hb : (c != c') = true := by simpa using h3
        have HL := Lib.hid h3
        clear h3
        go_enter Try.func17, Try.ntmps17
        go_wp2
        go_returns
        exact ⟨ret_bool (decide_eq_false (fun h => HL.out h.2.2)).symm, by (repeat' (first | (with_reducible exact Below.refl _ _) | (with_reducible assumption) | (with_reducible refine Below.alloc ?_ ?_ _) | (with_reducible refine Below.setCell ?_ ?_ _) | (with_reducible refine Below.drew ?_) | (with_reducible refine below_drewN ?_ _) | (with_reducible refine Below.trans ?_ (Below.mono (by assumption) ?_)) | (with_reducible exact Nat.le_refl _) | (simp; done) | omega | (simp at *; omega)))⟩
    · have hb : (b != b') = true := by simpa using h2
      have HL := Lib.hid h2
      clear h2
      go_enter Try.func17, Try.ntmps17
      go_wp2
      go_returns
      exact ⟨ret_bool (decide_eq_false (fun h => HL.out h.2.1)).symm, by (repeat' (first | (with_reducible exact Below.refl _ _) | (with_reducible assumption) | (with_reducible refine Below.alloc ?_ ?_ _) | (with_reducible refine Below.setCell ?_ ?_ _) | (with_reducible refine Below.drew ?_) | (with_reducible refine below_drewN ?_ _) | (with_reducible refine Below.trans ?_ (Below.mono (by assumption) ?_)) | (with_reducible exact Nat.le_refl _) | (simp; done) | omega | (simp at *; omega)))⟩
  · have hb : (a != a') = true := by simpa using h1
    have HL := Lib.hid h1
    clear h1
    go_enter Try.func17, Try.ntmps17
    go_wp2
    go_returns
    exact ⟨ret_bool (decide_eq_false (fun h => HL.out h.1)).symm, by (repeat' (first | (with_reducible exact Below.refl _ _) | (with_reducible assumption) | (with_reducible refine Below.alloc ?_ ?_ _) | (with_reducible refine Below.setCell ?_ ?_ _) | (with_reducible refine Below.drew ?_) | (with_reducible refine below_drewN ?_ _) | (with_reducible refine Below.trans ?_ (Below.mono (by assumption) ?_)) | (with_reducible exact Nat.le_refl _) | (simp; done) | omega | (simp at *; omega)))⟩
theorem flatF_at2 (l : List (Int × Int × Int)) (k : Nat) (h : k < l.length) : (flatF l)[k * 3]? = some (.int .i64 l[k].1) ∧ (flatF l)[k * 3 + 1]? = some (.int .i64 l[k].2.1) ∧ (flatF l)[k * 3 + 2]? = some (.int .i64 l[k].2.2) := by
  induction l generalizing k with
  | nil => simp at h
  | cons c l ih =>
    cases k with
    | zero => exact ⟨rfl, rfl, rfl⟩
    | succ k =>
      have := ih k (by simpa using h)
      have e1 : (flatF (c :: l))[(k + 1) * 3]? = (flatF l)[k * 3]? := by rw [show (k + 1) * 3 = k * 3 + 1 + 1 + 1 by omega]; rfl
      have e2 : (flatF (c :: l))[(k + 1) * 3 + 1]? = (flatF l)[k * 3 + 1]? := by rw [show (k + 1) * 3 + 1 = k * 3 + 1 + 1 + 1 + 1 by omega]; rfl
      have e3 : (flatF (c :: l))[(k + 1) * 3 + 2]? = (flatF l)[k * 3 + 2]? := by rw [show (k + 1) * 3 + 2 = k * 3 + 2 + 1 + 1 + 1 by omega]; rfl
      rw [e1, e2, e3]
      exact this
theorem flatF_pos {l : List (Int × Int × Int)} (h : 0 < (flatF l).length) : 0 < l.length := by rw [flatF_len] at h; omega
theorem pos_flatF {l : List (Int × Int × Int)} (h : 0 < l.length) : 0 < (flatF l).length := by rw [flatF_len]; omega
theorem own_own_apart {w : World} {A A' : Option Addr} {t t' : TypeId} {xs ys : List Value} (h : Own w A t xs) (h' : Own w A' t' ys) (hne : t ≠ t') (hx : 0 < xs.length) (hy : 0 < ys.length) {a a' : Addr} (ha : A = some a) (ha' : A' = some a') : a.block ≠ a'.block := by
  obtain ⟨g, rest, e, hw⟩ := h' hy
  rw [e] at ha'
  cases ha'
  exact own_apart h hw hne hx ha
theorem takeF_step {l m : List (Int × Int × Int)} {k : Nat} (h1 : k < l.length) (h2 : k < m.length) (h : l.take k = m.take k) : l[k].1 = m[k].1 → l[k].2.1 = m[k].2.1 → l[k].2.2 = m[k].2.2 → l.take (k + 1) = m.take (k + 1) := fun a b c => by
  rw [List.take_succ_eq_append_getElem h1, List.take_succ_eq_append_getElem h2, h, Prod.ext a (Prod.ext b c)]
set_option maxRecDepth 100000 in
theorem eqFallS_any (A A' : Option Addr) (cap cap' : Nat) (l m : List (Int × Int × Int)) (w : World) (hn : l.length ≤ 1048576) (hm : m.length ≤ 1048576) (hr : Rd w w.heap.size A (flatF l)) (hr' : Rd w w.heap.size A' (flatF m)) :
    Calls Try.prog 36 #[.slice A l.length cap, .slice A' m.length cap'] w fun e w' => e = .returned (.bool (decide (l = m))) ∧ Below w.heap.size w w' := by
  by_cases hlm : l.length = m.length
  · have hlb : ((l.length : Int) != (m.length : Int)) = false := by simp [hlm]
    rw [← hlm] at hlb ⊢
    have HL := Lib.hid hlm
    clear hlm
    go_enter Try.func36, Try.ntmps36
    go_wp2
    go_loopw [5] (fun i wr => ∃ k : Nat, k ≤ l.length ∧ i = .int .i64 k ∧ l.take k = m.take k ∧ Below w.heap.size w wr) (fun i _ => l.length - (intOf i).toNat)
    case atStart => exact ⟨0, Nat.zero_le _, rfl, rfl, by (repeat' (first | (with_reducible exact Below.refl _ _) | (with_reducible assumption) | (with_reducible refine Below.alloc ?_ ?_ _) | (with_reducible refine Below.setCell ?_ ?_ _) | (with_reducible refine Below.drew ?_) | (with_reducible refine below_drewN ?_ _) | (with_reducible refine Below.trans ?_ (Below.mono (by assumption) ?_)) | (with_reducible exact Nat.le_refl _) | (simp; done) | omega | (simp at *; omega)))⟩
    case round =>
      obtain ⟨k, hk, rfl, heq, hb⟩ := hrel
      by_cases hlt : k < l.length
      · obtain ⟨b, o, rfl, hbl, hc⟩ := hr (by rw [flatF_len]; omega)
        obtain ⟨b', o', rfl, hbl', hc'⟩ := hr' (by have := HL.out; rw [flatF_len]; omega)
        have hltm : k < m.length := by have := HL.out; omega
        have hc0 : wr.cell? ⟨b, o + k * 3, none⟩ = some (.int .i64 l[k].1) := (hb.cell (p := ⟨b, _, none⟩) hbl).trans (hc _ _ (flatF_at2 l k hlt).1)
        have hc1 : wr.cell? ⟨b, o + k * 3 + 1, none⟩ = some (.int .i64 l[k].2.1) := (hb.cell (p := ⟨b, _, none⟩) hbl).trans (hc _ _ (flatF_at2 l k hlt).2.1)
        have hc2 : wr.cell? ⟨b, o + k * 3 + 2, none⟩ = some (.int .i64 l[k].2.2) := (hb.cell (p := ⟨b, _, none⟩) hbl).trans (hc _ _ (flatF_at2 l k hlt).2.2)
        have hd0 : wr.cell? ⟨b', o' + k * 3, none⟩ = some (.int .i64 m[k].1) := (hb.cell (p := ⟨b', _, none⟩) hbl').trans (hc' _ _ (flatF_at2 m k hltm).1)
        have hd1 : wr.cell? ⟨b', o' + k * 3 + 1, none⟩ = some (.int .i64 m[k].2.1) := (hb.cell (p := ⟨b', _, none⟩) hbl').trans (hc' _ _ (flatF_at2 m k hltm).2.1)
        have hd2 : wr.cell? ⟨b', o' + k * 3 + 2, none⟩ = some (.int .i64 m[k].2.2) := (hb.cell (p := ⟨b', _, none⟩) hbl').trans (hc' _ _ (flatF_at2 m k hltm).2.2)
        have hs : w.heap.size ≤ wr.heap.size := hb.size
        clear hr hr' hc hc'
        have HT := Lib.hid (takeF_step hlt hltm heq)
        have HN := Lib.hid (fun (h : l = m) => (show l[k].1 = m[k].1 ∧ l[k].2.1 = m[k].2.1 ∧ l[k].2.2 = m[k].2.2 by subst h; exact ⟨rfl, rfl, rfl⟩))
        clear heq
        generalize l[k].1 = x at *
        generalize l[k].2.1 = y at *
        generalize l[k].2.2 = z at *
        generalize m[k].1 = x' at *
        generalize m[k].2.1 = y' at *
        generalize m[k].2.2 = z' at *
        go_wp2_with fail
        go_still_tail 8, (by kernel_rfl)
        change wpList _ _ _ _ _ wr.drew
        have hb2 : Below w.heap.size w wr.drew := hb.drew
        have hs2 : w.heap.size ≤ wr.drew.heap.size := hs
        generalize wr.drew = w2 at *
        clear hc0 hc1 hc2 hd0 hd1 hd2 hb
        go_wp2_with fail
        by_cases hxy : x = x' ∧ y = y' ∧ z = z'
        · refine (eqFall_any _ _ _ _ _ _ _).mono ?_; rintro e w3 ⟨rfl, b3⟩
          rw [decide_eq_true hxy]
          have HX := Lib.hid hxy
          clear hxy
          go_wp2
          go_roundw
          case rel => exact ⟨k + 1, by omega, by go_num, HT.out HX.out.1 HX.out.2.1 HX.out.2.2, by (repeat' (first | (with_reducible exact Below.refl _ _) | (with_reducible assumption) | (with_reducible refine Below.alloc ?_ ?_ _) | (with_reducible refine Below.setCell ?_ ?_ _) | (with_reducible refine Below.drew ?_) | (with_reducible refine below_drewN ?_ _) | (with_reducible refine Below.trans ?_ (Below.mono (by assumption) ?_)) | (with_reducible exact Nat.le_refl _) | (simp; done) | omega | (simp at *; omega)))⟩
          case measure => simp [intOf]; omega
        · refine (eqFall_any _ _ _ _ _ _ _).mono ?_; rintro e w3 ⟨rfl, b3⟩
          rw [decide_eq_false hxy]
          have HX := Lib.hid hxy
          clear hxy
          go_wp2
          go_returns
          exact ⟨ret_bool (decide_eq_false (fun h => HX.out (HN.out h))).symm, by (repeat' (first | (with_reducible exact Below.refl _ _) | (with_reducible assumption) | (with_reducible refine Below.alloc ?_ ?_ _) | (with_reducible refine Below.setCell ?_ ?_ _) | (with_reducible refine Below.drew ?_) | (with_reducible refine below_drewN ?_ _) | (with_reducible refine Below.trans ?_ (Below.mono (by assumption) ?_)) | (with_reducible exact Nat.le_refl _) | (simp; done) | omega | (simp at *; omega)))⟩
      · obtain rfl : k = l.length := by omega
        rw [List.take_length, HL.out, List.take_length] at heq
        have HQ := Lib.hid heq
        clear heq
        go_wp2
        go_returns
        exact ⟨ret_bool (decide_eq_true HQ.out).symm, hb⟩
  · have hlb : ((l.length : Int) != (m.length : Int)) = true := by simp; omega
    go_enter Try.func36, Try.ntmps36
    go_wp2
    go_returns
    exact ⟨ret_bool (by simp; intro h; exact hlm (by rw [h])), by (repeat' (first | (with_reducible exact Below.refl _ _) | (with_reducible assumption) | (with_reducible refine Below.alloc ?_ ?_ _) | (with_reducible refine Below.setCell ?_ ?_ _) | (with_reducible refine Below.drew ?_) | (with_reducible refine below_drewN ?_ _) | (with_reducible refine Below.trans ?_ (Below.mono (by assumption) ?_)) | (with_reducible exact Nat.le_refl _) | (simp; done) | omega | (simp at *; omega)))⟩
theorem markFallS_n (A : Option Addr) (cap n : Nat) (xs : List Value) (k : Int) (w : World) (hx : xs.length = 3 * n) (hn : n ≤ 1048576) (h0 : 0 ≤ k) (h1 : k ≤ 16777216) (ho : Own w A 27 xs) :
    Calls Try.prog 37 #[.slice A n cap, .int .i64 k] w fun e w' => e = .returned (.int .i64 (k + 3 * n)) ∧ Own w' A 27 (marks k (3 * n)) ∧ Fx w w' A n := by
  rcases Nat.eq_zero_or_pos n with hz | hp
  · subst hz
    clear ho hx
    go_enter Try.func37, Try.ntmps37
    go_wp2
    go_rounds 1
    go_returns
    exact ⟨ret_int (by simp), fun h => absurd h (by rw [marks_length]; omega), same_fx⟩
  · obtain ⟨g, rest, rfl, hw⟩ := ho (by omega)
    have HX := Lib.hid hx
    clear hx
    go_enter Try.func37, Try.ntmps37
    go_wp2
    go_loopw [1, 5] (fun q i wr => ∃ j : Nat, j ≤ n ∧ i = .int .i64 j ∧ q = .int .i64 (k + 3 * j) ∧ Whole wr g 27 ((marks k (3 * j) ++ xs.drop (3 * j)) ++ rest) ∧ w.grownBy wr (some g)) (fun _ i _ => n - (intOf i).toNat)
    case atStart => exact ⟨0, Nat.zero_le _, rfl, by go_num, by simpa [marks] using hw, World.grownBy.refl w _⟩
    case round =>
      obtain ⟨j, hj, rfl, rfl, hwr, hg⟩ := hrel
      by_cases hlt : j < n
      · have hx2 : 3 * j + 2 < xs.length := by have := HX.out; omega
        obtain ⟨u, hu⟩ := marked_at k xs rest (3 * j) (by omega)
        obtain ⟨u', hu'⟩ := marked_at k xs rest (3 * j + 1) (by omega)
        obtain ⟨u2, hu2⟩ := marked_at k xs rest (3 * j + 2) hx2
        have s1 := marked_step k xs rest (3 * j) (by omega)
        have s2 := marked_step k xs rest (3 * j + 1) (by omega)
        have s3 := marked_step k xs rest (3 * j + 2) hx2
        have e0 : (k + 3 * (j : Int)) = k + ((3 * j : Nat) : Int) := by omega
        have e1 : k + 3 * (j : Int) + 1 = k + ((3 * j + 1 : Nat) : Int) := by omega
        have e2 : k + 3 * (j : Int) + 1 + 1 = k + ((3 * j + 2 : Nat) : Int) := by omega
        have ej : j * 3 = 3 * j := by omega
        have hc : wr.cell? ⟨g, j * 3, none⟩ = some u := by rw [hwr.cell, ej]; exact hu
        have hw2 := hwr.set (3 * j) (.int .i64 (k + (3 * j : Nat)))
        rw [s1] at hw2
        have hc' : (wr.setCell ⟨g, j * 3, none⟩ (.int .i64 (k + 3 * j))).cell? ⟨g, j * 3 + 1, none⟩ = some u' := by
          rw [e0, ej, hw2.cell]; exact hu'
        have hw3 := hw2.set (3 * j + 1) (.int .i64 (k + ((3 * j + 1 : Nat) : Int)))
        rw [s2] at hw3
        have hc2 : ((wr.setCell ⟨g, j * 3, none⟩ (.int .i64 (k + 3 * j))).setCell ⟨g, j * 3 + 1, none⟩ (.int .i64 (k + 3 * j + 1))).cell? ⟨g, j * 3 + 2, none⟩ = some u2 := by
          rw [e1, e0, ej, hw3.cell]; exact hu2
        have hw4 := hw3.set (3 * j + 2) (.int .i64 (k + ((3 * j + 2 : Nat) : Int)))
        rw [s3] at hw4
        have HW := Lib.hid hw4
        have hf := hwr.frozen (j * 3)
        have hf' := hwr.frozen (j * 3 + 1)
        have hf2 := hwr.frozen (j * 3 + 2)
        have HE := Lib.hid (And.intro e0 (And.intro e1 (And.intro e2 ej)))
        clear hu hu' hu2 s1 s2 s3 hw2 hw3 hw4 e0 e1 e2 ej
        go_wp2
        go_roundw
        case rel =>
          refine ⟨j + 1, by omega, by go_num, by go_num, ?_, only_setCell (only_setCell (only_setCell hg _ _) _ _) _ _⟩
          obtain ⟨e0, e1, e2, ej⟩ := HE.out
          have h := HW.out
          rw [e2, e1, e0, ej, show 3 * (j + 1) = 3 * j + 2 + 1 by omega]
          exact h
        case measure => simp [intOf]; omega
      · obtain rfl : j = n := by omega
        have HY := HX.out
        have hd : xs.drop (3 * j) = [] := List.drop_eq_nil_of_le (by omega)
        rw [hd] at hwr
        clear HY hd
        go_wp2
        go_returns
        refine ⟨rfl, fun _ => ⟨g, rest, rfl, by simpa using hwr⟩, only_fx hg hp⟩
theorem heldFallS_any (A : Option Addr) (cap n : Nat) (k : Int) (w : World) (hn : n ≤ 1048576) (h0 : 0 ≤ k) (h1 : k ≤ 16777216) (ho : Own w A 27 (marks k (3 * n))) :
    Calls Try.prog 38 #[.slice A n cap, .int .i64 k] w fun e w' => e = .returned (.int .i64 (k + 3 * n)) ∧ w = w' := by
  rcases Nat.eq_zero_or_pos n with hz | hp
  · subst hz
    clear ho
    go_enter Try.func38, Try.ntmps38
    go_wp2
    go_rounds 1
    go_returns
    refine ⟨ret_int (by simp), rfl⟩
  · obtain ⟨g, rest, rfl, hw⟩ := ho (by rw [marks_length]; omega)
    go_enter Try.func38, Try.ntmps38
    go_wp2
    go_loop [1, 5] (fun q i => ∃ j : Nat, j ≤ n ∧ i = .int .i64 j ∧ q = .int .i64 (k + 3 * j)) (fun _ i => n - (intOf i).toNat)
    case atStart => exact ⟨0, Nat.zero_le _, rfl, by go_num⟩
    case round =>
      obtain ⟨j, hj, rfl, rfl⟩ := hrel
      by_cases hlt : j < n
      · have hc : w.cell? ⟨g, j * 3, none⟩ = some (.int .i64 (k + 3 * j)) := by
          rw [hw.cell, List.getElem?_append_left (by rw [marks_length]; omega), marks_at k (3 * n) (j * 3) (by omega)]
          congr 2; omega
        have hc' : w.cell? ⟨g, j * 3 + 1, none⟩ = some (.int .i64 (k + 3 * j + 1)) := by
          rw [hw.cell, List.getElem?_append_left (by rw [marks_length]; omega), marks_at k (3 * n) (j * 3 + 1) (by omega)]
          congr 2; omega
        have hc2 : w.cell? ⟨g, j * 3 + 2, none⟩ = some (.int .i64 (k + 3 * j + 1 + 1)) := by
          rw [hw.cell, List.getElem?_append_left (by rw [marks_length]; omega), marks_at k (3 * n) (j * 3 + 2) (by omega)]
          congr 2; omega
        go_wp2
        go_round
        case rel => exact ⟨j + 1, by omega, by go_num, by go_num⟩
        case measure => simp [intOf]; omega
      · obtain rfl : j = n := by omega
        go_wp2
        go_returns
        exact ⟨rfl, rfl⟩
end Go.Proofs.Ytoflhjekldlaiaa
