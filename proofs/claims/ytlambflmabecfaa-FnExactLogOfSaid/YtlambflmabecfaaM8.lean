/- Contracts of the program and of the model, walked, part 8 of 8. No condition but what each says. -/
import Derived.Test.YtlambflmabecfaaM7
import Derived.BigQuiet
import Derived.Deep.Cut
import Derived.Deep.RegionLaw
import Derived.Deep.AppendLies
import Derived.Test.YtlambflmabecfaaM2
import Derived.Deep.RegionWith
namespace Go.Proofs.Ytlambflmabecfaa
open Go.ChangeShapes Go.WideShapes Go.ChangeAt Go.RowKit Go.Joins Go.Deep
set_option linter.unusedSimpArgs false
set_option linter.unusedVariables false
set_option maxRecDepth 100000
set_option maxHeartbeats 4000000
theorem PostS.mk {w w' : World} {r c g5 c5 k n : Nat} {p q : Int} {s : MSt} {rest5 : List Value} {v : Value} (hl : s.l.length = n) (hf : (relS s).length = k) (hg : w.heap.size ≤ g5) (X7 : Whole w' g5 104 (flat s.l ++ rest5)) (hown : w'.ownsRow w.heap.size 79 2 v k (flatR (relS s))) (B : Below w.heap.size w w') :
    PostS w r c p q s (.returned (.tuple #[.agg #[.int .i64 (r : Int), .int .i64 (c : Int), .slice (some ⟨g5, 0, none⟩) n c5, .int .i64 p, .int .i64 q, .int .i64 s.bl, .int .i64 s.rd, .int .i64 s.nx], v, .bool true])) w' := by
  subst hl hf
  exact ⟨_, _, _, rfl, fun _ => ⟨g5, rest5, rfl, X7⟩, fun a ha => by cases ha; exact hg, hown, B⟩
theorem impl_runSteps_yes (r c b o cap : Nat) (l : List (Int × Int)) (p q bl rd nx : Int) (n : Nat) (w : World) (hok : okM (r : Int) (c : Int) l p q bl rd nx = true) (hn : n ≤ 60) (hr : Rd w w.heap.size (some ⟨b, o, none⟩) (flat l)) :
    Calls Try.prog 44 #[.agg #[.int .i64 (r : Int), .int .i64 (c : Int), .slice (some ⟨b, o, none⟩) l.length cap, .int .i64 p, .int .i64 q, .int .i64 bl, .int .i64 rd, .int .i64 nx], .int .i64 (n : Int)] w (PostS w r c p q (runM (r : Int) (c : Int) p q n ⟨l, bl, rd, nx, [], []⟩)) := by
  have HO := Lib.hid hok
  obtain ⟨r', c', er, ec, hG, hgd, hp, hq⟩ := okM_ints hok
  obtain rfl : r = r' := by omega
  obtain rfl : c = c' := by omega
  obtain ⟨_, h90, hpos⟩ := goodB_parts hgd
  have hln : l.length ≤ 1048576 := by omega
  have HGe := Lib.hid hG
  have HGd := Lib.hid hgd
  have hst := MOk.start hok
  obtain ⟨S, hS⟩ : ∃ S, runM (r : Int) (c : Int) p q n ⟨l, bl, rd, nx, [], []⟩ = S := ⟨_, rfl⟩
  have hS0 : runM (r : Int) (c : Int) p q (n - 0) ⟨l, bl, rd, nx, [], []⟩ = S := hS
  rewrite [hS]
  obtain ⟨i0, hi, hz0, hz1, hz2⟩ := info_parts releaseInfo
  clear hok hS er ec hG hgd
  go_enter Try.func44, Try.ntmps44
  obtain ⟨v0, hv0, X0, X1, B0, hz0⟩ := two_boxes w [.int .i64 (r : Int), .int .i64 (c : Int), .slice (some ⟨b, o, none⟩) l.length cap, .int .i64 p, .int .i64 q, .int .i64 bl, .int .i64 rd, .int .i64 nx] 41 [.int .i64 0, .int .i64 0, .slice none 0 0, .int .i64 0, .int .i64 0, .int .i64 0, .int .i64 0, .int .i64 0] 41; have HV := Lib.hid hv0; have hz : w.heap.size + 1 < v0.heap.size := (by omega); have hy : w.heap.size < v0.heap.size := (by omega); have hb0 := B0.size; clear hv0 hz0; go_wp2_with fail; rewrite [show (w.alloc (.cells ([.int .i64 (r : Int), .int .i64 (c : Int), .slice (some ⟨b, o, none⟩) l.length cap, .int .i64 p, .int .i64 q, .int .i64 bl, .int .i64 rd, .int .i64 nx] : List Value).toArray 41)).alloc (.cells ([.int .i64 0, .int .i64 0, .slice none 0 0, .int .i64 0, .int .i64 0, .int .i64 0, .int .i64 0, .int .i64 0] : List Value).toArray 41) = v0 from HV.out]; clear HV
  have X0k0 : v0.cell? ⟨w.heap.size, 0, none⟩ = some (.int .i64 (r : Int)) := (X0.cell 0).trans rfl; have X0k1 : v0.cell? ⟨w.heap.size, 1, none⟩ = some (.int .i64 (c : Int)) := (X0.cell 1).trans rfl; have X0k2 : v0.cell? ⟨w.heap.size, 2, none⟩ = some (.slice (some ⟨b, o, none⟩) l.length cap) := (X0.cell 2).trans rfl; have X0k3 : v0.cell? ⟨w.heap.size, 3, none⟩ = some (.int .i64 p) := (X0.cell 3).trans rfl; have X0k4 : v0.cell? ⟨w.heap.size, 4, none⟩ = some (.int .i64 q) := (X0.cell 4).trans rfl; have X0k5 : v0.cell? ⟨w.heap.size, 5, none⟩ = some (.int .i64 bl) := (X0.cell 5).trans rfl
  have X0k6 : v0.cell? ⟨w.heap.size, 6, none⟩ = some (.int .i64 rd) := (X0.cell 6).trans rfl; have X0k7 : v0.cell? ⟨w.heap.size, 7, none⟩ = some (.int .i64 nx) := (X0.cell 7).trans rfl
  go_wp2_with fail
  refine (impl_IsMachine _ _ _ _ l _ _ _ _ _ _ hln ((hr.below B0).mono B0.size)).mono ?_; rintro e w1 ⟨rfl, b1⟩
  clear X0k0 X0k1 X0k2 X0k3 X0k4 X0k5 X0k6 X0k7
  rewrite [HO.out]
  replace X0 := X0.below b1 X0.lt; replace X1 := X1.below b1 X1.lt; replace B0 := B0.trans (b1.mono B0.size); have hy := X0.lt; have hz := X1.lt; have hb0 := B0.size; clear b1
  have X0k0 : w1.cell? ⟨w.heap.size, 0, none⟩ = some (.int .i64 (r : Int)) := (X0.cell 0).trans rfl; have X0k1 : w1.cell? ⟨w.heap.size, 1, none⟩ = some (.int .i64 (c : Int)) := (X0.cell 1).trans rfl; have X0k2 : w1.cell? ⟨w.heap.size, 2, none⟩ = some (.slice (some ⟨b, o, none⟩) l.length cap) := (X0.cell 2).trans rfl; have X0k3 : w1.cell? ⟨w.heap.size, 3, none⟩ = some (.int .i64 p) := (X0.cell 3).trans rfl; have X0k4 : w1.cell? ⟨w.heap.size, 4, none⟩ = some (.int .i64 q) := (X0.cell 4).trans rfl; have X0k5 : w1.cell? ⟨w.heap.size, 5, none⟩ = some (.int .i64 bl) := (X0.cell 5).trans rfl
  have X0k6 : w1.cell? ⟨w.heap.size, 6, none⟩ = some (.int .i64 rd) := (X0.cell 6).trans rfl; have X0k7 : w1.cell? ⟨w.heap.size, 7, none⟩ = some (.int .i64 nx) := (X0.cell 7).trans rfl
  go_wp2_with fail
  refine (impl_cloneMachine (r : Int) (c : Int) b o cap l p q bl rd nx _ hln ((hr.below B0).mono B0.size)).mono ?_; rintro e w2 ⟨A5, c5, rfl, o5, n5, b2⟩
  clear X0k0 X0k1 X0k2 X0k3 X0k4 X0k5 X0k6 X0k7
  have h51 : ∀ a, A5 = some a → w.heap.size + 1 < a.block := fun a ha => by have h := n5 a ha; omega
  replace X0 := X0.below b2 X0.lt; replace X1 := X1.below b2 X1.lt; replace B0 := B0.trans (b2.mono B0.size); have hy := X0.lt; have hz := X1.lt; have hb0 := B0.size; clear b2
  obtain ⟨g5, rest5, rfl, X7⟩ := o5 (by rw [flat_length]; omega)
  have h5 : w.heap.size + 1 < g5 := h51 _ rfl
  clear n5 o5 h51
  go_upto_region 4 with (fail)
  obtain ⟨v4, hv4⟩ : ∃ v4, v4 = w2.alloc (.cells #[.int .i64 (r : Int), .int .i64 (c : Int), .slice (some ⟨g5, 0, none⟩) l.length c5, .int .i64 p, .int .i64 q, .int .i64 bl, .int .i64 rd, .int .i64 nx] 41) := ⟨_, rfl⟩
  have X4 : Whole v4 w2.heap.size 41 [.int .i64 (r : Int), .int .i64 (c : Int), .slice (some ⟨g5, 0, none⟩) l.length c5, .int .i64 p, .int .i64 q, .int .i64 bl, .int .i64 rd, .int .i64 nx] := by rw [hv4]; exact newW
  have b4 : Below w2.heap.size w2 v4 := by rw [hv4]; exact (Below.refl _ _).alloc (Nat.le_refl _) _
  rewrite [← hv4]
  clear hv4
  have h4w : w.heap.size + 1 < w2.heap.size := hz
  have h54 : g5 < w2.heap.size := X7.lt
  replace X7 := X7.below b4 X7.lt
  replace X0 := X0.below b4 X0.lt; replace X1 := X1.below b4 X1.lt; replace B0 := B0.trans (b4.mono B0.size); have hy := X0.lt; have hz := X1.lt; have hb0 := B0.size; clear b4
  generalize w2.heap.size = g4 at *
  have hown : v4.ownsRow w.heap.size 79 2 (.slice none 0 0) 0 [] := World.ownsRow_nil _ _ _ _
  clear X0 hy hz HO
  go_wp2
  go_loopw [8, 18] (fun v i wr => ∃ (k : Nat) (s : MSt), i = .int .i64 k ∧ k ≤ n ∧ s.fs.length = k ∧ MOk (r : Int) (c : Int) p q l.length s ∧ runM (r : Int) (c : Int) p q (n - k) s = S ∧ wr.ownsRow w.heap.size 79 2 v k (flatR (relS s)) ∧
    Whole wr g4 41 [.int .i64 (r : Int), .int .i64 (c : Int), .slice (some ⟨g5, 0, none⟩) l.length c5, .int .i64 p, .int .i64 q, .int .i64 s.bl, .int .i64 s.rd, .int .i64 s.nx] ∧ Whole wr g5 104 (flat s.l ++ rest5) ∧ Whole wr (w.heap.size + 1) 41 [.int .i64 0, .int .i64 0, .slice none 0 0, .int .i64 0, .int .i64 0, .int .i64 0, .int .i64 0, .int .i64 0] ∧ Below w.heap.size w wr) (fun _ i _ => n - (intOf i).toNat)
  case atStart => exact ⟨0, ⟨l, bl, rd, nx, [], []⟩, rfl, Nat.zero_le _, rfl, hst, hS0, hown, X4, X7, X1, B0⟩
  case round =>
    clear hown X4 X7 X1 B0 hb0 hst hS0
    obtain ⟨k, s, rfl, hk, hfk, hmk, hS, hown, X4, X7, X1, B0⟩ := hrel
    have hs := B0.size
    have h4l := X4.lt
    have h5l := X7.lt
    have h1l := X1.lt
    have HRl := Lib.hid ((relS_len hmk.same).trans hfk)
    by_cases hlt : k < n
    · rcases Bool.eq_false_or_eq_true (canM s.bl s.rd s.nx) with hc | hc
      · obtain ⟨col, hcol, hcl⟩ : ∃ j : Nat, colM p q s.nx = (j : Int) ∧ j < c := by
          rcases colM_or p q s.nx with e | e
          · exact ⟨p.toNat, by rw [e]; omega, by omega⟩
          · exact ⟨q.toNat, by rw [e]; omega, by omega⟩
        have HM2 := Lib.hid (hmk.step hp hq hc)
        have HS2 := Lib.hid (show runM (r : Int) (c : Int) p q (n - (k + 1)) (stepM (r : Int) (c : Int) p q s) = S by
          rw [← hS, show n - k = (n - (k + 1)) + 1 by omega, runM_go hc])
        have HR2 := Lib.hid (relS_step (r : Int) (c : Int) p q hmk.same)
        have hlk := hmk.len
        have HQ := impl_releaseNext_yes r c g4 g5 c5 s.l rest5 p q s.bl s.rd s.nx col wr (by rw [hlk]; exact HGe.out) hmk.good hc hmk.bl1 hmk.rd1 hcol hcl (by omega) (by rw [hlk]; exact X4) X7
        unfold PostR at HQ
        rw [hlk] at HQ
        have HF2 := Lib.hid (show (stepM (r : Int) (c : Int) p q s).fs.length = k + 1 by show (s.fs ++ [_]).length = _; rw [List.length_append, hfk]; rfl)
        obtain ⟨s2, hs2⟩ : ∃ s2, stepM (r : Int) (c : Int) p q s = s2 := ⟨_, rfl⟩
        have e1 : s2.l = (marO (r : Int) (c : Int) s.l (colM p q s.nx)).cells := by rw [← hs2]; rfl
        have e2 : s2.bl = if s.nx = 0 then s.bl - 1 else s.bl := by rw [← hs2]; rfl
        have e3 : s2.rd = if s.nx = 0 then s.rd else s.rd - 1 := by rw [← hs2]; rfl
        have e4 : s2.nx = nextM (c : Int) (marO (r : Int) (c : Int) s.l (colM p q s.nx)) := by rw [← hs2]; rfl
        rw [← e1, ← e2, ← e3, ← e4] at HQ
        rw [hs2] at HM2 HS2 HR2 HF2
        clear e1 e2 e3 e4 hs2 hlk hcol hcl hc hS hmk hfk
        generalize ((marO (r : Int) (c : Int) s.l (colM p q s.nx)).e, (marO (r : Int) (c : Int) s.l (colM p q s.nx)).row, (marO (r : Int) (c : Int) s.l (colM p q s.nx)).col) = f at *
        obtain ⟨T, ev, hE⟩ := endV_iface f
        have HE := Lib.hid hE
        rw [hE] at HQ
        clear hE
        generalize hx : s.nx = x at *
        go_wp2_with fail
        refine HQ.mono ?_; rintro e w5 ⟨rfl, X4', X7', gr⟩
        clear HQ
        have ha4 := row_apart hown X4 (by decide)
        have ha5 := row_apart hown X7 (by decide)
        replace hown := gr.row hown (fun e => ha4 e.symm) (fun e => ha5 e.symm)
        replace X1 := gr.whole X1 (by omega) (by omega)
        replace B0 := B0.trans (gr.toBelow hs (by omega) (by omega))
        replace hs := B0.size
        clear X4 X7 ha4 ha5 gr
        have hownY := ((hown.alloc (.cells #[.int .i64 x, .iface T ev] 79)).alloc (.cells #[.int .i64 x, .iface T ev] 79))
        go_upto_region 10 with (first | (at_builtin; go_loud (refine wpList_append_own _ rfl (.tmp 26) (.tmp 28) 73 rfl w.heap.size 79 i0 _ 2 24 Try.underlying73 hi hz0 hz1 hz2 rfl (by omega) u8 k _ rfl ((hown.alloc _).alloc _) ⟨w5.heap.size + 1, 0, none⟩ 1 1 [.int .i64 x, .iface T ev] rfl rfl two_cellsR two_oneR (by unfold maxLen; omega) (by omega) (by rw [World.size_alloc, World.size_alloc]; omega) ?_; intro v7 w7 hown7 hg7 _)) | fail)
        have X47 := ((X4'.alloc _).alloc _).grown hg7 (row_apart hownY ((X4'.alloc _).alloc _) (by decide))
        have X77 := ((X7'.alloc _).alloc _).grown hg7 (row_apart hownY ((X7'.alloc _).alloc _) (by decide))
        have X17 := ((X1.alloc _).alloc _).grown hg7 (row_apart hownY ((X1.alloc _).alloc _) (by decide))
        have B7 := row_below hownY ((B0.alloc (by omega) _).alloc (by rw [World.size_alloc]; omega) _) (by rw [World.size_alloc, World.size_alloc]; omega) hg7
        clear X1 X4' X7' hownY
        go_wp2
        refine ⟨⟨k + 1, s2, by go_num, by omega, HF2.out, HM2.out, HS2.out, ?_, X47, X77, X17, B7⟩, by simp [intOf]; omega⟩
        rw [HR2.out, flatR_app]
        have ef : flatR [(x, f)] = [.int .i64 x, .iface T ev] := by
          show [_, endV f] = _
          rw [HE.out]
        rw [ef]
        exact hown7
      · have HSs := Lib.hid ((runM_stop hc).symm.trans hS)
        have HQ := impl_releaseNext_no (r : Int) (c : Int) (some ⟨g5, 0, none⟩) l.length c5 g4 p q s.bl s.rd s.nx wr hc X4
        clear hS hc
        go_wp2_with fail
        refine HQ.mono ?_; rintro e w5 ⟨rfl, b5⟩
        clear HQ
        replace X4 := X4.below b5 X4.lt
        replace X7 := X7.below b5 X7.lt
        replace X1 := X1.below b5 X1.lt
        replace hown := row_keep hown b5
        replace B0 := B0.trans (b5.mono hs)
        clear b5 hs h4l h5l h1l
        go_upto_region 8 with (fail)
        have ba : Below w5.heap.size w5 (w5.alloc (.cells #[.int .i64 0, .nilIface] 79)) := (Below.refl _ _).alloc (Nat.le_refl _) _
        replace X4 := X4.below ba X4.lt
        replace X7 := X7.below ba X7.lt
        replace X1 := X1.below ba X1.lt
        replace hown := row_keep hown ba
        replace B0 := B0.trans (ba.mono B0.size)
        clear ba
        generalize w5.alloc (.cells #[.int .i64 0, .nilIface] 79) = w6 at *
        have HLk := Lib.hid hmk.len
        clear hmk hfk
        have h4l := X4.lt
        have h1l := X1.lt
        have hne := row_apart hown X1 (by decide)
        have h15 : w.heap.size + 1 ≠ g5 := by omega
        have h5g : w.heap.size ≤ g5 := by omega
        obtain ⟨sl, sb, sr, sx, scs, sfs⟩ := s
        have X4k0 : w6.cell? ⟨g4, 0, none⟩ = some (.int .i64 (r : Int)) := (X4.cell 0).trans rfl; have X4k1 : w6.cell? ⟨g4, 1, none⟩ = some (.int .i64 (c : Int)) := (X4.cell 1).trans rfl; have X4k2 : w6.cell? ⟨g4, 2, none⟩ = some (.slice (some ⟨g5, 0, none⟩) l.length c5) := (X4.cell 2).trans rfl; have X4k3 : w6.cell? ⟨g4, 3, none⟩ = some (.int .i64 p) := (X4.cell 3).trans rfl; have X4k4 : w6.cell? ⟨g4, 4, none⟩ = some (.int .i64 q) := (X4.cell 4).trans rfl; have X4k5 : w6.cell? ⟨g4, 5, none⟩ = some (.int .i64 sb) := (X4.cell 5).trans rfl
        have X4k6 : w6.cell? ⟨g4, 6, none⟩ = some (.int .i64 sr) := (X4.cell 6).trans rfl; have X4k7 : w6.cell? ⟨g4, 7, none⟩ = some (.int .i64 sx) := (X4.cell 7).trans rfl
        have X1k0 : w6.cell? ⟨w.heap.size + 1, 0, none⟩ = some (.int .i64 0) := (X1.cell 0).trans rfl; have X1k1 : w6.cell? ⟨w.heap.size + 1, 1, none⟩ = some (.int .i64 0) := (X1.cell 1).trans rfl; have X1k2 : w6.cell? ⟨w.heap.size + 1, 2, none⟩ = some (.slice none 0 0) := (X1.cell 2).trans rfl; have X1k3 : w6.cell? ⟨w.heap.size + 1, 3, none⟩ = some (.int .i64 0) := (X1.cell 3).trans rfl; have X1k4 : w6.cell? ⟨w.heap.size + 1, 4, none⟩ = some (.int .i64 0) := (X1.cell 4).trans rfl; have X1k5 : w6.cell? ⟨w.heap.size + 1, 5, none⟩ = some (.int .i64 0) := (X1.cell 5).trans rfl
        have X1k6 : w6.cell? ⟨w.heap.size + 1, 6, none⟩ = some (.int .i64 0) := (X1.cell 6).trans rfl; have X1k7 : w6.cell? ⟨w.heap.size + 1, 7, none⟩ = some (.int .i64 0) := (X1.cell 7).trans rfl
        have X1f0 := X1.frozen 0; have X1f1 := X1.frozen 1; have X1f2 := X1.frozen 2; have X1f3 := X1.frozen 3; have X1f4 := X1.frozen 4; have X1f5 := X1.frozen 5; have X1f6 := X1.frozen 6; have X1f7 := X1.frozen 7
        go_wp2
        rewrite [mset_fold]; obtain ⟨v4, hv4⟩ : ∃ v4, v4 = mset w6 (w.heap.size + 1) (.int .i64 (r : Int)) (.int .i64 (c : Int)) (.slice (some ⟨g5, 0, none⟩) l.length c5) (.int .i64 p) (.int .i64 q) (.int .i64 sb) (.int .i64 sr) (.int .i64 sx) := ⟨_, rfl⟩; have Z1 : Whole v4 (w.heap.size + 1) 41 [.int .i64 (r : Int), .int .i64 (c : Int), .slice (some ⟨g5, 0, none⟩) l.length c5, .int .i64 p, .int .i64 q, .int .i64 sb, .int .i64 sr, .int .i64 sx] := (by rw [hv4]; exact Whole.mset X1 _ _ _ _ _ _ _ _)
        replace X7 : Whole v4 g5 104 (flat sl ++ rest5) := by rw [hv4]; exact X7.mset_far h15
        replace hown : v4.ownsRow w.heap.size 79 2 u8 k (flatR (relS ⟨sl, sb, sr, sx, scs, sfs⟩)) := by rw [hv4]; exact row_mset hown hne
        replace B0 : Below w.heap.size w v4 := by rw [hv4]; exact below_mset B0 (by omega)
        clear X4k0 X4k1 X4k2 X4k3 X4k4 X4k5 X4k6 X4k7
        clear X1k0 X1k1 X1k2 X1k3 X1k4 X1k5 X1k6 X1k7
        clear X1f0 X1f1 X1f2 X1f3 X1f4 X1f5 X1f6 X1f7
        rewrite [← hv4]
        clear hv4 X1 X4 hne
        have Z1k0 : v4.cell? ⟨w.heap.size + 1, 0, none⟩ = some (.int .i64 (r : Int)) := (Z1.cell 0).trans rfl; have Z1k1 : v4.cell? ⟨w.heap.size + 1, 1, none⟩ = some (.int .i64 (c : Int)) := (Z1.cell 1).trans rfl; have Z1k2 : v4.cell? ⟨w.heap.size + 1, 2, none⟩ = some (.slice (some ⟨g5, 0, none⟩) l.length c5) := (Z1.cell 2).trans rfl; have Z1k3 : v4.cell? ⟨w.heap.size + 1, 3, none⟩ = some (.int .i64 p) := (Z1.cell 3).trans rfl; have Z1k4 : v4.cell? ⟨w.heap.size + 1, 4, none⟩ = some (.int .i64 q) := (Z1.cell 4).trans rfl; have Z1k5 : v4.cell? ⟨w.heap.size + 1, 5, none⟩ = some (.int .i64 sb) := (Z1.cell 5).trans rfl; have Z1k6 : v4.cell? ⟨w.heap.size + 1, 6, none⟩ = some (.int .i64 sr) := (Z1.cell 6).trans rfl; have Z1k7 : v4.cell? ⟨w.heap.size + 1, 7, none⟩ = some (.int .i64 sx) := (Z1.cell 7).trans rfl
        refine bodyPost_ret (v := .tuple #[.agg #[.int .i64 (r : Int), .int .i64 (c : Int), .slice (some ⟨g5, 0, none⟩) l.length c5, .int .i64 p, .int .i64 q, .int .i64 sb, .int .i64 sr, .int .i64 sx], u8, .bool true]) ?_ rfl ?_; (focus (simp [results, Try.results44, go_sem, *]; done))
        rewrite [← HSs.out]
        exact PostS.mk (s := ⟨sl, sb, sr, sx, scs, sfs⟩) HLk.out HRl.out h5g X7 hown B0
    · have HSs := Lib.hid (show s = S by rw [← hS, show n - k = 0 by omega]; rfl)
      clear hS hs h4l h5l h1l
      generalize wr = w6 at *
      have HLk := Lib.hid hmk.len
      clear hmk hfk
      have h4l := X4.lt
      have h1l := X1.lt
      have hne := row_apart hown X1 (by decide)
      have h15 : w.heap.size + 1 ≠ g5 := by omega
      have h5g : w.heap.size ≤ g5 := by omega
      obtain ⟨sl, sb, sr, sx, scs, sfs⟩ := s
      have X4k0 : w6.cell? ⟨g4, 0, none⟩ = some (.int .i64 (r : Int)) := (X4.cell 0).trans rfl; have X4k1 : w6.cell? ⟨g4, 1, none⟩ = some (.int .i64 (c : Int)) := (X4.cell 1).trans rfl; have X4k2 : w6.cell? ⟨g4, 2, none⟩ = some (.slice (some ⟨g5, 0, none⟩) l.length c5) := (X4.cell 2).trans rfl; have X4k3 : w6.cell? ⟨g4, 3, none⟩ = some (.int .i64 p) := (X4.cell 3).trans rfl; have X4k4 : w6.cell? ⟨g4, 4, none⟩ = some (.int .i64 q) := (X4.cell 4).trans rfl; have X4k5 : w6.cell? ⟨g4, 5, none⟩ = some (.int .i64 sb) := (X4.cell 5).trans rfl
      have X4k6 : w6.cell? ⟨g4, 6, none⟩ = some (.int .i64 sr) := (X4.cell 6).trans rfl; have X4k7 : w6.cell? ⟨g4, 7, none⟩ = some (.int .i64 sx) := (X4.cell 7).trans rfl
      have X1k0 : w6.cell? ⟨w.heap.size + 1, 0, none⟩ = some (.int .i64 0) := (X1.cell 0).trans rfl; have X1k1 : w6.cell? ⟨w.heap.size + 1, 1, none⟩ = some (.int .i64 0) := (X1.cell 1).trans rfl; have X1k2 : w6.cell? ⟨w.heap.size + 1, 2, none⟩ = some (.slice none 0 0) := (X1.cell 2).trans rfl; have X1k3 : w6.cell? ⟨w.heap.size + 1, 3, none⟩ = some (.int .i64 0) := (X1.cell 3).trans rfl; have X1k4 : w6.cell? ⟨w.heap.size + 1, 4, none⟩ = some (.int .i64 0) := (X1.cell 4).trans rfl; have X1k5 : w6.cell? ⟨w.heap.size + 1, 5, none⟩ = some (.int .i64 0) := (X1.cell 5).trans rfl
      have X1k6 : w6.cell? ⟨w.heap.size + 1, 6, none⟩ = some (.int .i64 0) := (X1.cell 6).trans rfl; have X1k7 : w6.cell? ⟨w.heap.size + 1, 7, none⟩ = some (.int .i64 0) := (X1.cell 7).trans rfl
      have X1f0 := X1.frozen 0; have X1f1 := X1.frozen 1; have X1f2 := X1.frozen 2; have X1f3 := X1.frozen 3; have X1f4 := X1.frozen 4; have X1f5 := X1.frozen 5; have X1f6 := X1.frozen 6; have X1f7 := X1.frozen 7
      go_wp2
      rewrite [mset_fold]; obtain ⟨v4, hv4⟩ : ∃ v4, v4 = mset w6 (w.heap.size + 1) (.int .i64 (r : Int)) (.int .i64 (c : Int)) (.slice (some ⟨g5, 0, none⟩) l.length c5) (.int .i64 p) (.int .i64 q) (.int .i64 sb) (.int .i64 sr) (.int .i64 sx) := ⟨_, rfl⟩; have Z1 : Whole v4 (w.heap.size + 1) 41 [.int .i64 (r : Int), .int .i64 (c : Int), .slice (some ⟨g5, 0, none⟩) l.length c5, .int .i64 p, .int .i64 q, .int .i64 sb, .int .i64 sr, .int .i64 sx] := (by rw [hv4]; exact Whole.mset X1 _ _ _ _ _ _ _ _)
      replace X7 : Whole v4 g5 104 (flat sl ++ rest5) := by rw [hv4]; exact X7.mset_far h15
      replace hown : v4.ownsRow w.heap.size 79 2 u8 k (flatR (relS ⟨sl, sb, sr, sx, scs, sfs⟩)) := by rw [hv4]; exact row_mset hown hne
      replace B0 : Below w.heap.size w v4 := by rw [hv4]; exact below_mset B0 (by omega)
      clear X4k0 X4k1 X4k2 X4k3 X4k4 X4k5 X4k6 X4k7
      clear X1k0 X1k1 X1k2 X1k3 X1k4 X1k5 X1k6 X1k7
      clear X1f0 X1f1 X1f2 X1f3 X1f4 X1f5 X1f6 X1f7
      rewrite [← hv4]
      clear hv4 X1 X4 hne
      have Z1k0 : v4.cell? ⟨w.heap.size + 1, 0, none⟩ = some (.int .i64 (r : Int)) := (Z1.cell 0).trans rfl; have Z1k1 : v4.cell? ⟨w.heap.size + 1, 1, none⟩ = some (.int .i64 (c : Int)) := (Z1.cell 1).trans rfl; have Z1k2 : v4.cell? ⟨w.heap.size + 1, 2, none⟩ = some (.slice (some ⟨g5, 0, none⟩) l.length c5) := (Z1.cell 2).trans rfl; have Z1k3 : v4.cell? ⟨w.heap.size + 1, 3, none⟩ = some (.int .i64 p) := (Z1.cell 3).trans rfl; have Z1k4 : v4.cell? ⟨w.heap.size + 1, 4, none⟩ = some (.int .i64 q) := (Z1.cell 4).trans rfl; have Z1k5 : v4.cell? ⟨w.heap.size + 1, 5, none⟩ = some (.int .i64 sb) := (Z1.cell 5).trans rfl; have Z1k6 : v4.cell? ⟨w.heap.size + 1, 6, none⟩ = some (.int .i64 sr) := (Z1.cell 6).trans rfl; have Z1k7 : v4.cell? ⟨w.heap.size + 1, 7, none⟩ = some (.int .i64 sx) := (Z1.cell 7).trans rfl
      refine bodyPost_ret (v := .tuple #[.agg #[.int .i64 (r : Int), .int .i64 (c : Int), .slice (some ⟨g5, 0, none⟩) l.length c5, .int .i64 p, .int .i64 q, .int .i64 sb, .int .i64 sr, .int .i64 sx], u8, .bool true]) ?_ rfl ?_; (focus (simp [results, Try.results44, go_sem, *]; done))
      rewrite [← HSs.out]
      exact PostS.mk (s := ⟨sl, sb, sr, sx, scs, sfs⟩) HLk.out HRl.out h5g X7 hown B0
end Go.Proofs.Ytlambflmabecfaa
namespace Go.Proofs.Ytlambflmabecfaa
open Go.ChangeShapes Go.WideShapes Go.ChangeAt Go.RowKit Go.Joins Go.Deep
set_option linter.unusedSimpArgs false
set_option linter.unusedVariables false
set_option maxRecDepth 100000
set_option maxHeartbeats 4000000
def noM : MSt := ⟨[], 0, 0, 0, [], []⟩
def okR (R C : Int) (l : List (Int × Int)) (p q bl rd nx n : Int) : Bool := okM R C l p q bl rd nx && inM 0 60 n
def runO (R C : Int) (l : List (Int × Int)) (p q bl rd nx n : Int) : MSt := if okR R C l p q bl rd nx n then runM R C p q n.toNat ⟨l, bl, rd, nx, [], []⟩ else noM
/-- A machine of the call's own, a number, and whether it succeeds. -/
def PostAI (w : World) (R C : Int) (p q : Int) (s : MSt) (k : Int) (ok : Bool) (e : Ending) (w' : World) : Prop :=
  ∃ A' cap', e = .returned (.tuple #[.agg #[.int .i64 R, .int .i64 C, .slice A' s.l.length cap', .int .i64 p, .int .i64 q, .int .i64 s.bl, .int .i64 s.rd, .int .i64 s.nx], .int .i64 k, .bool ok]) ∧ Own w' A' 104 (flat s.l) ∧ New w A' ∧ Below w.heap.size w w'
theorem PostAI.none_ {w w' : World} (b : Below w.heap.size w w') : PostAI w 0 0 0 0 noM 0 false (.returned (.tuple #[(.agg #[.int .i64 0, .int .i64 0, .slice none 0 0, .int .i64 0, .int .i64 0, .int .i64 0, .int .i64 0, .int .i64 0]), .int .i64 0, .bool false])) w' :=
  ⟨none, 0, rfl, Own.none_, New.none_, b⟩
theorem own_slice {w : World} {base : Nat} {e : TypeId} {size n : Nat} {v : Value} {xs : List Value} (h : w.ownsRow base e size v n xs) : ∃ A cap, v = .slice A n cap ∧ Own w A e xs ∧ ∀ a, A = some a → base ≤ a.block := by
  obtain ⟨A, cap, rfl⟩ := slice_of_row h
  exact ⟨A, cap, rfl, own_of_row h⟩
theorem runO_len (R C : Int) (l : List (Int × Int)) (p q bl rd nx n : Int) (hn : l.length ≤ 1048576) : (runO R C l p q bl rd nx n).l.length ≤ 1048576 := by
  unfold runO
  split
  · next h =>
    have h1 : okM R C l p q bl rd nx = true := (Bool.and_eq_true _ _ ▸ h : _ ∧ _).1
    obtain ⟨r, c, rfl, rfl, hG, hg, hp, hq⟩ := okM_ints h1
    rw [(MOk.run hp hq _ _ (MOk.start h1)).len]
    exact hn
  · exact Nat.zero_le _
end Go.Proofs.Ytlambflmabecfaa
namespace Go.Proofs.Ytlambflmabecfaa
open Go.ChangeShapes Go.WideShapes Go.ChangeAt Go.RowKit Go.Joins Go.Deep
set_option linter.unusedSimpArgs false
set_option linter.unusedVariables false
set_option maxRecDepth 100000
set_option maxHeartbeats 4000000
theorem okR_60 (R C : Int) (l : List (Int × Int)) (p q bl rd nx : Int) : okR R C l p q bl rd nx 60 = okM R C l p q bl rd nx := by
  unfold okR
  rw [show inM 0 60 60 = true from by decide, Bool.and_true]
/-- The state in which the whole run ends. -/
def finO (R C : Int) (l : List (Int × Int)) (p q bl rd nx : Int) : MSt := if okM R C l p q bl rd nx then runM R C p q 60 ⟨l, bl, rd, nx, [], []⟩ else noM
theorem runO_60 (R C : Int) (l : List (Int × Int)) (p q bl rd nx : Int) : runO R C l p q bl rd nx 60 = finO R C l p q bl rd nx := by
  unfold runO finO
  rw [okR_60]
  rfl
def endO (s : MSt) : Int := if s.nx = 2 then 1 else 0
end Go.Proofs.Ytlambflmabecfaa
namespace Go.Proofs.Ytlambflmabecfaa
open Go.ChangeShapes Go.WideShapes Go.ChangeAt Go.RowKit Go.Joins Go.Deep
set_option linter.unusedSimpArgs false
set_option linter.unusedVariables false
set_option maxRecDepth 100000
set_option maxHeartbeats 4000000
theorem one_cellI2 {w : World} {o : Obj} {x : Value} {t : TypeId} : ∀ j u, [x][j]? = some u → ((w.alloc o).alloc (.cells #[x] t)).cell? ((⟨w.heap.size + 1, 0, none⟩ : Addr).add j) = some u := by
  intro j u h
  have hn := heap_alloc_new (w.alloc o) (.cells #[x] t)
  rw [World.size_alloc] at hn
  have hw : Whole ((w.alloc o).alloc (.cells #[x] t)) (w.heap.size + 1) t [x] := hn
  have hj := hw.cell j
  rw [h] at hj
  rw [← hj]
  by_cases h0 : j = 0
  · subst h0; simp [Addr.add]
  · simp [Addr.add, h0]
theorem finO_few (R C : Int) (l : List (Int × Int)) (p q bl rd nx : Int) : (finO R C l p q bl rd nx).fs.length ≤ 60 ∧ (finO R C l p q bl rd nx).cs.length = (finO R C l p q bl rd nx).fs.length := by
  unfold finO
  split
  · next h1 =>
    obtain ⟨r, c, rfl, rfl, hG, hg, hp, hq⟩ := okM_ints h1
    have hm := MOk.run hp hq 60 _ (MOk.start h1)
    have := hm.few
    exact ⟨by omega, hm.same⟩
  · exact ⟨Nat.zero_le _, rfl⟩
theorem PostL.of_row {w w' : World} {l : List Int} {ok : Bool} {v : Value} {n : Nat} (hn : l.length = n) (h : w'.ownsRow w.heap.size 3 1 v n (ints l)) (b : Below w.heap.size w w') : PostL w l ok (.returned (.tuple #[v, .bool ok])) w' := by
  subst hn
  obtain ⟨A, cap, rfl, O, N⟩ := own_slice h
  exact PostL.mk O N b
end Go.Proofs.Ytlambflmabecfaa
namespace Go.Proofs.Ytlambflmabecfaa
open Go.ChangeShapes Go.WideShapes Go.ChangeAt Go.RowKit Go.Joins Go.Deep
set_option linter.unusedSimpArgs false
set_option linter.unusedVariables false
set_option maxRecDepth 100000
set_option maxHeartbeats 4000000
theorem logInfoF : (Try.prog.info? 61).map (fun i => (i.zero, i.size, i.bytes)) = some (some (.agg #[.int .i64 0, .int .i64 0, .int .i64 0, .int .i64 0]), 4, 32) := by kernel_rfl
theorem relS_few (R C : Int) (l : List (Int × Int)) (p q bl rd nx : Int) : (relS (finO R C l p q bl rd nx)).length ≤ 60 := by
  have h := finO_few R C l p q bl rd nx
  rw [relS_len h.2]
  exact h.1
theorem four_cellsL {w : World} {x y z u : Value} {t : TypeId} : ∀ j v, [x, y, z, u][j]? = some v → (w.alloc (.cells #[x, y, z, u] t)).cell? ((⟨w.heap.size, 0, none⟩ : Addr).add j) = some v := by
  intro j v h
  rw [add_plain, Nat.zero_add]
  have hw : (w.alloc (.cells #[x, y, z, u] t)).heap[w.heap.size]? = some (.cells #[x, y, z, u] t (0, 0)) := heap_alloc_new w _
  rw [cell_of_row _ _ _ _ _ _ hw]
  simpa using h
theorem four_oneL {a b c d : Int} : ∀ u ∈ [Value.int .i64 a, Value.int .i64 b, Value.int .i64 c, Value.int .i64 d], u.oneCell' = true := by
  intro u hu
  simp only [List.mem_cons, List.not_mem_nil, or_false] at hu
  rcases hu with rfl | rfl | rfl | rfl <;> rfl
theorem zip_take_succ {cs : List Int} {fs : List (Int × Int × Int)} {k : Nat} (h1 : k < cs.length) (h2 : k < fs.length) : flatL ((cs.zip fs).take (k + 1)) = flatL ((cs.zip fs).take k) ++ [.int .i64 cs[k], .int .i64 fs[k].1, .int .i64 fs[k].2.1, .int .i64 fs[k].2.2] := by
  have h : k < (cs.zip fs).length := by rw [List.length_zip]; omega
  rw [List.take_succ_eq_append_getElem h, flatL_app, List.getElem_zip]
  rfl
theorem zip_take_all {cs : List Int} {fs : List (Int × Int × Int)} (h : cs.length = fs.length) : (cs.zip fs).take fs.length = cs.zip fs :=
  List.take_of_length_le (by rw [List.length_zip]; omega)
theorem flatF_atM (l : List (Int × Int × Int)) (k : Nat) (h : k < l.length) : (flatF l)[k * 3]? = some (.int .i64 l[k].1) ∧ (flatF l)[k * 3 + 1]? = some (.int .i64 l[k].2.1) ∧ (flatF l)[k * 3 + 2]? = some (.int .i64 l[k].2.2) := by
  induction l generalizing k with
  | nil => simp at h
  | cons c l ih =>
    cases k with
    | zero => exact ⟨rfl, rfl, rfl⟩
    | succ k =>
      have := ih k (by simpa using h)
      have e1 : (flatF (c :: l))[(k + 1) * 3]? = (flatF l)[k * 3]? := by rw [show (k + 1) * 3 = k * 3 + 1 + 1 + 1 by omega]; rfl
      have e2 : (flatF (c :: l))[(k + 1) * 3 + 1]? = (flatF l)[k * 3 + 1]? := by rw [show (k + 1) * 3 + 1 = k * 3 + 1 + 1 + 1 + 1 by omega]; rfl
      have e3 : (flatF (c :: l))[(k + 1) * 3 + 2]? = (flatF l)[k * 3 + 2]? := by rw [show (k + 1) * 3 + 2 = k * 3 + 2 + 1 + 1 + 1 by omega]; rfl
      rw [e1, e2, e3]
      exact this
/-- A log of the call's own, and a machine. -/
def PostLO (w : World) (r c : Nat) (p q : Int) (s : MSt) (e : Ending) (w' : World) : Prop :=
  ∃ v A5 c5, e = .returned (.tuple #[v, .agg #[.int .i64 (r : Int), .int .i64 (c : Int), .slice A5 s.l.length c5, .int .i64 p, .int .i64 q, .int .i64 s.bl, .int .i64 s.rd, .int .i64 s.nx]]) ∧
    w'.ownsRow w.heap.size 61 4 v s.fs.length (flatL (relS s)) ∧ Own w' A5 104 (flat s.l) ∧ New w A5 ∧ Below w.heap.size w w'
theorem PostLO.mk {w w' : World} {r c c5 : Nat} {p q bl rd nx : Int} {l : List (Int × Int)} {cs : List Int} {fs : List (Int × Int × Int)} {v : Value} {A5 : Option Addr} (h : w'.ownsRow w.heap.size 61 4 v fs.length (flatL (cs.zip fs))) (O5 : Own w' A5 104 (flat l)) (N5 : New w A5) (b : Below w.heap.size w w') :
    PostLO w r c p q ⟨l, bl, rd, nx, cs, fs⟩ (.returned (.tuple #[v, .agg #[.int .i64 (r : Int), .int .i64 (c : Int), .slice A5 l.length c5, .int .i64 p, .int .i64 q, .int .i64 bl, .int .i64 rd, .int .i64 nx]])) w' :=
  ⟨v, A5, c5, rfl, h, O5, N5, b⟩
theorem spec_loOf (r c b o cap : Nat) (l : List (Int × Int)) (p q bl rd nx : Int) (n : Nat) (w : World) (hok : okM (r : Int) (c : Int) l p q bl rd nx = true) (hn : n ≤ 60) (hr : Rd w w.heap.size (some ⟨b, o, none⟩) (flat l)) :
    Calls Try.prog 42 #[.agg #[.int .i64 (r : Int), .int .i64 (c : Int), .slice (some ⟨b, o, none⟩) l.length cap, .int .i64 p, .int .i64 q, .int .i64 bl, .int .i64 rd, .int .i64 nx], .int .i64 (n : Int)] w (PostLO w r c p q (runM (r : Int) (c : Int) p q n ⟨l, bl, rd, nx, [], []⟩)) := by
  obtain ⟨r', c', er, ec, hG, hgd, hp, hq⟩ := okM_ints hok
  obtain rfl : r = r' := by omega
  obtain rfl : c = c' := by omega
  have hmk := MOk.run hp hq n _ (MOk.start hok)
  have HG := Lib.hid (fun w' h => spec_maRun r c b o cap l p q bl rd nx n w' hok hn h)
  obtain ⟨i0, hi, hz0, hz1, hz2⟩ := info_parts logInfoF
  generalize runM (r : Int) (c : Int) p q n ⟨l, bl, rd, nx, [], []⟩ = s at *
  have hsm := hmk.same
  have hfew := hmk.few
  clear hok er ec hG hgd hp hq hmk
  go_enter Try.func42, Try.ntmps42
  obtain ⟨v0, hv0, X0, X1, B0, hz0⟩ := two_boxes w [.int .i64 (r : Int), .int .i64 (c : Int), .slice (some ⟨b, o, none⟩) l.length cap, .int .i64 p, .int .i64 q, .int .i64 bl, .int .i64 rd, .int .i64 nx] 41 [.int .i64 0, .int .i64 0, .slice none 0 0, .int .i64 0, .int .i64 0, .int .i64 0, .int .i64 0, .int .i64 0] 41; have HV := Lib.hid hv0; have hz : w.heap.size + 1 < v0.heap.size := (by omega); have hy : w.heap.size < v0.heap.size := (by omega); have hb0 := B0.size; clear hv0 hz0; go_wp2_with fail; rewrite [show (w.alloc (.cells ([.int .i64 (r : Int), .int .i64 (c : Int), .slice (some ⟨b, o, none⟩) l.length cap, .int .i64 p, .int .i64 q, .int .i64 bl, .int .i64 rd, .int .i64 nx] : List Value).toArray 41)).alloc (.cells ([.int .i64 0, .int .i64 0, .slice none 0 0, .int .i64 0, .int .i64 0, .int .i64 0, .int .i64 0, .int .i64 0] : List Value).toArray 41) = v0 from HV.out]; clear HV
  refine (HG.out _ ((hr.below B0).mono B0.size)).mono ?_; rintro e w3 hP
  obtain ⟨A5, c5, v2, v3, rfl, O5, N5, h2, h3, b3⟩ := hP
  clear HG
  have N5w : New w A5 := fun a ha => Nat.le_trans B0.size (N5 a ha)
  obtain ⟨A2, c2, rfl, O2, N2⟩ := own_slice h2
  obtain ⟨A3, c3, rfl, O3, N3⟩ := own_slice h3
  replace X0 := X0.below b3 X0.lt; replace X1 := X1.below b3 X1.lt; replace B0 := B0.trans (b3.mono B0.size); have hy := X0.lt; have hz := X1.lt; have hb0 := B0.size; clear b3
  clear h2 h3 N5 X0 N2 N3
  obtain ⟨sl, sb, sr, sx, scs, sfs⟩ := s
  dsimp only at hsm hfew O2 O3 O5
  have hf60 : sfs.length ≤ 60 := by omega
  clear hfew
  go_upto_region 2 with (fail)
  obtain ⟨v6, hv6⟩ : ∃ v6, v6 = w3.alloc (.cells #[.int .i64 (r : Int), .int .i64 (c : Int), .slice A5 sl.length c5, .int .i64 p, .int .i64 q, .int .i64 sb, .int .i64 sr, .int .i64 sx] 41) := ⟨_, rfl⟩
  have Xm : Whole v6 w3.heap.size 41 [.int .i64 (r : Int), .int .i64 (c : Int), .slice A5 sl.length c5, .int .i64 p, .int .i64 q, .int .i64 sb, .int .i64 sr, .int .i64 sx] := by rw [hv6]; exact newW
  have b6 : Below w3.heap.size w3 v6 := by rw [hv6]; exact (Below.refl _ _).alloc (Nat.le_refl _) _
  rewrite [← hv6]
  clear hv6
  replace X1 := X1.below b6 X1.lt
  replace O5 := O5.keep b6
  replace O2 := O2.keep b6
  replace O3 := O3.keep b6
  replace B0 := B0.trans (b6.mono B0.size)
  generalize hgm : w3.heap.size = gm at *
  have hgw : w.heap.size + 1 ≠ gm := by omega
  clear b6 hy hz hb0 hgm
  have hown : v6.ownsRow w.heap.size 61 4 (.slice none 0 0) 0 [] := World.ownsRow_nil _ _ _ _
  go_wp2
  go_loopw [9, 21] (fun v i wr => ∃ k : Nat, i = .int .i64 k ∧ k ≤ sfs.length ∧ wr.ownsRow w.heap.size 61 4 v k (flatL ((scs.zip sfs).take k)) ∧ Own wr A2 3 (ints scs) ∧ Own wr A3 59 (flatF sfs) ∧ Own wr A5 104 (flat sl) ∧
    Whole wr gm 41 [.int .i64 (r : Int), .int .i64 (c : Int), .slice A5 sl.length c5, .int .i64 p, .int .i64 q, .int .i64 sb, .int .i64 sr, .int .i64 sx] ∧ Whole wr (w.heap.size + 1) 41 [.int .i64 0, .int .i64 0, .slice none 0 0, .int .i64 0, .int .i64 0, .int .i64 0, .int .i64 0, .int .i64 0] ∧ Below w.heap.size w wr) (fun _ i _ => sfs.length - (intOf i).toNat)
  case atStart => exact ⟨0, rfl, Nat.zero_le _, hown, O2, O3, O5, Xm, X1, B0⟩
  case round =>
    clear hown O2 O3 O5 Xm X1 B0
    obtain ⟨k, rfl, hk, hown, O2, O3, O5, Xm, X1, B0⟩ := hrel
    have hs := B0.size
    by_cases hlt : k < sfs.length
    · obtain ⟨g2, rest2, rfl, X2⟩ := O2 (by rw [ints_length]; omega)
      obtain ⟨g3, rest3, rfl, X3⟩ := O3 (by rw [flatF_len]; omega)
      have hkc : k < scs.length := by omega
      have HT := Lib.hid (zip_take_succ hkc hlt)
      have hx2 : (ints scs ++ rest2)[k]? = some (.int .i64 scs[k]) := by rw [List.getElem?_append_left (by rw [ints_length]; exact hkc), ints_at _ _ hkc]
      obtain ⟨p0, p1, p2⟩ := flatF_atM sfs k hlt
      have r0 : wr.cell? ⟨g3, k * 3, none⟩ = some (.int .i64 sfs[k].1) := by rw [X3.cell, List.getElem?_append_left (by rw [flatF_len]; omega), p0]
      have r1 : wr.cell? ⟨g3, k * 3 + 1, none⟩ = some (.int .i64 sfs[k].2.1) := by rw [X3.cell, List.getElem?_append_left (by rw [flatF_len]; omega), p1]
      have r2 : wr.cell? ⟨g3, k * 3 + 2, none⟩ = some (.int .i64 sfs[k].2.2) := by rw [X3.cell, List.getElem?_append_left (by rw [flatF_len]; omega), p2]
      clear p0 p1 p2
      generalize scs[k] = x at *
      have HX2 := Lib.hid hx2
      clear hx2
      generalize sfs[k].1 = y at *
      generalize sfs[k].2.1 = z at *
      generalize sfs[k].2.2 = u at *
      have h2l := X2.lt
      have h3l := X3.lt
      generalize hFL : flatL ((scs.zip sfs).take k) = fl at *
      have bl : Below wr.heap.size wr (wr.alloc (.cells #[.int .i64 y, .int .i64 z, .int .i64 u] 59)) := (Below.refl _ _).alloc (Nat.le_refl _) _
      have Xf : Whole (wr.alloc (.cells #[.int .i64 y, .int .i64 z, .int .i64 u] 59)) wr.heap.size 59 [.int .i64 y, .int .i64 z, .int .i64 u] := heap_alloc_new wr _
      replace hown := row_keep hown bl
      replace X2 := X2.below bl X2.lt
      replace X3 := X3.below bl X3.lt
      replace O5 := O5.keep bl
      replace Xm := Xm.below bl Xm.lt
      replace X1 := X1.below bl X1.lt
      have B1 := B0.trans (bl.mono hs)
      have hs1 := B1.size
      go_upto_region 6 with (fail)
      clear bl B0
      generalize wr.alloc (.cells #[.int .i64 y, .int .i64 z, .int .i64 u] 59) = wl at *
      generalize wr.heap.size = gf at *
      clear r0 r1 r2
      have bd : Below wl.heap.size wl wl.drew := (Below.refl _ _).drew
      have hfl := Xf.lt
      have hown2 := (row_keep hown bd).alloc (.cells #[.int .i64 x, .int .i64 y, .int .i64 z, .int .i64 u] 61)
      have hbs : w.heap.size ≤ (wl.drew.alloc (.cells #[.int .i64 x, .int .i64 y, .int .i64 z, .int .i64 u] 61)).heap.size := by
        rw [World.size_alloc]
        exact Nat.le_succ_of_le hs1
      have HA := Lib.hid (And.intro hown2 hbs)
      have q0 : wl.drew.cell? ⟨g2, k, none⟩ = some (.int .i64 x) := ((X2.below bd X2.lt).cell k).trans HX2.out
      have f0 : wl.drew.cell? ⟨gf, 0, none⟩ = some (.int .i64 y) := (Xf.below bd hfl).cell 0
      have f1 : wl.drew.cell? ⟨gf, 1, none⟩ = some (.int .i64 z) := (Xf.below bd hfl).cell 1
      have f2 : wl.drew.cell? ⟨gf, 2, none⟩ = some (.int .i64 u) := (Xf.below bd hfl).cell 2
      go_region_law (first
        | (refine step_append_lies _ (by rfl) _ _ _ (by rfl) w.heap.size 61 i0 _ 4 32 Try.underlying25 hi hz0 hz1 hz2 rfl (by omega) u9 k fl (by simp [Act.eval, Act.put]) HA.out.1 ⟨wl.heap.size, 0, none⟩ 1 1 [.int .i64 x, .int .i64 y, .int .i64 z, .int .i64 u] (by simp [Act.eval, Act.put]) rfl four_cellsL four_oneL (by omega) (by unfold maxLen; omega) (by omega) HA.out.2 _ rfl ?_; intro g9 c9 w9 hown9 hg9 hat9 hlt9)
        | fail)
      all_goals
        have hY := HA.out.1
        have O1b : Below wl.heap.size wl (wl.drew.alloc (.cells #[.int .i64 x, .int .i64 y, .int .i64 z, .int .i64 u] 61)) := bd.alloc (Nat.le_refl _) _
        have hkeep : ∀ {g : Nat} {t : TypeId} {xs : List Value}, 61 ≠ t → Whole wl g t xs → Whole w9 g t xs := fun hne hw => (hw.below O1b hw.lt).grown hg9 (row_apart hY (hw.below O1b hw.lt) hne)
        have hb9 : Below w.heap.size w w9 := row_below hY (B1.trans (O1b.mono hs1)) HA.out.2 hg9
        have O59 : Own w9 A5 104 (flat sl) := fun hx => by
          obtain ⟨g, rest, e, hw⟩ := O5 hx
          exact ⟨g, rest, e, hkeep (by decide) hw⟩
        have X29 := hkeep (by decide) X2
        have X39 := hkeep (by decide) X3
        have Xm9 := hkeep (by decide) Xm
        have X19 := hkeep (by decide) X1
        have HR9 := Lib.hid (And.intro O59 (And.intro X29 (And.intro X39 (And.intro Xm9 (And.intro X19 hb9)))))
        clear hkeep O1b hY hg9 hat9 hlt9 O59 X29 X39 Xm9 X19 hb9 O2 O3 O5 Xm X1 X2 X3 Xf q0 f0 f1 f2 hown hown2 hbs HA bd
        rw [← HT.out] at hown9
        go_wp2
        obtain ⟨O59, X29, X39, Xm9, X19, hb9⟩ := HR9.out
        exact ⟨⟨k + 1, by go_num, by omega, hown9, fun _ => ⟨g2, rest2, rfl, X29⟩, fun _ => ⟨g3, rest3, rfl, X39⟩, O59, Xm9, X19, hb9⟩, by simp [intOf]; omega⟩
    · obtain rfl : k = sfs.length := by omega
      rw [zip_take_all hsm] at hown
      have hml := Xm.lt
      have h1l := X1.lt
      have hne1 := row_apart hown X1 (by decide)
      have Xmk0 : wr.cell? ⟨gm, 0, none⟩ = some (.int .i64 (r : Int)) := (Xm.cell 0).trans rfl; have Xmk1 : wr.cell? ⟨gm, 1, none⟩ = some (.int .i64 (c : Int)) := (Xm.cell 1).trans rfl; have Xmk2 : wr.cell? ⟨gm, 2, none⟩ = some (.slice A5 sl.length c5) := (Xm.cell 2).trans rfl; have Xmk3 : wr.cell? ⟨gm, 3, none⟩ = some (.int .i64 p) := (Xm.cell 3).trans rfl; have Xmk4 : wr.cell? ⟨gm, 4, none⟩ = some (.int .i64 q) := (Xm.cell 4).trans rfl; have Xmk5 : wr.cell? ⟨gm, 5, none⟩ = some (.int .i64 sb) := (Xm.cell 5).trans rfl
      have Xmk6 : wr.cell? ⟨gm, 6, none⟩ = some (.int .i64 sr) := (Xm.cell 6).trans rfl; have Xmk7 : wr.cell? ⟨gm, 7, none⟩ = some (.int .i64 sx) := (Xm.cell 7).trans rfl
      go_upto_region 8 with (fail)
      go_still_tail 3, (by kernel_rfl)
      change wpList _ _ _ _ _ wr.drew
      have bd : Below wr.heap.size wr wr.drew := (Below.refl _ _).drew
      replace X1 := X1.below bd X1.lt
      replace O5 := O5.keep bd
      replace hown := row_keep hown bd
      replace B0 := B0.trans (bd.mono hs)
      clear Xmk0 Xmk1 Xmk2 Xmk3 Xmk4 Xmk5 Xmk6 Xmk7
      clear bd Xm O2 O3 hml h1l hs
      generalize wr.drew = v5 at *
      have h1l := X1.lt
      have X1k0 : v5.cell? ⟨w.heap.size + 1, 0, none⟩ = some (.int .i64 0) := (X1.cell 0).trans rfl; have X1k1 : v5.cell? ⟨w.heap.size + 1, 1, none⟩ = some (.int .i64 0) := (X1.cell 1).trans rfl; have X1k2 : v5.cell? ⟨w.heap.size + 1, 2, none⟩ = some (.slice none 0 0) := (X1.cell 2).trans rfl; have X1k3 : v5.cell? ⟨w.heap.size + 1, 3, none⟩ = some (.int .i64 0) := (X1.cell 3).trans rfl; have X1k4 : v5.cell? ⟨w.heap.size + 1, 4, none⟩ = some (.int .i64 0) := (X1.cell 4).trans rfl; have X1k5 : v5.cell? ⟨w.heap.size + 1, 5, none⟩ = some (.int .i64 0) := (X1.cell 5).trans rfl
      have X1k6 : v5.cell? ⟨w.heap.size + 1, 6, none⟩ = some (.int .i64 0) := (X1.cell 6).trans rfl; have X1k7 : v5.cell? ⟨w.heap.size + 1, 7, none⟩ = some (.int .i64 0) := (X1.cell 7).trans rfl
      have X1f0 := X1.frozen 0; have X1f1 := X1.frozen 1; have X1f2 := X1.frozen 2; have X1f3 := X1.frozen 3; have X1f4 := X1.frozen 4; have X1f5 := X1.frozen 5; have X1f6 := X1.frozen 6; have X1f7 := X1.frozen 7
      go_wp2
      rewrite [mset_fold]; obtain ⟨v4, hv4⟩ : ∃ v4, v4 = mset v5 (w.heap.size + 1) (.int .i64 (r : Int)) (.int .i64 (c : Int)) (.slice A5 sl.length c5) (.int .i64 p) (.int .i64 q) (.int .i64 sb) (.int .i64 sr) (.int .i64 sx) := ⟨_, rfl⟩; have Z1 : Whole v4 (w.heap.size + 1) 41 [.int .i64 (r : Int), .int .i64 (c : Int), .slice A5 sl.length c5, .int .i64 p, .int .i64 q, .int .i64 sb, .int .i64 sr, .int .i64 sx] := (by rw [hv4]; exact Whole.mset X1 _ _ _ _ _ _ _ _)
      replace O5 : Own v4 A5 104 (flat sl) := by rw [hv4]; exact own_mset O5 X1 (by decide)
      replace hown : v4.ownsRow w.heap.size 61 4 u9 sfs.length (flatL (scs.zip sfs)) := by rw [hv4]; exact row_mset hown hne1
      replace B0 : Below w.heap.size w v4 := by rw [hv4]; exact below_mset B0 (by omega)
      clear X1k0 X1k1 X1k2 X1k3 X1k4 X1k5 X1k6 X1k7
      clear X1f0 X1f1 X1f2 X1f3 X1f4 X1f5 X1f6 X1f7
      rewrite [← hv4]
      clear hv4 X1 hne1
      have Z1k0 : v4.cell? ⟨w.heap.size + 1, 0, none⟩ = some (.int .i64 (r : Int)) := (Z1.cell 0).trans rfl; have Z1k1 : v4.cell? ⟨w.heap.size + 1, 1, none⟩ = some (.int .i64 (c : Int)) := (Z1.cell 1).trans rfl; have Z1k2 : v4.cell? ⟨w.heap.size + 1, 2, none⟩ = some (.slice A5 sl.length c5) := (Z1.cell 2).trans rfl; have Z1k3 : v4.cell? ⟨w.heap.size + 1, 3, none⟩ = some (.int .i64 p) := (Z1.cell 3).trans rfl; have Z1k4 : v4.cell? ⟨w.heap.size + 1, 4, none⟩ = some (.int .i64 q) := (Z1.cell 4).trans rfl; have Z1k5 : v4.cell? ⟨w.heap.size + 1, 5, none⟩ = some (.int .i64 sb) := (Z1.cell 5).trans rfl; have Z1k6 : v4.cell? ⟨w.heap.size + 1, 6, none⟩ = some (.int .i64 sr) := (Z1.cell 6).trans rfl; have Z1k7 : v4.cell? ⟨w.heap.size + 1, 7, none⟩ = some (.int .i64 sx) := (Z1.cell 7).trans rfl
      refine bodyPost_ret (v := .tuple #[u9, .agg #[.int .i64 (r : Int), .int .i64 (c : Int), .slice A5 sl.length c5, .int .i64 p, .int .i64 q, .int .i64 sb, .int .i64 sr, .int .i64 sx]]) ?_ rfl ?_; (focus (simp [results, Try.results42, go_sem, *]; done))
      exact PostLO.mk hown O5 N5w B0
/-- A log of the call's own, and whether it succeeds. -/
def PostLG (w : World) (l : List LE) (ok : Bool) (e : Ending) (w' : World) : Prop :=
  ∃ A' cap', e = .returned (.tuple #[.slice A' l.length cap', .bool ok]) ∧ Own w' A' 61 (flatL l) ∧ New w A' ∧ Below w.heap.size w w'
theorem PostLG.of_row {w w' : World} {l : List LE} {ok : Bool} {v : Value} {n : Nat} (hn : l.length = n) (h : w'.ownsRow w.heap.size 61 4 v n (flatL l)) (b : Below w.heap.size w w') : PostLG w l ok (.returned (.tuple #[v, .bool ok])) w' := by
  subst hn
  obtain ⟨A, cap, rfl, O, N⟩ := own_slice h
  exact ⟨A, cap, rfl, O, N, b⟩
theorem PostLG.none_ {w w' : World} (b : Below w.heap.size w w') : PostLG w [] false (.returned (.tuple #[.slice none 0 0, .bool false])) w' :=
  ⟨none, 0, rfl, Own.none_, New.none_, b⟩
def logO (R C : Int) (l : List (Int × Int)) (p q bl rd nx : Int) : List LE := relS (finO R C l p q bl rd nx)
theorem spec_LogOf (R C : Int) (A : Option Addr) (cap : Nat) (l : List (Int × Int)) (p q bl rd nx : Int) (w : World) (hn : l.length ≤ 1048576) (hr : Rd w w.heap.size A (flat l)) :
    Calls Try.prog 16 #[.agg #[.int .i64 R, .int .i64 C, .slice A l.length cap, .int .i64 p, .int .i64 q, .int .i64 bl, .int .i64 rd, .int .i64 nx]] w (PostLG w (relS (finO R C l p q bl rd nx)) (okM R C l p q bl rd nx)) := by
  unfold finO
  rcases Bool.eq_false_or_eq_true (okM R C l p q bl rd nx) with ho | ho
  · have HO := Lib.hid ho
    rw [ho, if_pos rfl]
    obtain ⟨r, c, rfl, rfl, hG, hg, hp, hq⟩ := okM_ints ho
    obtain ⟨_, _, hpos⟩ := goodB_parts hg
    obtain ⟨b, o, rfl, hbl, hc⟩ := hr (by rw [flat_length]; omega)
    have hr' : Rd w w.heap.size (some ⟨b, o, none⟩) (flat l) := fun _ => ⟨b, o, rfl, hbl, hc⟩
    have HG := Lib.hid (fun w' h => spec_loOf r c b o cap l p q bl rd nx 60 w' ho (by omega) h)
    have HL := Lib.hid (relS_len (MOk.run hp hq 60 _ (MOk.start ho)).same)
    generalize runM (r : Int) (c : Int) p q 60 ⟨l, bl, rd, nx, [], []⟩ = s at *
    clear ho hr hG hg hp hq hc hbl
    go_enter Try.func16, Try.ntmps16
    obtain ⟨v0, hv0⟩ : ∃ v, v = w.alloc (.cells #[.int .i64 (r : Int), .int .i64 (c : Int), .slice (some ⟨b, o, none⟩) l.length cap, .int .i64 p, .int .i64 q, .int .i64 bl, .int .i64 rd, .int .i64 nx] 41) := ⟨_, rfl⟩; have X0 : Whole v0 w.heap.size 41 [.int .i64 (r : Int), .int .i64 (c : Int), .slice (some ⟨b, o, none⟩) l.length cap, .int .i64 p, .int .i64 q, .int .i64 bl, .int .i64 rd, .int .i64 nx] := (by rw [hv0]; exact heap_alloc_new w _); have hb : Below w.heap.size w v0 := (by rw [hv0]; exact (Below.refl _ _).alloc (Nat.le_refl _) _); have HV := Lib.hid hv0.symm; clear hv0; go_upto_region 1 with (fail); rewrite [HV.out]; clear HV; have hy := X0.lt
    have X0k0 : v0.cell? ⟨w.heap.size, 0, none⟩ = some (.int .i64 (r : Int)) := (X0.cell 0).trans rfl; have X0k1 : v0.cell? ⟨w.heap.size, 1, none⟩ = some (.int .i64 (c : Int)) := (X0.cell 1).trans rfl; have X0k2 : v0.cell? ⟨w.heap.size, 2, none⟩ = some (.slice (some ⟨b, o, none⟩) l.length cap) := (X0.cell 2).trans rfl; have X0k3 : v0.cell? ⟨w.heap.size, 3, none⟩ = some (.int .i64 p) := (X0.cell 3).trans rfl; have X0k4 : v0.cell? ⟨w.heap.size, 4, none⟩ = some (.int .i64 q) := (X0.cell 4).trans rfl; have X0k5 : v0.cell? ⟨w.heap.size, 5, none⟩ = some (.int .i64 bl) := (X0.cell 5).trans rfl; have X0k6 : v0.cell? ⟨w.heap.size, 6, none⟩ = some (.int .i64 rd) := (X0.cell 6).trans rfl; have X0k7 : v0.cell? ⟨w.heap.size, 7, none⟩ = some (.int .i64 nx) := (X0.cell 7).trans rfl
    go_wp2_with fail
    refine (spec_maGood _ _ _ _ l _ _ _ _ _ _ hn ((hr'.below hb).mono hb.size)).mono ?_; rintro e w1 ⟨rfl, b1⟩
    clear X0k0 X0k1 X0k2 X0k3 X0k4 X0k5 X0k6 X0k7
    (replace X0 := X0.below b1 X0.lt; replace hb := hb.trans (b1.mono hb.size); have hy := X0.lt; clear b1)
    rewrite [HO.out]
    have X0k0 : w1.cell? ⟨w.heap.size, 0, none⟩ = some (.int .i64 (r : Int)) := (X0.cell 0).trans rfl; have X0k1 : w1.cell? ⟨w.heap.size, 1, none⟩ = some (.int .i64 (c : Int)) := (X0.cell 1).trans rfl; have X0k2 : w1.cell? ⟨w.heap.size, 2, none⟩ = some (.slice (some ⟨b, o, none⟩) l.length cap) := (X0.cell 2).trans rfl; have X0k3 : w1.cell? ⟨w.heap.size, 3, none⟩ = some (.int .i64 p) := (X0.cell 3).trans rfl; have X0k4 : w1.cell? ⟨w.heap.size, 4, none⟩ = some (.int .i64 q) := (X0.cell 4).trans rfl; have X0k5 : w1.cell? ⟨w.heap.size, 5, none⟩ = some (.int .i64 bl) := (X0.cell 5).trans rfl; have X0k6 : w1.cell? ⟨w.heap.size, 6, none⟩ = some (.int .i64 rd) := (X0.cell 6).trans rfl; have X0k7 : w1.cell? ⟨w.heap.size, 7, none⟩ = some (.int .i64 nx) := (X0.cell 7).trans rfl
    go_wp2_with fail
    refine (HG.out _ ((hr'.below hb).mono hb.size)).mono ?_; rintro e w3 hP
    obtain ⟨v, A5, c5, rfl, h2, O5, N5, b3⟩ := hP
    clear HG O5 N5
    clear X0k0 X0k1 X0k2 X0k3 X0k4 X0k5 X0k6 X0k7
    replace h2 := row_base h2 hb.size
    (replace X0 := X0.below b3 X0.lt; replace hb := hb.trans (b3.mono hb.size); have hy := X0.lt; clear b3)
    clear X0 hy
    obtain ⟨sl, sb, sr, sx, scs, sfs⟩ := s
    go_upto_region 4 with (fail)
    have ba : Below w3.heap.size w3 (w3.alloc (.cells #[.int .i64 (r : Int), .int .i64 (c : Int), .slice A5 sl.length c5, .int .i64 p, .int .i64 q, .int .i64 sb, .int .i64 sr, .int .i64 sx] 41)) := (Below.refl _ _).alloc (Nat.le_refl _) _
    replace h2 := row_keep h2 ba
    replace hb := hb.trans (ba.mono hb.size)
    clear ba
    generalize w3.alloc (.cells #[.int .i64 (r : Int), .int .i64 (c : Int), .slice A5 sl.length c5, .int .i64 p, .int .i64 q, .int .i64 sb, .int .i64 sr, .int .i64 sx] 41) = v6 at *
    go_wp2
    go_returns
    exact PostLG.of_row HL.out h2 hb
  · have HO := Lib.hid ho
    rw [ho, if_neg (by decide)]
    clear ho
    go_enter Try.func16, Try.ntmps16
    obtain ⟨v0, hv0⟩ : ∃ v, v = w.alloc (.cells #[.int .i64 R, .int .i64 C, .slice A l.length cap, .int .i64 p, .int .i64 q, .int .i64 bl, .int .i64 rd, .int .i64 nx] 41) := ⟨_, rfl⟩; have X0 : Whole v0 w.heap.size 41 [.int .i64 R, .int .i64 C, .slice A l.length cap, .int .i64 p, .int .i64 q, .int .i64 bl, .int .i64 rd, .int .i64 nx] := (by rw [hv0]; exact heap_alloc_new w _); have hb : Below w.heap.size w v0 := (by rw [hv0]; exact (Below.refl _ _).alloc (Nat.le_refl _) _); have HV := Lib.hid hv0.symm; clear hv0; go_upto_region 1 with (fail); rewrite [HV.out]; clear HV; have hy := X0.lt
    have X0k0 : v0.cell? ⟨w.heap.size, 0, none⟩ = some (.int .i64 R) := (X0.cell 0).trans rfl; have X0k1 : v0.cell? ⟨w.heap.size, 1, none⟩ = some (.int .i64 C) := (X0.cell 1).trans rfl; have X0k2 : v0.cell? ⟨w.heap.size, 2, none⟩ = some (.slice A l.length cap) := (X0.cell 2).trans rfl; have X0k3 : v0.cell? ⟨w.heap.size, 3, none⟩ = some (.int .i64 p) := (X0.cell 3).trans rfl; have X0k4 : v0.cell? ⟨w.heap.size, 4, none⟩ = some (.int .i64 q) := (X0.cell 4).trans rfl; have X0k5 : v0.cell? ⟨w.heap.size, 5, none⟩ = some (.int .i64 bl) := (X0.cell 5).trans rfl; have X0k6 : v0.cell? ⟨w.heap.size, 6, none⟩ = some (.int .i64 rd) := (X0.cell 6).trans rfl; have X0k7 : v0.cell? ⟨w.heap.size, 7, none⟩ = some (.int .i64 nx) := (X0.cell 7).trans rfl
    go_wp2_with fail
    refine (spec_maGood _ _ _ _ l _ _ _ _ _ _ hn ((hr.below hb).mono hb.size)).mono ?_; rintro e w1 ⟨rfl, b1⟩
    clear X0k0 X0k1 X0k2 X0k3 X0k4 X0k5 X0k6 X0k7
    (replace X0 := X0.below b1 X0.lt; replace hb := hb.trans (b1.mono hb.size); have hy := X0.lt; clear b1)
    rewrite [HO.out]
    go_wp2
    go_returns
    exact PostLG.none_ hb
end Go.Proofs.Ytlambflmabecfaa
namespace Go.Proofs.Ytlambflmabecfaa
open Go.ChangeShapes Go.WideShapes Go.ChangeAt Go.RowKit Go.Joins Go.Deep
set_option linter.unusedSimpArgs false
set_option linter.unusedVariables false
set_option maxRecDepth 100000
set_option maxHeartbeats 4000000
theorem impl_fall3 (a b c : Int) (w : World) : Calls Try.prog 147 #[.agg #[.int .i64 a, .int .i64 b, .int .i64 c]] w fun e w' => e = .returned (.agg #[.int .i64 a, .int .i64 b, .int .i64 c]) ∧ Below w.heap.size w w' := by
  go_enter Try.func147, Try.ntmps147
  go_wp2
  refine bodyPost_ret (v := .agg #[.int .i64 a, .int .i64 b, .int .i64 c]) ?_ rfl ?_; (focus (simp [results, Try.results147, go_sem, *]; done))
  exact ⟨rfl, by (repeat' (first | (with_reducible exact Below.refl _ _) | (with_reducible assumption) | (with_reducible refine Below.alloc ?_ ?_ _) | (with_reducible refine Below.setCell ?_ ?_ _) | (with_reducible refine Below.drew ?_) | (with_reducible refine below_drewN ?_ _) | (with_reducible refine Below.trans ?_ (Below.mono (by assumption) ?_)) | (with_reducible exact Nat.le_refl _) | (simp; done) | omega | (simp at *; omega)))⟩
theorem impl_fall4 (a b c : Int) (w : World) : Calls Try.prog 148 #[.agg #[.int .i64 a, .int .i64 b, .int .i64 c]] w fun e w' => e = .returned (.agg #[.int .i64 a, .int .i64 b, .int .i64 c]) ∧ Below w.heap.size w w' := by
  go_enter Try.func148, Try.ntmps148
  go_wp2
  refine bodyPost_ret (v := .agg #[.int .i64 a, .int .i64 b, .int .i64 c]) ?_ rfl ?_; (focus (simp [results, Try.results148, go_sem, *]; done))
  exact ⟨rfl, by (repeat' (first | (with_reducible exact Below.refl _ _) | (with_reducible assumption) | (with_reducible refine Below.alloc ?_ ?_ _) | (with_reducible refine Below.setCell ?_ ?_ _) | (with_reducible refine Below.drew ?_) | (with_reducible refine below_drewN ?_ _) | (with_reducible refine Below.trans ?_ (Below.mono (by assumption) ?_)) | (with_reducible exact Nat.le_refl _) | (simp; done) | omega | (simp at *; omega)))⟩
theorem takeLF_succ {l : List LE} {k : Nat} (h : k < l.length) : flatL (l.take (k + 1)) = flatL (l.take k) ++ [.int .i64 l[k].1, .int .i64 l[k].2.1, .int .i64 l[k].2.2.1, .int .i64 l[k].2.2.2] := by
  rw [List.take_succ_eq_append_getElem h, flatL_app]
  rfl
theorem impl_LogOf (R C : Int) (A : Option Addr) (cap : Nat) (l : List (Int × Int)) (p q bl rd nx : Int) (w : World) (hn : l.length ≤ 1048576) (hr : Rd w w.heap.size A (flat l)) :
    Calls Try.prog 18 #[.agg #[.int .i64 R, .int .i64 C, .slice A l.length cap, .int .i64 p, .int .i64 q, .int .i64 bl, .int .i64 rd, .int .i64 nx]] w (PostLG w (relS (finO R C l p q bl rd nx)) (okM R C l p q bl rd nx)) := by
  unfold finO
  rcases Bool.eq_false_or_eq_true (okM R C l p q bl rd nx) with ho | ho
  · have HO := Lib.hid ho
    rw [ho, if_pos rfl]
    obtain ⟨i0, hi, hz0, hz1, hz2⟩ := info_parts logInfoF
    obtain ⟨r, c, rfl, rfl, hG, hg, hp, hq⟩ := okM_ints ho
    obtain ⟨_, _, hpos⟩ := goodB_parts hg
    obtain ⟨b, o, rfl, hbl, hc⟩ := hr (by rw [flat_length]; omega)
    have hr' : Rd w w.heap.size (some ⟨b, o, none⟩) (flat l) := fun _ => ⟨b, o, rfl, hbl, hc⟩
    have hmk := MOk.run hp hq 60 _ (MOk.start ho)
    have HG := Lib.hid (fun w' h => impl_runSteps_yes r c b o cap l p q bl rd nx 60 w' ho (by omega) h)
    generalize runM (r : Int) (c : Int) p q 60 ⟨l, bl, rd, nx, [], []⟩ = s at *
    have hrl : (relS s).length ≤ 60 := by have := hmk.few; rw [relS_len hmk.same]; omega
    clear ho hr hG hg hp hq hc hbl hmk
    go_enter Try.func18, Try.ntmps18
    obtain ⟨v0, hv0⟩ : ∃ v, v = w.alloc (.cells #[.int .i64 (r : Int), .int .i64 (c : Int), .slice (some ⟨b, o, none⟩) l.length cap, .int .i64 p, .int .i64 q, .int .i64 bl, .int .i64 rd, .int .i64 nx] 41) := ⟨_, rfl⟩; have X0 : Whole v0 w.heap.size 41 [.int .i64 (r : Int), .int .i64 (c : Int), .slice (some ⟨b, o, none⟩) l.length cap, .int .i64 p, .int .i64 q, .int .i64 bl, .int .i64 rd, .int .i64 nx] := (by rw [hv0]; exact heap_alloc_new w _); have hb : Below w.heap.size w v0 := (by rw [hv0]; exact (Below.refl _ _).alloc (Nat.le_refl _) _); have HV := Lib.hid hv0.symm; clear hv0; go_upto_region 1 with (fail); rewrite [HV.out]; clear HV; have hy := X0.lt
    have X0k0 : v0.cell? ⟨w.heap.size, 0, none⟩ = some (.int .i64 (r : Int)) := (X0.cell 0).trans rfl; have X0k1 : v0.cell? ⟨w.heap.size, 1, none⟩ = some (.int .i64 (c : Int)) := (X0.cell 1).trans rfl; have X0k2 : v0.cell? ⟨w.heap.size, 2, none⟩ = some (.slice (some ⟨b, o, none⟩) l.length cap) := (X0.cell 2).trans rfl; have X0k3 : v0.cell? ⟨w.heap.size, 3, none⟩ = some (.int .i64 p) := (X0.cell 3).trans rfl; have X0k4 : v0.cell? ⟨w.heap.size, 4, none⟩ = some (.int .i64 q) := (X0.cell 4).trans rfl; have X0k5 : v0.cell? ⟨w.heap.size, 5, none⟩ = some (.int .i64 bl) := (X0.cell 5).trans rfl; have X0k6 : v0.cell? ⟨w.heap.size, 6, none⟩ = some (.int .i64 rd) := (X0.cell 6).trans rfl; have X0k7 : v0.cell? ⟨w.heap.size, 7, none⟩ = some (.int .i64 nx) := (X0.cell 7).trans rfl
    go_wp2_with fail
    refine (HG.out _ ((hr'.below hb).mono hb.size)).mono ?_; rintro e w3 hP
    obtain ⟨A5, c5, v2, rfl, O5, N5, h2, b3⟩ := hP
    clear HG O5 N5
    clear X0k0 X0k1 X0k2 X0k3 X0k4 X0k5 X0k6 X0k7
    obtain ⟨A6, c6, rfl, O6, N6⟩ := own_slice h2
    (replace X0 := X0.below b3 X0.lt; replace hb := hb.trans (b3.mono hb.size); have hy := X0.lt; clear b3)
    clear h2 N6 X0 hy
    generalize relS s = rs at *
    obtain ⟨sl, sb, sr, sx, scs, sfs⟩ := s
    go_upto_region 2 with (fail)
    have ba : Below w3.heap.size w3 (w3.alloc (.cells #[.int .i64 (r : Int), .int .i64 (c : Int), .slice A5 sl.length c5, .int .i64 p, .int .i64 q, .int .i64 sb, .int .i64 sr, .int .i64 sx] 41)) := (Below.refl _ _).alloc (Nat.le_refl _) _
    replace O6 := O6.keep ba
    replace hb := hb.trans (ba.mono hb.size)
    clear ba
    generalize w3.alloc (.cells #[.int .i64 (r : Int), .int .i64 (c : Int), .slice A5 sl.length c5, .int .i64 p, .int .i64 q, .int .i64 sb, .int .i64 sr, .int .i64 sx] 41) = v6 at *
    have hown : v6.ownsRow w.heap.size 61 4 (.slice none 0 0) 0 [] := World.ownsRow_nil _ _ _ _
    go_wp2
    go_loopw [7, 18] (fun v i wr => ∃ k : Nat, i = .int .i64 k ∧ k ≤ rs.length ∧ wr.ownsRow w.heap.size 61 4 v k (flatL (rs.take k)) ∧ Own wr A6 79 (flatR rs) ∧ Below w.heap.size w wr) (fun _ i _ => rs.length - (intOf i).toNat)
    case atStart => exact ⟨0, rfl, Nat.zero_le _, hown, O6, hb⟩
    case round =>
      clear hown O6 hb
      obtain ⟨k, rfl, hk, hown, O6, hb⟩ := hrel
      have hs := hb.size
      by_cases hlt : k < rs.length
      · obtain ⟨gr, rest, rfl, Xr⟩ := O6 (by rw [flatR_len]; omega)
        obtain ⟨hc0, hc1⟩ := flatR_at rs k hlt
        have hk0 : wr.cell? ⟨gr, k * 2, none⟩ = some (.int .i64 rs[k].1) := (Xr.cell _).trans (by rw [List.getElem?_append_left (by rw [flatR_len]; omega)]; exact hc0)
        have hk1 : wr.cell? ⟨gr, k * 2 + 1, none⟩ = some (endV (rs[k].2.1, rs[k].2.2.1, rs[k].2.2.2)) := (Xr.cell _).trans (by rw [List.getElem?_append_left (by rw [flatR_len]; omega)]; exact hc1)
        have HT := Lib.hid (takeLF_succ hlt)
        have hgl := Xr.lt
        clear hc0 hc1 O6
        generalize rs[k].1 = x at *
        generalize rs[k].2.1 = y at *
        generalize rs[k].2.2.1 = z at *
        generalize rs[k].2.2.2 = u at *
        generalize hFL : flatL (rs.take k) = fl at *
        by_cases hy1 : y = 1
        · rw [endV_in hy1] at hk1
          have bl : Below wr.heap.size wr (wr.alloc (.cells #[.int .i64 x, .iface 118 (.agg #[.int .i64 y, .int .i64 z, .int .i64 u])] 79)) := (Below.refl _ _).alloc (Nat.le_refl _) _
          have Xf : Whole (wr.alloc (.cells #[.int .i64 x, .iface 118 (.agg #[.int .i64 y, .int .i64 z, .int .i64 u])] 79)) wr.heap.size 79 [.int .i64 x, .iface 118 (.agg #[.int .i64 y, .int .i64 z, .int .i64 u])] := heap_alloc_new wr _
          replace hown := row_keep hown bl
          replace Xr := Xr.below bl Xr.lt
          have B1 := hb.trans (bl.mono hs)
          have hs1 := B1.size
          clear bl hb hy1
          go_upto_region 6 with (fail)
          generalize wr.alloc (.cells #[.int .i64 x, .iface 118 (.agg #[.int .i64 y, .int .i64 z, .int .i64 u])] 79) = wl at *
          have bd : Below wl.heap.size wl wl.drew := (Below.refl _ _).drew
          have q0 : wl.drew.cell? ⟨wr.heap.size, 0, none⟩ = some (.int .i64 x) := (Xf.below bd Xf.lt).cell 0
          have q1 : wl.drew.cell? ⟨wr.heap.size, 1, none⟩ = some (.iface 118 (.agg #[.int .i64 y, .int .i64 z, .int .i64 u])) := (Xf.below bd Xf.lt).cell 1
          have h0 : wr.heap.size < wl.drew.heap.size := Xf.lt
          have HOWN := Lib.hid (row_keep hown bd)
          have HB := Lib.hid (B1.trans (bd.mono hs1))
          have HXr := Lib.hid (Xr.below bd Xr.lt)
          clear hk0 hk1 hown Xr Xf bd
          go_region_law (first
            | (refine step_append_lies _ (by rfl) _ _ _ (by rfl) w.heap.size 61 i0 _ 4 32 Try.underlying25 hi hz0 hz1 hz2 rfl (by omega) u7 k fl (by simp [Act.eval, Act.put]) (HOWN.out.alloc _) ⟨w7.heap.size, 0, none⟩ 1 1 [.int .i64 x, .int .i64 y, .int .i64 z, .int .i64 u] (by simp [Act.eval, Act.put]) rfl four_cellsL four_oneL (by omega) (by unfold maxLen; omega) (by omega) (by rw [World.size_alloc]; exact Nat.le_succ_of_le HB.out.size) _ rfl ?_; intro g9 c9 w9 hown9 hg9 hat9 hlt9)
            | (go_simp; go_wp2_with (first | (go_at_call 147; refine (impl_fall3 _ _ _ _).mono ?_; rintro e w7 ⟨rfl, b7⟩; replace q0 := (b7.cell (p := ⟨wr.heap.size, 0, none⟩) h0).trans q0; replace h0 : wr.heap.size < w7.heap.size := Nat.lt_of_lt_of_le h0 b7.size; replace HXr := Lib.hid (HXr.out.below b7 HXr.out.lt); replace HOWN := Lib.hid (row_keep HOWN.out b7); replace HB := Lib.hid (HB.out.trans (b7.mono HB.out.size)); clear q1) | fail))
            | fail)
          all_goals
            have hY := HOWN.out.alloc (.cells #[.int .i64 x, .int .i64 y, .int .i64 z, .int .i64 u] 61)
            have hb9 : Below w.heap.size w w9 := row_below hY (HB.out.alloc HB.out.size _) (by rw [World.size_alloc]; exact Nat.le_succ_of_le HB.out.size) hg9
            have Xr9 := (HXr.out.alloc (.cells #[.int .i64 x, .int .i64 y, .int .i64 z, .int .i64 u] 61)).grown hg9 (row_apart hY (HXr.out.alloc _) (by decide))
            rw [← HT.out] at hown9
            clear hY hg9 hat9 hlt9 HOWN HB HXr
            go_wp2
            exact ⟨⟨k + 1, by go_num, by omega, hown9, fun _ => ⟨gr, rest, rfl, Xr9⟩, hb9⟩, by simp [intOf]; omega⟩
        · rw [endV_out hy1] at hk1
          have bl : Below wr.heap.size wr (wr.alloc (.cells #[.int .i64 x, .iface 119 (.agg #[.int .i64 y, .int .i64 z, .int .i64 u])] 79)) := (Below.refl _ _).alloc (Nat.le_refl _) _
          have Xf : Whole (wr.alloc (.cells #[.int .i64 x, .iface 119 (.agg #[.int .i64 y, .int .i64 z, .int .i64 u])] 79)) wr.heap.size 79 [.int .i64 x, .iface 119 (.agg #[.int .i64 y, .int .i64 z, .int .i64 u])] := heap_alloc_new wr _
          replace hown := row_keep hown bl
          replace Xr := Xr.below bl Xr.lt
          have B1 := hb.trans (bl.mono hs)
          have hs1 := B1.size
          clear bl hb hy1
          go_upto_region 6 with (fail)
          generalize wr.alloc (.cells #[.int .i64 x, .iface 119 (.agg #[.int .i64 y, .int .i64 z, .int .i64 u])] 79) = wl at *
          have bd : Below wl.heap.size wl wl.drew := (Below.refl _ _).drew
          have q0 : wl.drew.cell? ⟨wr.heap.size, 0, none⟩ = some (.int .i64 x) := (Xf.below bd Xf.lt).cell 0
          have q1 : wl.drew.cell? ⟨wr.heap.size, 1, none⟩ = some (.iface 119 (.agg #[.int .i64 y, .int .i64 z, .int .i64 u])) := (Xf.below bd Xf.lt).cell 1
          have h0 : wr.heap.size < wl.drew.heap.size := Xf.lt
          have HOWN := Lib.hid (row_keep hown bd)
          have HB := Lib.hid (B1.trans (bd.mono hs1))
          have HXr := Lib.hid (Xr.below bd Xr.lt)
          clear hk0 hk1 hown Xr Xf bd
          go_region_law (first
            | (refine step_append_lies _ (by rfl) _ _ _ (by rfl) w.heap.size 61 i0 _ 4 32 Try.underlying25 hi hz0 hz1 hz2 rfl (by omega) u7 k fl (by simp [Act.eval, Act.put]) (HOWN.out.alloc _) ⟨w7.heap.size, 0, none⟩ 1 1 [.int .i64 x, .int .i64 y, .int .i64 z, .int .i64 u] (by simp [Act.eval, Act.put]) rfl four_cellsL four_oneL (by omega) (by unfold maxLen; omega) (by omega) (by rw [World.size_alloc]; exact Nat.le_succ_of_le HB.out.size) _ rfl ?_; intro g9 c9 w9 hown9 hg9 hat9 hlt9)
            | (go_simp; go_wp2_with (first | (go_at_call 148; refine (impl_fall4 _ _ _ _).mono ?_; rintro e w7 ⟨rfl, b7⟩; replace q0 := (b7.cell (p := ⟨wr.heap.size, 0, none⟩) h0).trans q0; replace h0 : wr.heap.size < w7.heap.size := Nat.lt_of_lt_of_le h0 b7.size; replace HXr := Lib.hid (HXr.out.below b7 HXr.out.lt); replace HOWN := Lib.hid (row_keep HOWN.out b7); replace HB := Lib.hid (HB.out.trans (b7.mono HB.out.size)); clear q1) | fail))
            | fail)
          all_goals
            have hY := HOWN.out.alloc (.cells #[.int .i64 x, .int .i64 y, .int .i64 z, .int .i64 u] 61)
            have hb9 : Below w.heap.size w w9 := row_below hY (HB.out.alloc HB.out.size _) (by rw [World.size_alloc]; exact Nat.le_succ_of_le HB.out.size) hg9
            have Xr9 := (HXr.out.alloc (.cells #[.int .i64 x, .int .i64 y, .int .i64 z, .int .i64 u] 61)).grown hg9 (row_apart hY (HXr.out.alloc _) (by decide))
            rw [← HT.out] at hown9
            clear hY hg9 hat9 hlt9 HOWN HB HXr
            go_wp2
            exact ⟨⟨k + 1, by go_num, by omega, hown9, fun _ => ⟨gr, rest, rfl, Xr9⟩, hb9⟩, by simp [intOf]; omega⟩
      · obtain rfl : k = rs.length := by omega
        rw [List.take_length] at hown
        clear hlt hk
        go_wp2
        go_returns
        exact PostLG.of_row rfl hown hb
  · rw [ho, if_neg (by decide)]
    have HG := Lib.hid (fun w' h => impl_runSteps_no R C A cap l p q bl rd nx 60 w' ho hn h)
    have HO := Lib.hid ho
    clear ho
    go_enter Try.func18, Try.ntmps18
    obtain ⟨v0, hv0⟩ : ∃ v, v = w.alloc (.cells #[.int .i64 R, .int .i64 C, .slice A l.length cap, .int .i64 p, .int .i64 q, .int .i64 bl, .int .i64 rd, .int .i64 nx] 41) := ⟨_, rfl⟩; have X0 : Whole v0 w.heap.size 41 [.int .i64 R, .int .i64 C, .slice A l.length cap, .int .i64 p, .int .i64 q, .int .i64 bl, .int .i64 rd, .int .i64 nx] := (by rw [hv0]; exact heap_alloc_new w _); have hb : Below w.heap.size w v0 := (by rw [hv0]; exact (Below.refl _ _).alloc (Nat.le_refl _) _); have HV := Lib.hid hv0.symm; clear hv0; go_upto_region 1 with (fail); rewrite [HV.out]; clear HV; have hy := X0.lt
    have X0k0 : v0.cell? ⟨w.heap.size, 0, none⟩ = some (.int .i64 R) := (X0.cell 0).trans rfl; have X0k1 : v0.cell? ⟨w.heap.size, 1, none⟩ = some (.int .i64 C) := (X0.cell 1).trans rfl; have X0k2 : v0.cell? ⟨w.heap.size, 2, none⟩ = some (.slice A l.length cap) := (X0.cell 2).trans rfl; have X0k3 : v0.cell? ⟨w.heap.size, 3, none⟩ = some (.int .i64 p) := (X0.cell 3).trans rfl; have X0k4 : v0.cell? ⟨w.heap.size, 4, none⟩ = some (.int .i64 q) := (X0.cell 4).trans rfl; have X0k5 : v0.cell? ⟨w.heap.size, 5, none⟩ = some (.int .i64 bl) := (X0.cell 5).trans rfl; have X0k6 : v0.cell? ⟨w.heap.size, 6, none⟩ = some (.int .i64 rd) := (X0.cell 6).trans rfl; have X0k7 : v0.cell? ⟨w.heap.size, 7, none⟩ = some (.int .i64 nx) := (X0.cell 7).trans rfl
    go_wp2_with fail
    refine (HG.out _ ((hr.below hb).mono hb.size)).mono ?_; rintro e w3 ⟨rfl, b3⟩
    clear HG
    clear X0k0 X0k1 X0k2 X0k3 X0k4 X0k5 X0k6 X0k7
    (replace X0 := X0.below b3 X0.lt; replace hb := hb.trans (b3.mono hb.size); have hy := X0.lt; clear b3)
    go_upto_region 2 with (fail)
    replace hb : Below w.heap.size w (w3.alloc (.cells #[.int .i64 0, .int .i64 0, .slice none 0 0, .int .i64 0, .int .i64 0, .int .i64 0, .int .i64 0, .int .i64 0] 41)) := hb.alloc hb.size _
    generalize w3.alloc (.cells #[.int .i64 0, .int .i64 0, .slice none 0 0, .int .i64 0, .int .i64 0, .int .i64 0, .int .i64 0, .int .i64 0] 41) = v6 at *
    clear X0 hy
    go_wp2
    go_rounds 1
    go_returns
    exact PostLG.none_ hb
end Go.Proofs.Ytlambflmabecfaa
