/- Contracts of the program and of the model, walked, part 10 of 11. No condition but what each says. -/
import Derived.Test.YtpfjbecpfdgnpaaM9
import Derived.Test.YtpfjbecpfdgnpaaM6
namespace Go.Proofs.Ytpfjbecpfdgnpaa
open Go.ChangeShapes Go.WideShapes Go.ChangeAt Go.RowKit Go.Joins Go.Deep
set_option linter.unusedSimpArgs false
set_option linter.unusedVariables false
set_option maxRecDepth 100000
set_option maxHeartbeats 4000000
theorem one_cellI2 {w : World} {o : Obj} {x : Value} {t : TypeId} : ∀ j u, [x][j]? = some u → ((w.alloc o).alloc (.cells #[x] t)).cell? ((⟨w.heap.size + 1, 0, none⟩ : Addr).add j) = some u := by
  intro j u h
  have hn := heap_alloc_new (w.alloc o) (.cells #[x] t)
  rw [World.size_alloc] at hn
  have hw : Whole ((w.alloc o).alloc (.cells #[x] t)) (w.heap.size + 1) t [x] := hn
  have hj := hw.cell j
  rw [h] at hj
  rw [← hj]
  by_cases h0 : j = 0
  · subst h0; simp [Addr.add]
  · simp [Addr.add, h0]
theorem finO_few (R C : Int) (l : List (Int × Int)) (p q bl rd nx : Int) : (finO R C l p q bl rd nx).fs.length ≤ 60 ∧ (finO R C l p q bl rd nx).cs.length = (finO R C l p q bl rd nx).fs.length := by
  unfold finO
  split
  · next h1 =>
    obtain ⟨r, c, rfl, rfl, hG, hg, hp, hq⟩ := okM_ints h1
    have hm := MOk.run hp hq 60 _ (MOk.start h1)
    have := hm.few
    exact ⟨by omega, hm.same⟩
  · exact ⟨Nat.zero_le _, rfl⟩
theorem spec_ReleasedColours (R C : Int) (A : Option Addr) (cap : Nat) (l : List (Int × Int)) (p q bl rd nx : Int) (w : World) (hn : l.length ≤ 1048576) (hr : Rd w w.heap.size A (flat l)) :
    Calls Try.prog 50 #[.agg #[.int .i64 R, .int .i64 C, .slice A l.length cap, .int .i64 p, .int .i64 q, .int .i64 bl, .int .i64 rd, .int .i64 nx]] w (PostL w (finO R C l p q bl rd nx).cs (okM R C l p q bl rd nx)) := by
  unfold finO
  rcases Bool.eq_false_or_eq_true (okM R C l p q bl rd nx) with ho | ho
  · have HO := Lib.hid ho
    rw [ho, if_pos rfl]
    obtain ⟨r, c, rfl, rfl, hG, hg, hp, hq⟩ := okM_ints ho
    obtain ⟨_, _, hpos⟩ := goodB_parts hg
    obtain ⟨b, o, rfl, hbl, hc⟩ := hr (by rw [flat_length]; omega)
    have hr' : Rd w w.heap.size (some ⟨b, o, none⟩) (flat l) := fun _ => ⟨b, o, rfl, hbl, hc⟩
    have HG := Lib.hid (fun w' h => spec_maRun r c b o cap l p q bl rd nx 60 w' ho (by omega) h)
    generalize runM (r : Int) (c : Int) p q 60 ⟨l, bl, rd, nx, [], []⟩ = s at *
    clear ho hr hG hg hp hq hc hbl
    go_enter Try.func50, Try.ntmps50
    obtain ⟨v0, hv0⟩ : ∃ v, v = w.alloc (.cells #[.int .i64 (r : Int), .int .i64 (c : Int), .slice (some ⟨b, o, none⟩) l.length cap, .int .i64 p, .int .i64 q, .int .i64 bl, .int .i64 rd, .int .i64 nx] 56) := ⟨_, rfl⟩; have X0 : Whole v0 w.heap.size 56 [.int .i64 (r : Int), .int .i64 (c : Int), .slice (some ⟨b, o, none⟩) l.length cap, .int .i64 p, .int .i64 q, .int .i64 bl, .int .i64 rd, .int .i64 nx] := (by rw [hv0]; exact heap_alloc_new w _); have hb : Below w.heap.size w v0 := (by rw [hv0]; exact (Below.refl _ _).alloc (Nat.le_refl _) _); have HV := Lib.hid hv0.symm; clear hv0; go_upto_region 1 with (fail); rewrite [HV.out]; clear HV; have hy := X0.lt
    have X0k0 : v0.cell? ⟨w.heap.size, 0, none⟩ = some (.int .i64 (r : Int)) := (X0.cell 0).trans rfl; have X0k1 : v0.cell? ⟨w.heap.size, 1, none⟩ = some (.int .i64 (c : Int)) := (X0.cell 1).trans rfl; have X0k2 : v0.cell? ⟨w.heap.size, 2, none⟩ = some (.slice (some ⟨b, o, none⟩) l.length cap) := (X0.cell 2).trans rfl; have X0k3 : v0.cell? ⟨w.heap.size, 3, none⟩ = some (.int .i64 p) := (X0.cell 3).trans rfl; have X0k4 : v0.cell? ⟨w.heap.size, 4, none⟩ = some (.int .i64 q) := (X0.cell 4).trans rfl; have X0k5 : v0.cell? ⟨w.heap.size, 5, none⟩ = some (.int .i64 bl) := (X0.cell 5).trans rfl; have X0k6 : v0.cell? ⟨w.heap.size, 6, none⟩ = some (.int .i64 rd) := (X0.cell 6).trans rfl; have X0k7 : v0.cell? ⟨w.heap.size, 7, none⟩ = some (.int .i64 nx) := (X0.cell 7).trans rfl
    go_wp2_with fail
    refine (spec_maGood _ _ _ _ l _ _ _ _ _ _ hn ((hr'.below hb).mono hb.size)).mono ?_; rintro e w1 ⟨rfl, b1⟩
    clear X0k0 X0k1 X0k2 X0k3 X0k4 X0k5 X0k6 X0k7
    (replace X0 := X0.below b1 X0.lt; replace hb := hb.trans (b1.mono hb.size); have hy := X0.lt; clear b1)
    rewrite [HO.out]
    have X0k0 : w1.cell? ⟨w.heap.size, 0, none⟩ = some (.int .i64 (r : Int)) := (X0.cell 0).trans rfl; have X0k1 : w1.cell? ⟨w.heap.size, 1, none⟩ = some (.int .i64 (c : Int)) := (X0.cell 1).trans rfl; have X0k2 : w1.cell? ⟨w.heap.size, 2, none⟩ = some (.slice (some ⟨b, o, none⟩) l.length cap) := (X0.cell 2).trans rfl; have X0k3 : w1.cell? ⟨w.heap.size, 3, none⟩ = some (.int .i64 p) := (X0.cell 3).trans rfl; have X0k4 : w1.cell? ⟨w.heap.size, 4, none⟩ = some (.int .i64 q) := (X0.cell 4).trans rfl; have X0k5 : w1.cell? ⟨w.heap.size, 5, none⟩ = some (.int .i64 bl) := (X0.cell 5).trans rfl; have X0k6 : w1.cell? ⟨w.heap.size, 6, none⟩ = some (.int .i64 rd) := (X0.cell 6).trans rfl; have X0k7 : w1.cell? ⟨w.heap.size, 7, none⟩ = some (.int .i64 nx) := (X0.cell 7).trans rfl
    go_wp2_with fail
    refine (HG.out _ ((hr'.below hb).mono hb.size)).mono ?_; rintro e w3 hP
    obtain ⟨A5, c5, v2, v3, rfl, O5, N5, h2, h3, b3⟩ := hP
    clear HG h3 O5 N5
    clear X0k0 X0k1 X0k2 X0k3 X0k4 X0k5 X0k6 X0k7
    obtain ⟨A6, c6, rfl, O6, N6⟩ := own_slice h2
    have N6w : New w A6 := fun a ha => Nat.le_trans hb.size (N6 a ha)
    (replace X0 := X0.below b3 X0.lt; replace hb := hb.trans (b3.mono hb.size); have hy := X0.lt; clear b3)
    clear h2 N6
    obtain ⟨sl, sb, sr, sx, scs, sfs⟩ := s
    go_wp2
    refine bodyPost_ret (v := .tuple #[.slice A6 scs.length c6, .bool true]) ?_ rfl ?_; (focus (simp [results, Try.results50, go_sem, *]; done))
    exact PostL.mk (l := scs) (O6.keep (by (repeat' (first | (with_reducible exact Below.refl _ _) | (with_reducible assumption) | (with_reducible refine Below.alloc ?_ ?_ _) | (with_reducible refine Below.setCell ?_ ?_ _) | (with_reducible refine Below.drew ?_) | (with_reducible refine below_drewN ?_ _) | (with_reducible refine Below.trans ?_ (Below.mono (by assumption) ?_)) | (with_reducible exact Nat.le_refl _) | (simp; done) | omega | (simp at *; omega))))) N6w (by (repeat' (first | (with_reducible exact Below.refl _ _) | (with_reducible assumption) | (with_reducible refine Below.alloc ?_ ?_ _) | (with_reducible refine Below.setCell ?_ ?_ _) | (with_reducible refine Below.drew ?_) | (with_reducible refine below_drewN ?_ _) | (with_reducible refine Below.trans ?_ (Below.mono (by assumption) ?_)) | (with_reducible exact Nat.le_refl _) | (simp; done) | omega | (simp at *; omega))))
  · have HO := Lib.hid ho
    rw [ho, if_neg (by decide)]
    clear ho
    go_enter Try.func50, Try.ntmps50
    obtain ⟨v0, hv0⟩ : ∃ v, v = w.alloc (.cells #[.int .i64 R, .int .i64 C, .slice A l.length cap, .int .i64 p, .int .i64 q, .int .i64 bl, .int .i64 rd, .int .i64 nx] 56) := ⟨_, rfl⟩; have X0 : Whole v0 w.heap.size 56 [.int .i64 R, .int .i64 C, .slice A l.length cap, .int .i64 p, .int .i64 q, .int .i64 bl, .int .i64 rd, .int .i64 nx] := (by rw [hv0]; exact heap_alloc_new w _); have hb : Below w.heap.size w v0 := (by rw [hv0]; exact (Below.refl _ _).alloc (Nat.le_refl _) _); have HV := Lib.hid hv0.symm; clear hv0; go_upto_region 1 with (fail); rewrite [HV.out]; clear HV; have hy := X0.lt
    have X0k0 : v0.cell? ⟨w.heap.size, 0, none⟩ = some (.int .i64 R) := (X0.cell 0).trans rfl; have X0k1 : v0.cell? ⟨w.heap.size, 1, none⟩ = some (.int .i64 C) := (X0.cell 1).trans rfl; have X0k2 : v0.cell? ⟨w.heap.size, 2, none⟩ = some (.slice A l.length cap) := (X0.cell 2).trans rfl; have X0k3 : v0.cell? ⟨w.heap.size, 3, none⟩ = some (.int .i64 p) := (X0.cell 3).trans rfl; have X0k4 : v0.cell? ⟨w.heap.size, 4, none⟩ = some (.int .i64 q) := (X0.cell 4).trans rfl; have X0k5 : v0.cell? ⟨w.heap.size, 5, none⟩ = some (.int .i64 bl) := (X0.cell 5).trans rfl; have X0k6 : v0.cell? ⟨w.heap.size, 6, none⟩ = some (.int .i64 rd) := (X0.cell 6).trans rfl; have X0k7 : v0.cell? ⟨w.heap.size, 7, none⟩ = some (.int .i64 nx) := (X0.cell 7).trans rfl
    go_wp2_with fail
    refine (spec_maGood _ _ _ _ l _ _ _ _ _ _ hn ((hr.below hb).mono hb.size)).mono ?_; rintro e w1 ⟨rfl, b1⟩
    clear X0k0 X0k1 X0k2 X0k3 X0k4 X0k5 X0k6 X0k7
    (replace X0 := X0.below b1 X0.lt; replace hb := hb.trans (b1.mono hb.size); have hy := X0.lt; clear b1)
    rewrite [HO.out]
    go_wp2
    go_returns
    exact PostL.none_ hb
theorem PostL.of_row {w w' : World} {l : List Int} {ok : Bool} {v : Value} {n : Nat} (hn : l.length = n) (h : w'.ownsRow w.heap.size 3 1 v n (ints l)) (b : Below w.heap.size w w') : PostL w l ok (.returned (.tuple #[v, .bool ok])) w' := by
  subst hn
  obtain ⟨A, cap, rfl, O, N⟩ := own_slice h
  exact PostL.mk O N b
theorem impl_ReleasedColours (R C : Int) (A : Option Addr) (cap : Nat) (l : List (Int × Int)) (p q bl rd nx : Int) (w : World) (hn : l.length ≤ 1048576) (hr : Rd w w.heap.size A (flat l)) :
    Calls Try.prog 51 #[.agg #[.int .i64 R, .int .i64 C, .slice A l.length cap, .int .i64 p, .int .i64 q, .int .i64 bl, .int .i64 rd, .int .i64 nx]] w (PostL w (finO R C l p q bl rd nx).cs (okM R C l p q bl rd nx)) := by
  unfold finO
  rcases Bool.eq_false_or_eq_true (okM R C l p q bl rd nx) with ho | ho
  · rw [ho, if_pos rfl]
    obtain ⟨i0, hi, hz0, hz1, hz2⟩ := info_parts intInfo
    obtain ⟨r, c, rfl, rfl, hG, hg, hp, hq⟩ := okM_ints ho
    obtain ⟨_, _, hpos⟩ := goodB_parts hg
    obtain ⟨b, o, rfl, hbl, hc⟩ := hr (by rw [flat_length]; omega)
    have hr' : Rd w w.heap.size (some ⟨b, o, none⟩) (flat l) := fun _ => ⟨b, o, rfl, hbl, hc⟩
    have hmk := MOk.run hp hq 60 _ (MOk.start ho)
    have HG := Lib.hid (fun w' h => impl_runSteps_yes r c b o cap l p q bl rd nx 60 w' ho (by omega) h)
    generalize runM (r : Int) (c : Int) p q 60 ⟨l, bl, rd, nx, [], []⟩ = s at *
    have HCs := Lib.hid (relS_cs hmk.same)
    have hrl : (relS s).length ≤ 60 := by have := hmk.few; rw [relS_len hmk.same]; omega
    rewrite [← HCs.out]
    clear ho hr hG hg hp hq hc hbl hmk
    go_enter Try.func51, Try.ntmps51
    obtain ⟨v0, hv0⟩ : ∃ v, v = w.alloc (.cells #[.int .i64 (r : Int), .int .i64 (c : Int), .slice (some ⟨b, o, none⟩) l.length cap, .int .i64 p, .int .i64 q, .int .i64 bl, .int .i64 rd, .int .i64 nx] 56) := ⟨_, rfl⟩; have X0 : Whole v0 w.heap.size 56 [.int .i64 (r : Int), .int .i64 (c : Int), .slice (some ⟨b, o, none⟩) l.length cap, .int .i64 p, .int .i64 q, .int .i64 bl, .int .i64 rd, .int .i64 nx] := (by rw [hv0]; exact heap_alloc_new w _); have hb : Below w.heap.size w v0 := (by rw [hv0]; exact (Below.refl _ _).alloc (Nat.le_refl _) _); have HV := Lib.hid hv0.symm; clear hv0; go_upto_region 1 with (fail); rewrite [HV.out]; clear HV; have hy := X0.lt
    have X0k0 : v0.cell? ⟨w.heap.size, 0, none⟩ = some (.int .i64 (r : Int)) := (X0.cell 0).trans rfl; have X0k1 : v0.cell? ⟨w.heap.size, 1, none⟩ = some (.int .i64 (c : Int)) := (X0.cell 1).trans rfl; have X0k2 : v0.cell? ⟨w.heap.size, 2, none⟩ = some (.slice (some ⟨b, o, none⟩) l.length cap) := (X0.cell 2).trans rfl; have X0k3 : v0.cell? ⟨w.heap.size, 3, none⟩ = some (.int .i64 p) := (X0.cell 3).trans rfl; have X0k4 : v0.cell? ⟨w.heap.size, 4, none⟩ = some (.int .i64 q) := (X0.cell 4).trans rfl; have X0k5 : v0.cell? ⟨w.heap.size, 5, none⟩ = some (.int .i64 bl) := (X0.cell 5).trans rfl; have X0k6 : v0.cell? ⟨w.heap.size, 6, none⟩ = some (.int .i64 rd) := (X0.cell 6).trans rfl; have X0k7 : v0.cell? ⟨w.heap.size, 7, none⟩ = some (.int .i64 nx) := (X0.cell 7).trans rfl
    go_wp2_with fail
    refine (HG.out _ ((hr'.below hb).mono hb.size)).mono ?_; rintro e w3 hP
    obtain ⟨A5, c5, v2, rfl, O5, N5, h2, b3⟩ := hP
    clear HG O5 N5
    clear X0k0 X0k1 X0k2 X0k3 X0k4 X0k5 X0k6 X0k7
    obtain ⟨A6, c6, rfl, O6, N6⟩ := own_slice h2
    (replace X0 := X0.below b3 X0.lt; replace hb := hb.trans (b3.mono hb.size); have hy := X0.lt; clear b3)
    clear h2 N6 X0 hy
    generalize hRs : relS s = rs at *
    have HRs := Lib.hid hRs
    clear hRs
    obtain ⟨sl, sb, sr, sx, scs, sfs⟩ := s
    go_upto_region 2 with (fail)
    have ba : Below w3.heap.size w3 (w3.alloc (.cells #[.int .i64 (r : Int), .int .i64 (c : Int), .slice A5 sl.length c5, .int .i64 p, .int .i64 q, .int .i64 sb, .int .i64 sr, .int .i64 sx] 56)) := (Below.refl _ _).alloc (Nat.le_refl _) _
    replace O6 := O6.keep ba
    replace hb := hb.trans (ba.mono hb.size)
    clear ba
    generalize w3.alloc (.cells #[.int .i64 (r : Int), .int .i64 (c : Int), .slice A5 sl.length c5, .int .i64 p, .int .i64 q, .int .i64 sb, .int .i64 sr, .int .i64 sx] 56) = v6 at *
    have hown : v6.ownsRow w.heap.size 3 1 (.slice none 0 0) 0 [] := World.ownsRow_nil _ _ _ _
    go_wp2
    go_loopw [7, 18] (fun v i wr => ∃ k : Nat, i = .int .i64 k ∧ k ≤ rs.length ∧ wr.ownsRow w.heap.size 3 1 v k (ints ((rs.take k).map (·.1))) ∧ Own wr A6 117 (flatR rs) ∧ Below w.heap.size w wr) (fun _ i _ => rs.length - (intOf i).toNat)
    case atStart => exact ⟨0, rfl, Nat.zero_le _, hown, O6, hb⟩
    case round =>
      clear hown O6 hb
      obtain ⟨k, rfl, hk, hown, O6, hb⟩ := hrel
      have hs := hb.size
      by_cases hlt : k < rs.length
      · obtain ⟨gr, rest, rfl, Xr⟩ := O6 (by rw [flatR_len]; omega)
        obtain ⟨hc0, hc1⟩ := flatR_at rs k hlt
        obtain ⟨T, ev, hE⟩ := endV_iface rs[k].2
        rw [hE] at hc1
        have hk0 : wr.cell? ⟨gr, k * 2, none⟩ = some (.int .i64 rs[k].1) := (Xr.cell _).trans (by rw [List.getElem?_append_left (by rw [flatR_len]; omega)]; exact hc0)
        have hk1 : wr.cell? ⟨gr, k * 2 + 1, none⟩ = some (.iface T ev) := (Xr.cell _).trans (by rw [List.getElem?_append_left (by rw [flatR_len]; omega)]; exact hc1)
        have HT := Lib.hid (show (rs.take (k + 1)).map (·.1) = (rs.take k).map (·.1) ++ [rs[k].1] by rw [List.take_succ_eq_append_getElem hlt, List.map_append]; rfl)
        have HI := Lib.hid (show ∀ (x : List Int) (y : Int), ints (x ++ [y]) = ints x ++ [.int .i64 y] from fun x y => by simp [ints])
        have hgl := Xr.lt
        clear hc0 hc1 hE
        generalize rs[k].1 = x at *
        have hownY := (hown.alloc (.cells #[.int .i64 x, .iface T ev] 117)).alloc (.cells #[.int .i64 x] 3)
        have XrY := (Xr.alloc (.cells #[.int .i64 x, .iface T ev] 117)).alloc (.cells #[.int .i64 x] 3)
        have hbY : Below w.heap.size w ((wr.alloc (.cells #[.int .i64 x, .iface T ev] 117)).alloc (.cells #[.int .i64 x] 3)) := (hb.alloc hs _).alloc (by rw [World.size_alloc]; omega) _
        go_upto_region 7 with (first | (at_builtin; go_loud (refine wpList_append_own _ rfl (.tmp 22) (.tmp 25) 35 rfl w.heap.size 3 i0 _ 1 8 Try.underlying35 hi hz0 hz1 hz2 rfl (by omega) u7 k _ rfl ((hown.alloc _).alloc _) ⟨wr.heap.size + 1, 0, none⟩ 1 1 [.int .i64 x] rfl rfl one_cellI2 one_oneI (by unfold maxLen; omega) (by omega) (by rw [World.size_alloc, World.size_alloc]; omega) ?_; intro v7 w7 hown7 hg7 _)) | fail)
        have Xr7 := XrY.grown hg7 (row_apart hownY XrY (by decide))
        have hb7 := row_below hownY hbY (by rw [World.size_alloc, World.size_alloc]; omega) hg7
        clear hownY XrY hbY hg7 hown Xr hb hs hk0 hk1 O6
        go_wp2
        refine ⟨⟨k + 1, by go_num, by omega, ?_, fun _ => ⟨gr, rest, rfl, Xr7⟩, hb7⟩, by simp [intOf]; omega⟩
        rw [HT.out, HI.out]
        exact hown7
      · obtain rfl : k = rs.length := by omega
        rw [List.take_length] at hown
        have HLn := Lib.hid (show (rs.map (·.1)).length = rs.length by rw [List.length_map])
        clear hlt hk
        go_wp2
        go_returns
        rewrite [HRs.out]
        exact PostL.of_row HLn.out hown hb
  · rw [ho, if_neg (by decide)]
    have HG := Lib.hid (fun w' h => impl_runSteps_no R C A cap l p q bl rd nx 60 w' ho hn h)
    clear ho
    go_enter Try.func51, Try.ntmps51
    obtain ⟨v0, hv0⟩ : ∃ v, v = w.alloc (.cells #[.int .i64 R, .int .i64 C, .slice A l.length cap, .int .i64 p, .int .i64 q, .int .i64 bl, .int .i64 rd, .int .i64 nx] 56) := ⟨_, rfl⟩; have X0 : Whole v0 w.heap.size 56 [.int .i64 R, .int .i64 C, .slice A l.length cap, .int .i64 p, .int .i64 q, .int .i64 bl, .int .i64 rd, .int .i64 nx] := (by rw [hv0]; exact heap_alloc_new w _); have hb : Below w.heap.size w v0 := (by rw [hv0]; exact (Below.refl _ _).alloc (Nat.le_refl _) _); have HV := Lib.hid hv0.symm; clear hv0; go_upto_region 1 with (fail); rewrite [HV.out]; clear HV; have hy := X0.lt
    have X0k0 : v0.cell? ⟨w.heap.size, 0, none⟩ = some (.int .i64 R) := (X0.cell 0).trans rfl; have X0k1 : v0.cell? ⟨w.heap.size, 1, none⟩ = some (.int .i64 C) := (X0.cell 1).trans rfl; have X0k2 : v0.cell? ⟨w.heap.size, 2, none⟩ = some (.slice A l.length cap) := (X0.cell 2).trans rfl; have X0k3 : v0.cell? ⟨w.heap.size, 3, none⟩ = some (.int .i64 p) := (X0.cell 3).trans rfl; have X0k4 : v0.cell? ⟨w.heap.size, 4, none⟩ = some (.int .i64 q) := (X0.cell 4).trans rfl; have X0k5 : v0.cell? ⟨w.heap.size, 5, none⟩ = some (.int .i64 bl) := (X0.cell 5).trans rfl; have X0k6 : v0.cell? ⟨w.heap.size, 6, none⟩ = some (.int .i64 rd) := (X0.cell 6).trans rfl; have X0k7 : v0.cell? ⟨w.heap.size, 7, none⟩ = some (.int .i64 nx) := (X0.cell 7).trans rfl
    go_wp2_with fail
    refine (HG.out _ ((hr.below hb).mono hb.size)).mono ?_; rintro e w3 ⟨rfl, b3⟩
    clear HG
    clear X0k0 X0k1 X0k2 X0k3 X0k4 X0k5 X0k6 X0k7
    (replace X0 := X0.below b3 X0.lt; replace hb := hb.trans (b3.mono hb.size); have hy := X0.lt; clear b3)
    go_upto_region 2 with (fail)
    replace hb : Below w.heap.size w (w3.alloc (.cells #[.int .i64 0, .int .i64 0, .slice none 0 0, .int .i64 0, .int .i64 0, .int .i64 0, .int .i64 0, .int .i64 0] 56)) := hb.alloc hb.size _
    generalize w3.alloc (.cells #[.int .i64 0, .int .i64 0, .slice none 0 0, .int .i64 0, .int .i64 0, .int .i64 0, .int .i64 0, .int .i64 0] 56) = v6 at *
    clear X0 hy
    go_wp2
    go_rounds 1
    go_returns
    exact PostL.none_ hb
end Go.Proofs.Ytpfjbecpfdgnpaa
namespace Go.Proofs.Ytpfjbecpfdgnpaa
open Go.ChangeShapes Go.WideShapes Go.ChangeAt Go.RowKit Go.Joins Go.Deep
set_option linter.unusedSimpArgs false
set_option linter.unusedVariables false
set_option maxRecDepth 100000
set_option maxHeartbeats 4000000
/-- The columns in which marbles arrive. -/
def arrF (fs : List (Int × Int × Int)) : List Int := (fs.filter fun f => decide (f.1 = 1)).map (·.2.2)
theorem arrF_snoc (fs : List (Int × Int × Int)) (f : Int × Int × Int) : arrF (fs ++ [f]) = if f.1 = 1 then arrF fs ++ [f.2.2] else arrF fs := by
  unfold arrF
  rw [List.filter_append, List.map_append]
  by_cases h : f.1 = 1
  · rw [if_pos h, List.filter_cons_of_pos (by simpa using h)]
    rfl
  · rw [if_neg h, List.filter_cons_of_neg (by simpa using h)]
    simp
theorem arrF_len (fs : List (Int × Int × Int)) : (arrF fs).length ≤ fs.length := by
  unfold arrF
  rw [List.length_map]
  exact List.length_filter_le _ _
theorem arrF_take (fs : List (Int × Int × Int)) (k : Nat) : (arrF (fs.take k)).length ≤ k := by
  have := arrF_len (fs.take k)
  rw [List.length_take] at this
  omega
theorem spec_ArrivalColumns (R C : Int) (A : Option Addr) (cap : Nat) (l : List (Int × Int)) (p q bl rd nx : Int) (w : World) (hn : l.length ≤ 1048576) (hr : Rd w w.heap.size A (flat l)) :
    Calls Try.prog 55 #[.agg #[.int .i64 R, .int .i64 C, .slice A l.length cap, .int .i64 p, .int .i64 q, .int .i64 bl, .int .i64 rd, .int .i64 nx]] w (PostL w (arrF (finO R C l p q bl rd nx).fs) (okM R C l p q bl rd nx)) := by
  unfold finO
  rcases Bool.eq_false_or_eq_true (okM R C l p q bl rd nx) with ho | ho
  · have HO := Lib.hid ho
    rw [ho, if_pos rfl]
    obtain ⟨r, c, rfl, rfl, hG, hg, hp, hq⟩ := okM_ints ho
    obtain ⟨_, _, hpos⟩ := goodB_parts hg
    obtain ⟨b, o, rfl, hbl, hc⟩ := hr (by rw [flat_length]; omega)
    have hr' : Rd w w.heap.size (some ⟨b, o, none⟩) (flat l) := fun _ => ⟨b, o, rfl, hbl, hc⟩
    have hfew := (MOk.run hp hq 60 _ (MOk.start ho)).few
    obtain ⟨i0, hi, hz0, hz1, hz2⟩ := info_parts intInfo
    have HG := Lib.hid (fun w' h => spec_maRun r c b o cap l p q bl rd nx 60 w' ho (by omega) h)
    generalize runM (r : Int) (c : Int) p q 60 ⟨l, bl, rd, nx, [], []⟩ = s at *
    clear ho hr hG hg hp hq hc hbl
    go_enter Try.func55, Try.ntmps55
    obtain ⟨v0, hv0⟩ : ∃ v, v = w.alloc (.cells #[.int .i64 (r : Int), .int .i64 (c : Int), .slice (some ⟨b, o, none⟩) l.length cap, .int .i64 p, .int .i64 q, .int .i64 bl, .int .i64 rd, .int .i64 nx] 56) := ⟨_, rfl⟩; have X0 : Whole v0 w.heap.size 56 [.int .i64 (r : Int), .int .i64 (c : Int), .slice (some ⟨b, o, none⟩) l.length cap, .int .i64 p, .int .i64 q, .int .i64 bl, .int .i64 rd, .int .i64 nx] := (by rw [hv0]; exact heap_alloc_new w _); have hb : Below w.heap.size w v0 := (by rw [hv0]; exact (Below.refl _ _).alloc (Nat.le_refl _) _); have HV := Lib.hid hv0.symm; clear hv0; go_upto_region 1 with (fail); rewrite [HV.out]; clear HV; have hy := X0.lt
    have X0k0 : v0.cell? ⟨w.heap.size, 0, none⟩ = some (.int .i64 (r : Int)) := (X0.cell 0).trans rfl; have X0k1 : v0.cell? ⟨w.heap.size, 1, none⟩ = some (.int .i64 (c : Int)) := (X0.cell 1).trans rfl; have X0k2 : v0.cell? ⟨w.heap.size, 2, none⟩ = some (.slice (some ⟨b, o, none⟩) l.length cap) := (X0.cell 2).trans rfl; have X0k3 : v0.cell? ⟨w.heap.size, 3, none⟩ = some (.int .i64 p) := (X0.cell 3).trans rfl; have X0k4 : v0.cell? ⟨w.heap.size, 4, none⟩ = some (.int .i64 q) := (X0.cell 4).trans rfl; have X0k5 : v0.cell? ⟨w.heap.size, 5, none⟩ = some (.int .i64 bl) := (X0.cell 5).trans rfl; have X0k6 : v0.cell? ⟨w.heap.size, 6, none⟩ = some (.int .i64 rd) := (X0.cell 6).trans rfl; have X0k7 : v0.cell? ⟨w.heap.size, 7, none⟩ = some (.int .i64 nx) := (X0.cell 7).trans rfl
    go_wp2_with fail
    refine (spec_maGood _ _ _ _ l _ _ _ _ _ _ hn ((hr'.below hb).mono hb.size)).mono ?_; rintro e w1 ⟨rfl, b1⟩
    clear X0k0 X0k1 X0k2 X0k3 X0k4 X0k5 X0k6 X0k7
    (replace X0 := X0.below b1 X0.lt; replace hb := hb.trans (b1.mono hb.size); have hy := X0.lt; clear b1)
    rewrite [HO.out]
    have X0k0 : w1.cell? ⟨w.heap.size, 0, none⟩ = some (.int .i64 (r : Int)) := (X0.cell 0).trans rfl; have X0k1 : w1.cell? ⟨w.heap.size, 1, none⟩ = some (.int .i64 (c : Int)) := (X0.cell 1).trans rfl; have X0k2 : w1.cell? ⟨w.heap.size, 2, none⟩ = some (.slice (some ⟨b, o, none⟩) l.length cap) := (X0.cell 2).trans rfl; have X0k3 : w1.cell? ⟨w.heap.size, 3, none⟩ = some (.int .i64 p) := (X0.cell 3).trans rfl; have X0k4 : w1.cell? ⟨w.heap.size, 4, none⟩ = some (.int .i64 q) := (X0.cell 4).trans rfl; have X0k5 : w1.cell? ⟨w.heap.size, 5, none⟩ = some (.int .i64 bl) := (X0.cell 5).trans rfl; have X0k6 : w1.cell? ⟨w.heap.size, 6, none⟩ = some (.int .i64 rd) := (X0.cell 6).trans rfl; have X0k7 : w1.cell? ⟨w.heap.size, 7, none⟩ = some (.int .i64 nx) := (X0.cell 7).trans rfl
    go_wp2_with fail
    refine (HG.out _ ((hr'.below hb).mono hb.size)).mono ?_; rintro e w3 hP
    obtain ⟨A5, c5, v2, v3, rfl, O5, N5, h2, h3, b3⟩ := hP
    clear HG h2 O5 N5
    clear X0k0 X0k1 X0k2 X0k3 X0k4 X0k5 X0k6 X0k7
    obtain ⟨A6, c6, rfl, O6, N6⟩ := own_slice h3
    (replace X0 := X0.below b3 X0.lt; replace hb := hb.trans (b3.mono hb.size); have hy := X0.lt; clear b3)
    clear h3 N6 X0 hy
    obtain ⟨sl, sb, sr, sx, scs, fs⟩ := s
    have hfl : fs.length ≤ 60 := by have : fs.length + sb.toNat + sr.toNat ≤ 60 := hfew; omega
    clear hfew
    go_upto_region 4 with (fail)
    have ba : Below w3.heap.size w3 (w3.alloc (.cells #[.int .i64 (r : Int), .int .i64 (c : Int), .slice A5 sl.length c5, .int .i64 p, .int .i64 q, .int .i64 sb, .int .i64 sr, .int .i64 sx] 56)) := (Below.refl _ _).alloc (Nat.le_refl _) _
    replace O6 := O6.keep ba
    replace hb := hb.trans (ba.mono hb.size)
    clear ba
    generalize w3.alloc (.cells #[.int .i64 (r : Int), .int .i64 (c : Int), .slice A5 sl.length c5, .int .i64 p, .int .i64 q, .int .i64 sb, .int .i64 sr, .int .i64 sx] 56) = v6 at *
    have hown : v6.ownsRow w.heap.size 3 1 (.slice none 0 0) 0 [] := World.ownsRow_nil _ _ _ _
    go_wp2
    go_loopw [7, 21] (fun v i wr => ∃ k : Nat, i = .int .i64 k ∧ k ≤ fs.length ∧ wr.ownsRow w.heap.size 3 1 v (arrF (fs.take k)).length (ints (arrF (fs.take k))) ∧ Own wr A6 61 (flatF fs) ∧ Below w.heap.size w wr) (fun _ i _ => fs.length - (intOf i).toNat)
    case atStart => exact ⟨0, rfl, Nat.zero_le _, hown, O6, hb⟩
    case round =>
      clear hown O6 hb
      obtain ⟨k, rfl, hk, hown, O6, hb⟩ := hrel
      have hs := hb.size
      by_cases hlt : k < fs.length
      · obtain ⟨gr, rest, rfl, Xr⟩ := O6 (by rw [flatF_len]; omega)
        obtain ⟨hc0, hc1, hc2⟩ := flatF_at2 fs k hlt
        have hk0 : wr.cell? ⟨gr, k * 3, none⟩ = some (.int .i64 fs[k].1) := (Xr.cell _).trans (by rw [List.getElem?_append_left (by rw [flatF_len]; omega)]; exact hc0)
        have hk1 : wr.cell? ⟨gr, k * 3 + 1, none⟩ = some (.int .i64 fs[k].2.1) := (Xr.cell _).trans (by rw [List.getElem?_append_left (by rw [flatF_len]; omega)]; exact hc1)
        have hk2 : wr.cell? ⟨gr, k * 3 + 2, none⟩ = some (.int .i64 fs[k].2.2) := (Xr.cell _).trans (by rw [List.getElem?_append_left (by rw [flatF_len]; omega)]; exact hc2)
        have HT := Lib.hid (show arrF (fs.take (k + 1)) = if fs[k].1 = 1 then arrF (fs.take k) ++ [fs[k].2.2] else arrF (fs.take k) by rw [List.take_succ_eq_append_getElem hlt, arrF_snoc])
        have HI := Lib.hid (show ∀ (x : List Int) (y : Int), ints (x ++ [y]) = ints x ++ [.int .i64 y] from fun x y => by simp [ints])
        have hkk := arrF_take fs k
        have hgl := Xr.lt
        clear hc0 hc1 hc2
        generalize fs[k].1 = xe at *
        generalize fs[k].2.1 = xr at *
        generalize fs[k].2.2 = xc at *
        generalize hkr : (arrF (fs.take k)).length = kr at *
        by_cases hE : xe = 1
        · subst hE
          rw [if_pos rfl] at HT
          have hownY := (hown.alloc (.cells #[.int .i64 1, .int .i64 xr, .int .i64 xc] 61)).alloc (.cells #[.int .i64 xc] 3)
          have XrY := (Xr.alloc (.cells #[.int .i64 1, .int .i64 xr, .int .i64 xc] 61)).alloc (.cells #[.int .i64 xc] 3)
          have hbY : Below w.heap.size w ((wr.alloc (.cells #[.int .i64 1, .int .i64 xr, .int .i64 xc] 61)).alloc (.cells #[.int .i64 xc] 3)) := (hb.alloc hs _).alloc (by rw [World.size_alloc]; omega) _
          go_upto_region 10 with (first | (at_builtin; go_loud (refine wpList_append_own _ rfl (.tmp 28) (.tmp 31) 35 rfl w.heap.size 3 i0 _ 1 8 Try.underlying35 hi hz0 hz1 hz2 rfl (by omega) u7 kr _ rfl ((hown.alloc _).alloc _) ⟨wr.heap.size + 1, 0, none⟩ 1 1 [.int .i64 xc] rfl rfl one_cellI2 one_oneI (by unfold maxLen; omega) (by omega) (by rw [World.size_alloc, World.size_alloc]; omega) ?_; intro v7 w7 hown7 hg7 _)) | fail)
          have Xr7 := XrY.grown hg7 (row_apart hownY XrY (by decide))
          have hb7 := row_below hownY hbY (by rw [World.size_alloc, World.size_alloc]; omega) hg7
          clear hownY XrY hbY hg7 hown Xr hb hs hk0 hk1 hk2 O6
          go_wp2
          refine ⟨⟨k + 1, by go_num, by omega, ?_, fun _ => ⟨gr, rest, rfl, Xr7⟩, hb7⟩, by simp [intOf]; omega⟩
          rw [HT.out, HI.out, List.length_append, hkr]
          exact hown7
        · have hb1 : (xe == 1) = false := by simpa using hE
          rw [if_neg hE] at HT
          have ba : Below wr.heap.size wr (wr.alloc (.cells #[.int .i64 xe, .int .i64 xr, .int .i64 xc] 61)) := (Below.refl _ _).alloc (Nat.le_refl _) _
          have hown7 := row_keep hown ba
          have O67 := O6.keep ba
          have hb7 := hb.trans (ba.mono hs)
          clear ba hown O6 hb Xr hs hE
          go_wp2
          refine ⟨⟨k + 1, by go_num, by omega, ?_, O67, hb7⟩, by simp [intOf]; omega⟩
          rw [HT.out, hkr]
          exact hown7
      · obtain rfl : k = fs.length := by omega
        rw [List.take_length] at hown
        clear hlt hk
        go_wp2
        go_returns
        exact PostL.of_row rfl hown hb
  · have HO := Lib.hid ho
    rw [ho, if_neg (by decide)]
    clear ho
    go_enter Try.func55, Try.ntmps55
    obtain ⟨v0, hv0⟩ : ∃ v, v = w.alloc (.cells #[.int .i64 R, .int .i64 C, .slice A l.length cap, .int .i64 p, .int .i64 q, .int .i64 bl, .int .i64 rd, .int .i64 nx] 56) := ⟨_, rfl⟩; have X0 : Whole v0 w.heap.size 56 [.int .i64 R, .int .i64 C, .slice A l.length cap, .int .i64 p, .int .i64 q, .int .i64 bl, .int .i64 rd, .int .i64 nx] := (by rw [hv0]; exact heap_alloc_new w _); have hb : Below w.heap.size w v0 := (by rw [hv0]; exact (Below.refl _ _).alloc (Nat.le_refl _) _); have HV := Lib.hid hv0.symm; clear hv0; go_upto_region 1 with (fail); rewrite [HV.out]; clear HV; have hy := X0.lt
    have X0k0 : v0.cell? ⟨w.heap.size, 0, none⟩ = some (.int .i64 R) := (X0.cell 0).trans rfl; have X0k1 : v0.cell? ⟨w.heap.size, 1, none⟩ = some (.int .i64 C) := (X0.cell 1).trans rfl; have X0k2 : v0.cell? ⟨w.heap.size, 2, none⟩ = some (.slice A l.length cap) := (X0.cell 2).trans rfl; have X0k3 : v0.cell? ⟨w.heap.size, 3, none⟩ = some (.int .i64 p) := (X0.cell 3).trans rfl; have X0k4 : v0.cell? ⟨w.heap.size, 4, none⟩ = some (.int .i64 q) := (X0.cell 4).trans rfl; have X0k5 : v0.cell? ⟨w.heap.size, 5, none⟩ = some (.int .i64 bl) := (X0.cell 5).trans rfl; have X0k6 : v0.cell? ⟨w.heap.size, 6, none⟩ = some (.int .i64 rd) := (X0.cell 6).trans rfl; have X0k7 : v0.cell? ⟨w.heap.size, 7, none⟩ = some (.int .i64 nx) := (X0.cell 7).trans rfl
    go_wp2_with fail
    refine (spec_maGood _ _ _ _ l _ _ _ _ _ _ hn ((hr.below hb).mono hb.size)).mono ?_; rintro e w1 ⟨rfl, b1⟩
    clear X0k0 X0k1 X0k2 X0k3 X0k4 X0k5 X0k6 X0k7
    (replace X0 := X0.below b1 X0.lt; replace hb := hb.trans (b1.mono hb.size); have hy := X0.lt; clear b1)
    rewrite [HO.out]
    go_wp2
    go_returns
    exact PostL.none_ hb
theorem impl_ArrivalColumns (R C : Int) (A : Option Addr) (cap : Nat) (l : List (Int × Int)) (p q bl rd nx : Int) (w : World) (hn : l.length ≤ 1048576) (hr : Rd w w.heap.size A (flat l)) :
    Calls Try.prog 56 #[.agg #[.int .i64 R, .int .i64 C, .slice A l.length cap, .int .i64 p, .int .i64 q, .int .i64 bl, .int .i64 rd, .int .i64 nx]] w (PostL w (arrF (finO R C l p q bl rd nx).fs) (okM R C l p q bl rd nx)) := by
  unfold finO
  rcases Bool.eq_false_or_eq_true (okM R C l p q bl rd nx) with ho | ho
  · rw [ho, if_pos rfl]
    obtain ⟨i0, hi, hz0, hz1, hz2⟩ := info_parts intInfo
    obtain ⟨r, c, rfl, rfl, hG, hg, hp, hq⟩ := okM_ints ho
    obtain ⟨_, _, hpos⟩ := goodB_parts hg
    obtain ⟨b, o, rfl, hbl, hc⟩ := hr (by rw [flat_length]; omega)
    have hr' : Rd w w.heap.size (some ⟨b, o, none⟩) (flat l) := fun _ => ⟨b, o, rfl, hbl, hc⟩
    have hmk := MOk.run hp hq 60 _ (MOk.start ho)
    have HG := Lib.hid (fun w' h => impl_runSteps_yes r c b o cap l p q bl rd nx 60 w' ho (by omega) h)
    generalize runM (r : Int) (c : Int) p q 60 ⟨l, bl, rd, nx, [], []⟩ = s at *
    have HCs := Lib.hid (relS_fs hmk.same)
    have hrl : (relS s).length ≤ 60 := by have := hmk.few; rw [relS_len hmk.same]; omega
    rewrite [← HCs.out]
    clear ho hr hG hg hp hq hc hbl hmk
    go_enter Try.func56, Try.ntmps56
    obtain ⟨v0, hv0⟩ : ∃ v, v = w.alloc (.cells #[.int .i64 (r : Int), .int .i64 (c : Int), .slice (some ⟨b, o, none⟩) l.length cap, .int .i64 p, .int .i64 q, .int .i64 bl, .int .i64 rd, .int .i64 nx] 56) := ⟨_, rfl⟩; have X0 : Whole v0 w.heap.size 56 [.int .i64 (r : Int), .int .i64 (c : Int), .slice (some ⟨b, o, none⟩) l.length cap, .int .i64 p, .int .i64 q, .int .i64 bl, .int .i64 rd, .int .i64 nx] := (by rw [hv0]; exact heap_alloc_new w _); have hb : Below w.heap.size w v0 := (by rw [hv0]; exact (Below.refl _ _).alloc (Nat.le_refl _) _); have HV := Lib.hid hv0.symm; clear hv0; go_upto_region 1 with (fail); rewrite [HV.out]; clear HV; have hy := X0.lt
    have X0k0 : v0.cell? ⟨w.heap.size, 0, none⟩ = some (.int .i64 (r : Int)) := (X0.cell 0).trans rfl; have X0k1 : v0.cell? ⟨w.heap.size, 1, none⟩ = some (.int .i64 (c : Int)) := (X0.cell 1).trans rfl; have X0k2 : v0.cell? ⟨w.heap.size, 2, none⟩ = some (.slice (some ⟨b, o, none⟩) l.length cap) := (X0.cell 2).trans rfl; have X0k3 : v0.cell? ⟨w.heap.size, 3, none⟩ = some (.int .i64 p) := (X0.cell 3).trans rfl; have X0k4 : v0.cell? ⟨w.heap.size, 4, none⟩ = some (.int .i64 q) := (X0.cell 4).trans rfl; have X0k5 : v0.cell? ⟨w.heap.size, 5, none⟩ = some (.int .i64 bl) := (X0.cell 5).trans rfl; have X0k6 : v0.cell? ⟨w.heap.size, 6, none⟩ = some (.int .i64 rd) := (X0.cell 6).trans rfl; have X0k7 : v0.cell? ⟨w.heap.size, 7, none⟩ = some (.int .i64 nx) := (X0.cell 7).trans rfl
    go_wp2_with fail
    refine (HG.out _ ((hr'.below hb).mono hb.size)).mono ?_; rintro e w3 hP
    obtain ⟨A5, c5, v2, rfl, O5, N5, h2, b3⟩ := hP
    clear HG O5 N5
    clear X0k0 X0k1 X0k2 X0k3 X0k4 X0k5 X0k6 X0k7
    obtain ⟨A6, c6, rfl, O6, N6⟩ := own_slice h2
    (replace X0 := X0.below b3 X0.lt; replace hb := hb.trans (b3.mono hb.size); have hy := X0.lt; clear b3)
    clear h2 N6 X0 hy
    generalize hRs : relS s = rs at *
    have HRs := Lib.hid hRs
    clear hRs
    obtain ⟨sl, sb, sr, sx, scs, sfs⟩ := s
    go_upto_region 2 with (fail)
    have ba : Below w3.heap.size w3 (w3.alloc (.cells #[.int .i64 (r : Int), .int .i64 (c : Int), .slice A5 sl.length c5, .int .i64 p, .int .i64 q, .int .i64 sb, .int .i64 sr, .int .i64 sx] 56)) := (Below.refl _ _).alloc (Nat.le_refl _) _
    replace O6 := O6.keep ba
    replace hb := hb.trans (ba.mono hb.size)
    clear ba
    generalize w3.alloc (.cells #[.int .i64 (r : Int), .int .i64 (c : Int), .slice A5 sl.length c5, .int .i64 p, .int .i64 q, .int .i64 sb, .int .i64 sr, .int .i64 sx] 56) = v6 at *
    have hown : v6.ownsRow w.heap.size 3 1 (.slice none 0 0) 0 [] := World.ownsRow_nil _ _ _ _
    go_wp2
    go_loopw [7, 20] (fun v i wr => ∃ k : Nat, i = .int .i64 k ∧ k ≤ rs.length ∧ wr.ownsRow w.heap.size 3 1 v (arrF ((rs.take k).map (·.2))).length (ints (arrF ((rs.take k).map (·.2)))) ∧ Own wr A6 117 (flatR rs) ∧ Below w.heap.size w wr) (fun _ i _ => rs.length - (intOf i).toNat)
    case atStart => exact ⟨0, rfl, Nat.zero_le _, hown, O6, hb⟩
    case round =>
      clear hown O6 hb
      obtain ⟨k, rfl, hk, hown, O6, hb⟩ := hrel
      have hs := hb.size
      by_cases hlt : k < rs.length
      · obtain ⟨gr, rest, rfl, Xr⟩ := O6 (by rw [flatR_len]; omega)
        obtain ⟨hc0, hc1⟩ := flatR_at rs k hlt
        obtain ⟨T, ev, hE⟩ := endV_iface rs[k].2
        rw [hE] at hc1
        have hk0 : wr.cell? ⟨gr, k * 2, none⟩ = some (.int .i64 rs[k].1) := (Xr.cell _).trans (by rw [List.getElem?_append_left (by rw [flatR_len]; omega)]; exact hc0)
        have hk1 : wr.cell? ⟨gr, k * 2 + 1, none⟩ = some (.iface T ev) := (Xr.cell _).trans (by rw [List.getElem?_append_left (by rw [flatR_len]; omega)]; exact hc1)
        have HT := Lib.hid (show arrF ((rs.take (k + 1)).map (·.2)) = if rs[k].2.1 = 1 then arrF ((rs.take k).map (·.2)) ++ [rs[k].2.2.2] else arrF ((rs.take k).map (·.2)) by rw [List.take_succ_eq_append_getElem hlt, List.map_append]; exact arrF_snoc _ _)
        have HI := Lib.hid (show ∀ (x : List Int) (y : Int), ints (x ++ [y]) = ints x ++ [.int .i64 y] from fun x y => by simp [ints])
        have hkk : (arrF ((rs.take k).map (·.2))).length ≤ k := by
          have := arrF_len ((rs.take k).map (·.2))
          rw [List.length_map, List.length_take] at this
          omega
        have HC := impl_arrivalColumn rs[k].2
        rw [hE] at HC
        have hgl := Xr.lt
        clear hc0 hc1 hE
        generalize rs[k].1 = x at *
        generalize rs[k].2 = f at *
        generalize hkr : (arrF ((rs.take k).map (·.2))).length = kr at *
        go_wp2_with fail
        refine (HC _).mono ?_; rintro e w5 ⟨rfl, b5⟩
        clear HC
        have ba : Below wr.heap.size wr (wr.alloc (.cells #[.int .i64 x, .iface T ev] 117)) := (Below.refl _ _).alloc (Nat.le_refl _) _
        replace hown := row_keep (row_keep hown ba) b5
        replace Xr := (Xr.below ba Xr.lt).below b5 (Xr.below ba Xr.lt).lt
        replace hb := (hb.trans (ba.mono hs)).trans (b5.mono (hb.trans (ba.mono hs)).size)
        replace hs := hb.size
        clear ba b5 hk0 hk1 O6 hgl
        by_cases hE : f.1 = 1
        · rw [if_pos hE] at HT
          rewrite [if_pos hE, decide_eq_true hE]
          generalize f.2.2 = xc at *
          have hownY := hown.alloc (.cells #[.int .i64 xc] 3)
          have XrY := Xr.alloc (.cells #[.int .i64 xc] 3)
          have hbY : Below w.heap.size w (w5.alloc (.cells #[.int .i64 xc] 3)) := hb.alloc hs _
          go_upto_region 9 with (first | (at_builtin; go_loud (refine wpList_append_own _ rfl (.tmp 31) (.tmp 33) 35 rfl w.heap.size 3 i0 _ 1 8 Try.underlying35 hi hz0 hz1 hz2 rfl (by omega) u7 kr _ rfl (hown.alloc _) ⟨w5.heap.size, 0, none⟩ 1 1 [.int .i64 xc] rfl rfl one_cellI one_oneI (by unfold maxLen; omega) (by omega) (by rw [World.size_alloc]; omega) ?_; intro v7 w7 hown7 hg7 _)) | fail)
          have Xr7 := XrY.grown hg7 (row_apart hownY XrY (by decide))
          have hb7 := row_below hownY hbY (by rw [World.size_alloc]; omega) hg7
          clear hownY XrY hbY hg7 hown Xr hb hs hE
          go_wp2
          refine ⟨⟨k + 1, by go_num, by omega, ?_, fun _ => ⟨gr, rest, rfl, Xr7⟩, hb7⟩, by simp [intOf]; omega⟩
          rw [HT.out, HI.out, List.length_append, hkr]
          exact hown7
        · rw [if_neg hE] at HT
          rewrite [if_neg hE, decide_eq_false hE]
          clear hE
          go_wp2
          refine ⟨⟨k + 1, by go_num, by omega, ?_, fun _ => ⟨gr, rest, rfl, Xr⟩, hb⟩, by simp [intOf]; omega⟩
          rw [HT.out, hkr]
          exact hown
      · obtain rfl : k = rs.length := by omega
        rw [List.take_length] at hown
        clear hlt hk
        go_wp2
        go_returns
        rewrite [HRs.out]
        exact PostL.of_row rfl hown hb
  · rw [ho, if_neg (by decide)]
    have HG := Lib.hid (fun w' h => impl_runSteps_no R C A cap l p q bl rd nx 60 w' ho hn h)
    clear ho
    go_enter Try.func56, Try.ntmps56
    obtain ⟨v0, hv0⟩ : ∃ v, v = w.alloc (.cells #[.int .i64 R, .int .i64 C, .slice A l.length cap, .int .i64 p, .int .i64 q, .int .i64 bl, .int .i64 rd, .int .i64 nx] 56) := ⟨_, rfl⟩; have X0 : Whole v0 w.heap.size 56 [.int .i64 R, .int .i64 C, .slice A l.length cap, .int .i64 p, .int .i64 q, .int .i64 bl, .int .i64 rd, .int .i64 nx] := (by rw [hv0]; exact heap_alloc_new w _); have hb : Below w.heap.size w v0 := (by rw [hv0]; exact (Below.refl _ _).alloc (Nat.le_refl _) _); have HV := Lib.hid hv0.symm; clear hv0; go_upto_region 1 with (fail); rewrite [HV.out]; clear HV; have hy := X0.lt
    have X0k0 : v0.cell? ⟨w.heap.size, 0, none⟩ = some (.int .i64 R) := (X0.cell 0).trans rfl; have X0k1 : v0.cell? ⟨w.heap.size, 1, none⟩ = some (.int .i64 C) := (X0.cell 1).trans rfl; have X0k2 : v0.cell? ⟨w.heap.size, 2, none⟩ = some (.slice A l.length cap) := (X0.cell 2).trans rfl; have X0k3 : v0.cell? ⟨w.heap.size, 3, none⟩ = some (.int .i64 p) := (X0.cell 3).trans rfl; have X0k4 : v0.cell? ⟨w.heap.size, 4, none⟩ = some (.int .i64 q) := (X0.cell 4).trans rfl; have X0k5 : v0.cell? ⟨w.heap.size, 5, none⟩ = some (.int .i64 bl) := (X0.cell 5).trans rfl; have X0k6 : v0.cell? ⟨w.heap.size, 6, none⟩ = some (.int .i64 rd) := (X0.cell 6).trans rfl; have X0k7 : v0.cell? ⟨w.heap.size, 7, none⟩ = some (.int .i64 nx) := (X0.cell 7).trans rfl
    go_wp2_with fail
    refine (HG.out _ ((hr.below hb).mono hb.size)).mono ?_; rintro e w3 ⟨rfl, b3⟩
    clear HG
    clear X0k0 X0k1 X0k2 X0k3 X0k4 X0k5 X0k6 X0k7
    (replace X0 := X0.below b3 X0.lt; replace hb := hb.trans (b3.mono hb.size); have hy := X0.lt; clear b3)
    go_upto_region 2 with (fail)
    replace hb : Below w.heap.size w (w3.alloc (.cells #[.int .i64 0, .int .i64 0, .slice none 0 0, .int .i64 0, .int .i64 0, .int .i64 0, .int .i64 0, .int .i64 0] 56)) := hb.alloc hb.size _
    generalize w3.alloc (.cells #[.int .i64 0, .int .i64 0, .slice none 0 0, .int .i64 0, .int .i64 0, .int .i64 0, .int .i64 0, .int .i64 0] 56) = v6 at *
    clear X0 hy
    go_wp2
    go_rounds 1
    go_returns
    exact PostL.none_ hb
end Go.Proofs.Ytpfjbecpfdgnpaa
namespace Go.Proofs.Ytpfjbecpfdgnpaa
open Go.ChangeShapes Go.WideShapes Go.ChangeAt Go.RowKit Go.Joins Go.Deep
set_option linter.unusedSimpArgs false
set_option linter.unusedVariables false
set_option maxRecDepth 100000
set_option maxHeartbeats 4000000
/-- How many marbles of a colour arrive. -/
def cntC (x : Int) (rs : List (Int × Int × Int × Int)) : Int := ((rs.filter fun r => decide (r.2.1 = 1 ∧ r.1 = x)).length : Nat)
theorem cntC_snoc (x : Int) (rs : List (Int × Int × Int × Int)) (r : Int × Int × Int × Int) : cntC x (rs ++ [r]) = cntC x rs + (if r.2.1 = 1 ∧ r.1 = x then 1 else 0) := by
  unfold cntC
  rw [List.filter_append, List.length_append]
  by_cases h : r.2.1 = 1 ∧ r.1 = x
  · rw [if_pos h, List.filter_cons_of_pos (by simpa using h)]
    simp
  · rw [if_neg h, List.filter_cons_of_neg (by simpa using h)]
    simp
theorem cntC_bd (x : Int) (rs : List (Int × Int × Int × Int)) (k : Nat) : 0 ≤ cntC x (rs.take k) ∧ cntC x (rs.take k) ≤ k := by
  unfold cntC
  have h1 := List.length_filter_le (fun r : Int × Int × Int × Int => decide (r.2.1 = 1 ∧ r.1 = x)) (rs.take k)
  rw [List.length_take] at h1
  omega
theorem zip_take {cs : List Int} {fs : List (Int × Int × Int)} (h : cs.length = fs.length) {k : Nat} (hk : k < fs.length) : (cs.zip fs).take (k + 1) = (cs.zip fs).take k ++ [(cs[k], fs[k])] := by
  rw [List.take_succ_eq_append_getElem (by rw [List.length_zip]; omega), List.getElem_zip]
theorem spec_ArrivedColours (R C : Int) (A : Option Addr) (cap : Nat) (l : List (Int × Int)) (p q bl rd nx : Int) (w : World) (hn : l.length ≤ 1048576) (hr : Rd w w.heap.size A (flat l)) :
    Calls Try.prog 57 #[.agg #[.int .i64 R, .int .i64 C, .slice A l.length cap, .int .i64 p, .int .i64 q, .int .i64 bl, .int .i64 rd, .int .i64 nx]] w fun e w' => e = .returned (.tuple #[.int .i64 (cntC 0 (relS (finO R C l p q bl rd nx))), .int .i64 (cntC 1 (relS (finO R C l p q bl rd nx))), .bool (okM R C l p q bl rd nx)]) ∧ Below w.heap.size w w' := by
  unfold finO
  rcases Bool.eq_false_or_eq_true (okM R C l p q bl rd nx) with ho | ho
  · have HO := Lib.hid ho
    rw [ho, if_pos rfl]
    obtain ⟨r, c, rfl, rfl, hG, hg, hp, hq⟩ := okM_ints ho
    obtain ⟨_, _, hpos⟩ := goodB_parts hg
    obtain ⟨b, o, rfl, hbl, hc⟩ := hr (by rw [flat_length]; omega)
    have hr' : Rd w w.heap.size (some ⟨b, o, none⟩) (flat l) := fun _ => ⟨b, o, rfl, hbl, hc⟩
    have hmk := MOk.run hp hq 60 _ (MOk.start ho)
    have hm2 := MOk2.run (r := r) hp hq 60 _ (MOk2.start c l bl rd nx)
    have hfew := hmk.few
    have hsm := hmk.same
    have hcc := hm2.cs
    have HG := Lib.hid (fun w' h => spec_maRun r c b o cap l p q bl rd nx 60 w' ho (by omega) h)
    generalize runM (r : Int) (c : Int) p q 60 ⟨l, bl, rd, nx, [], []⟩ = s at *
    clear ho hr hG hg hp hq hc hbl hmk hm2
    go_enter Try.func57, Try.ntmps57
    obtain ⟨v0, hv0⟩ : ∃ v, v = w.alloc (.cells #[.int .i64 (r : Int), .int .i64 (c : Int), .slice (some ⟨b, o, none⟩) l.length cap, .int .i64 p, .int .i64 q, .int .i64 bl, .int .i64 rd, .int .i64 nx] 56) := ⟨_, rfl⟩; have X0 : Whole v0 w.heap.size 56 [.int .i64 (r : Int), .int .i64 (c : Int), .slice (some ⟨b, o, none⟩) l.length cap, .int .i64 p, .int .i64 q, .int .i64 bl, .int .i64 rd, .int .i64 nx] := (by rw [hv0]; exact heap_alloc_new w _); have hb : Below w.heap.size w v0 := (by rw [hv0]; exact (Below.refl _ _).alloc (Nat.le_refl _) _); have HV := Lib.hid hv0.symm; clear hv0; go_upto_region 1 with (fail); rewrite [HV.out]; clear HV; have hy := X0.lt
    have X0k0 : v0.cell? ⟨w.heap.size, 0, none⟩ = some (.int .i64 (r : Int)) := (X0.cell 0).trans rfl; have X0k1 : v0.cell? ⟨w.heap.size, 1, none⟩ = some (.int .i64 (c : Int)) := (X0.cell 1).trans rfl; have X0k2 : v0.cell? ⟨w.heap.size, 2, none⟩ = some (.slice (some ⟨b, o, none⟩) l.length cap) := (X0.cell 2).trans rfl; have X0k3 : v0.cell? ⟨w.heap.size, 3, none⟩ = some (.int .i64 p) := (X0.cell 3).trans rfl; have X0k4 : v0.cell? ⟨w.heap.size, 4, none⟩ = some (.int .i64 q) := (X0.cell 4).trans rfl; have X0k5 : v0.cell? ⟨w.heap.size, 5, none⟩ = some (.int .i64 bl) := (X0.cell 5).trans rfl; have X0k6 : v0.cell? ⟨w.heap.size, 6, none⟩ = some (.int .i64 rd) := (X0.cell 6).trans rfl; have X0k7 : v0.cell? ⟨w.heap.size, 7, none⟩ = some (.int .i64 nx) := (X0.cell 7).trans rfl
    go_wp2_with fail
    refine (spec_maGood _ _ _ _ l _ _ _ _ _ _ hn ((hr'.below hb).mono hb.size)).mono ?_; rintro e w1 ⟨rfl, b1⟩
    clear X0k0 X0k1 X0k2 X0k3 X0k4 X0k5 X0k6 X0k7
    (replace X0 := X0.below b1 X0.lt; replace hb := hb.trans (b1.mono hb.size); have hy := X0.lt; clear b1)
    rewrite [HO.out]
    have X0k0 : w1.cell? ⟨w.heap.size, 0, none⟩ = some (.int .i64 (r : Int)) := (X0.cell 0).trans rfl; have X0k1 : w1.cell? ⟨w.heap.size, 1, none⟩ = some (.int .i64 (c : Int)) := (X0.cell 1).trans rfl; have X0k2 : w1.cell? ⟨w.heap.size, 2, none⟩ = some (.slice (some ⟨b, o, none⟩) l.length cap) := (X0.cell 2).trans rfl; have X0k3 : w1.cell? ⟨w.heap.size, 3, none⟩ = some (.int .i64 p) := (X0.cell 3).trans rfl; have X0k4 : w1.cell? ⟨w.heap.size, 4, none⟩ = some (.int .i64 q) := (X0.cell 4).trans rfl; have X0k5 : w1.cell? ⟨w.heap.size, 5, none⟩ = some (.int .i64 bl) := (X0.cell 5).trans rfl; have X0k6 : w1.cell? ⟨w.heap.size, 6, none⟩ = some (.int .i64 rd) := (X0.cell 6).trans rfl; have X0k7 : w1.cell? ⟨w.heap.size, 7, none⟩ = some (.int .i64 nx) := (X0.cell 7).trans rfl
    go_wp2_with fail
    refine (HG.out _ ((hr'.below hb).mono hb.size)).mono ?_; rintro e w3 hP
    obtain ⟨A5, c5, v2, v3, rfl, O5, N5, h2, h3, b3⟩ := hP
    clear HG O5 N5
    clear X0k0 X0k1 X0k2 X0k3 X0k4 X0k5 X0k6 X0k7
    obtain ⟨A6, c6, rfl, O6, N6⟩ := own_slice h3
    obtain ⟨Ac, cc, rfl, Oc, Nc⟩ := own_slice h2
    (replace X0 := X0.below b3 X0.lt; replace hb := hb.trans (b3.mono hb.size); have hy := X0.lt; clear b3)
    clear h3 h2 N6 Nc X0 hy
    obtain ⟨sl, sb, sr, sx, cs, fs⟩ := s
    have hfl : fs.length ≤ 60 := by have : fs.length + sb.toNat + sr.toNat ≤ 60 := hfew; omega
    have hsm' : cs.length = fs.length := hsm
    have hcc' : ∀ x ∈ cs, x = 0 ∨ x = 1 := hcc
    have HRs := Lib.hid (show relS ⟨sl, sb, sr, sx, cs, fs⟩ = cs.zip fs from rfl)
    have HTk := Lib.hid (fun k (hk : k < fs.length) => zip_take hsm' hk)
    clear hfew hsm hcc
    go_upto_region 4 with (fail)
    have ba : Below w3.heap.size w3 (w3.alloc (.cells #[.int .i64 (r : Int), .int .i64 (c : Int), .slice A5 sl.length c5, .int .i64 p, .int .i64 q, .int .i64 sb, .int .i64 sr, .int .i64 sx] 56)) := (Below.refl _ _).alloc (Nat.le_refl _) _
    replace O6 := O6.keep ba
    replace Oc := Oc.keep ba
    replace hb := hb.trans (ba.mono hb.size)
    clear ba
    generalize w3.alloc (.cells #[.int .i64 (r : Int), .int .i64 (c : Int), .slice A5 sl.length c5, .int .i64 p, .int .i64 q, .int .i64 sb, .int .i64 sr, .int .i64 sx] 56) = v6 at *
    have hmk2 : (Instr.makeSlice 35 (.int .i64 2) (.int .i64 2)).run Try.prog v6 = .ok (.slice (some ⟨v6.heap.size, 0, none⟩) 2 2) (v6.alloc (.cells #[.int .i64 0, .int .i64 0] 3)) := run_make_ints 2 (by omega) v6
    go_upto_region 5 with (fail)
    have XO : Whole (v6.alloc (.cells #[.int .i64 0, .int .i64 0] 3)) v6.heap.size 3 [.int .i64 0, .int .i64 0] := heap_alloc_new v6 _
    have ba : Below v6.heap.size v6 (v6.alloc (.cells #[.int .i64 0, .int .i64 0] 3)) := (Below.refl _ _).alloc (Nat.le_refl _) _
    have hAc : 0 < cs.length → ∀ a, Ac = some a → a.block < v6.heap.size := fun h a ha => Oc.lt (pos_ints h) ha
    have hgO : w.heap.size ≤ v6.heap.size := hb.size
    replace O6 := O6.keep ba
    replace Oc := Oc.keep ba
    replace hb := hb.trans (ba.mono hb.size)
    clear ba hmk2
    generalize v6.alloc (.cells #[.int .i64 0, .int .i64 0] 3) = v7 at *
    generalize v6.heap.size = gO at *
    go_wp2
    go_loopw [23] (fun i wr => ∃ k : Nat, i = .int .i64 k ∧ k ≤ fs.length ∧ Whole wr gO 3 [.int .i64 (cntC 0 ((cs.zip fs).take k)), .int .i64 (cntC 1 ((cs.zip fs).take k))] ∧ Own wr A6 61 (flatF fs) ∧ Own wr Ac 3 (ints cs) ∧ Below w.heap.size w wr) (fun i _ => fs.length - (intOf i).toNat)
    case atStart => exact ⟨0, rfl, Nat.zero_le _, XO, O6, Oc, hb⟩
    case round =>
      clear O6 hb XO Oc
      obtain ⟨k, rfl, hk, XO, O6, Oc, hb⟩ := hrel
      have hs := hb.size
      by_cases hlt : k < fs.length
      · obtain ⟨gr, rest, rfl, Xr⟩ := O6 (by rw [flatF_len]; omega)
        obtain ⟨gc, restc, rfl, Xc⟩ := Oc (by rw [ints_length]; omega)
        have hgc : gc < gO := hAc (by omega) _ rfl
        obtain ⟨hc0, hc1, hc2⟩ := flatF_at2 fs k hlt
        have hltc : k < cs.length := by omega
        have hk0 : wr.cell? ⟨gr, k * 3, none⟩ = some (.int .i64 fs[k].1) := (Xr.cell _).trans (by rw [List.getElem?_append_left (by rw [flatF_len]; omega)]; exact hc0)
        have hk1 : wr.cell? ⟨gr, k * 3 + 1, none⟩ = some (.int .i64 fs[k].2.1) := (Xr.cell _).trans (by rw [List.getElem?_append_left (by rw [flatF_len]; omega)]; exact hc1)
        have hk2 : wr.cell? ⟨gr, k * 3 + 2, none⟩ = some (.int .i64 fs[k].2.2) := (Xr.cell _).trans (by rw [List.getElem?_append_left (by rw [flatF_len]; omega)]; exact hc2)
        have hkc : wr.cell? ⟨gc, k, none⟩ = some (.int .i64 cs[k]) := (Xc.cell _).trans (by rw [List.getElem?_append_left (by rw [ints_length]; omega)]; exact ints_at cs k hltc)
        have hx := hcc' cs[k] (List.getElem_mem _)
        have hT := HTk.out k hlt
        have HT0 := Lib.hid (show cntC 0 ((cs.zip fs).take (k + 1)) = cntC 0 ((cs.zip fs).take k) + (if fs[k].1 = 1 ∧ cs[k] = 0 then 1 else 0) by rw [hT]; exact cntC_snoc _ _ _)
        have HT1 := Lib.hid (show cntC 1 ((cs.zip fs).take (k + 1)) = cntC 1 ((cs.zip fs).take k) + (if fs[k].1 = 1 ∧ cs[k] = 1 then 1 else 0) by rw [hT]; exact cntC_snoc _ _ _)
        obtain ⟨b00, b01⟩ := cntC_bd 0 (cs.zip fs) k
        obtain ⟨b10, b11⟩ := cntC_bd 1 (cs.zip fs) k
        have hgl := Xr.lt
        have hgcl := Xc.lt
        have hgOl := XO.lt
        have hne6 : gO ≠ gr := fun e => by subst e; exact own_apart (A := some ⟨gO, 0, none⟩) (fun _ => ⟨gO, rest, rfl, Xr⟩) XO (by decide) (by rw [flatF_len]; omega) rfl rfl
        have hnec : gO ≠ gc := by omega
        clear hc0 hc1 hc2 hT
        generalize fs[k].1 = xe at *
        generalize fs[k].2.1 = xr at *
        generalize fs[k].2.2 = xc at *
        generalize cs[k] = x at *
        generalize cntC 0 ((cs.zip fs).take k) = n0 at *
        generalize cntC 1 ((cs.zip fs).take k) = n1 at *
        have ba : Below wr.heap.size wr (wr.alloc (.cells #[.int .i64 xe, .int .i64 xr, .int .i64 xc] 61)) := (Below.refl _ _).alloc (Nat.le_refl _) _
        have Xr7 := Xr.below ba Xr.lt
        have Xc7 := Xc.below ba Xc.lt
        have XO7 := XO.below ba XO.lt
        have hb7 := hb.trans (ba.mono hs)
        have XOk0 : wr.cell? ⟨gO, 0, none⟩ = some (.int .i64 n0) := (XO.cell 0).trans rfl
        have XOk1 : wr.cell? ⟨gO, 1, none⟩ = some (.int .i64 n1) := (XO.cell 1).trans rfl
        have XOf0 := XO.frozen 0
        have XOf1 := XO.frozen 1
        clear ba O6 Oc
        by_cases hE : xe = 1
        · subst hE
          rcases hx with rfl | rfl
          · have m1 : IntKind.i64.wrap (n0 + 1) = n0 + 1 := IntWalk.i64_in _ (by omega)
            rw [if_pos ⟨rfl, rfl⟩] at HT0
            rw [if_neg (by omega), Int.add_zero] at HT1
            go_wp2
            refine ⟨⟨k + 1, by go_num, by omega, ?_, fun _ => ⟨gr, rest, rfl, (Xr.set_far _ _ hne6).alloc _⟩, fun _ => ⟨gc, restc, rfl, (Xc.set_far _ _ hnec).alloc _⟩, (hb.setCell (p := ⟨gO, 0, none⟩) hgO _).alloc (by rw [World.size_setCell]; exact hs) _⟩, by simp [intOf]; omega⟩
            rw [HT0.out, HT1.out]
            exact (XO.set 0 _).alloc _
          · have m1 : IntKind.i64.wrap (n1 + 1) = n1 + 1 := IntWalk.i64_in _ (by omega)
            rw [if_neg (by omega), Int.add_zero] at HT0
            rw [if_pos ⟨rfl, rfl⟩] at HT1
            go_wp2
            refine ⟨⟨k + 1, by go_num, by omega, ?_, fun _ => ⟨gr, rest, rfl, (Xr.set_far _ _ hne6).alloc _⟩, fun _ => ⟨gc, restc, rfl, (Xc.set_far _ _ hnec).alloc _⟩, (hb.setCell (p := ⟨gO, 1, none⟩) hgO _).alloc (by rw [World.size_setCell]; exact hs) _⟩, by simp [intOf]; omega⟩
            rw [HT0.out, HT1.out]
            exact (XO.set 1 _).alloc _
        · have hb1 : (xe == 1) = false := by simpa using hE
          rw [if_neg (fun h => hE h.1), Int.add_zero] at HT0 HT1
          clear hE
          go_wp2
          refine ⟨⟨k + 1, by go_num, by omega, ?_, fun _ => ⟨gr, rest, rfl, Xr7⟩, fun _ => ⟨gc, restc, rfl, Xc7⟩, hb7⟩, by simp [intOf]; omega⟩
          rw [HT0.out, HT1.out]
          exact XO7
      · obtain rfl : k = fs.length := by omega
        rw [List.take_of_length_le (by rw [List.length_zip]; omega)] at XO
        have XOk0 : wr.cell? ⟨gO, 0, none⟩ = some (.int .i64 (cntC 0 (cs.zip fs))) := (XO.cell 0).trans rfl
        have XOk1 : wr.cell? ⟨gO, 1, none⟩ = some (.int .i64 (cntC 1 (cs.zip fs))) := (XO.cell 1).trans rfl
        have hgOl := XO.lt
        go_upto_region 11 with (fail)
        go_region
        go_wp2
        go_returns
        exact ⟨by rw [HRs.out]; rfl, hb.drew⟩
  · have HO := Lib.hid ho
    rw [ho, if_neg (by decide)]
    clear ho
    go_enter Try.func57, Try.ntmps57
    obtain ⟨v0, hv0⟩ : ∃ v, v = w.alloc (.cells #[.int .i64 R, .int .i64 C, .slice A l.length cap, .int .i64 p, .int .i64 q, .int .i64 bl, .int .i64 rd, .int .i64 nx] 56) := ⟨_, rfl⟩; have X0 : Whole v0 w.heap.size 56 [.int .i64 R, .int .i64 C, .slice A l.length cap, .int .i64 p, .int .i64 q, .int .i64 bl, .int .i64 rd, .int .i64 nx] := (by rw [hv0]; exact heap_alloc_new w _); have hb : Below w.heap.size w v0 := (by rw [hv0]; exact (Below.refl _ _).alloc (Nat.le_refl _) _); have HV := Lib.hid hv0.symm; clear hv0; go_upto_region 1 with (fail); rewrite [HV.out]; clear HV; have hy := X0.lt
    have X0k0 : v0.cell? ⟨w.heap.size, 0, none⟩ = some (.int .i64 R) := (X0.cell 0).trans rfl; have X0k1 : v0.cell? ⟨w.heap.size, 1, none⟩ = some (.int .i64 C) := (X0.cell 1).trans rfl; have X0k2 : v0.cell? ⟨w.heap.size, 2, none⟩ = some (.slice A l.length cap) := (X0.cell 2).trans rfl; have X0k3 : v0.cell? ⟨w.heap.size, 3, none⟩ = some (.int .i64 p) := (X0.cell 3).trans rfl; have X0k4 : v0.cell? ⟨w.heap.size, 4, none⟩ = some (.int .i64 q) := (X0.cell 4).trans rfl; have X0k5 : v0.cell? ⟨w.heap.size, 5, none⟩ = some (.int .i64 bl) := (X0.cell 5).trans rfl; have X0k6 : v0.cell? ⟨w.heap.size, 6, none⟩ = some (.int .i64 rd) := (X0.cell 6).trans rfl; have X0k7 : v0.cell? ⟨w.heap.size, 7, none⟩ = some (.int .i64 nx) := (X0.cell 7).trans rfl
    go_wp2_with fail
    refine (spec_maGood _ _ _ _ l _ _ _ _ _ _ hn ((hr.below hb).mono hb.size)).mono ?_; rintro e w1 ⟨rfl, b1⟩
    clear X0k0 X0k1 X0k2 X0k3 X0k4 X0k5 X0k6 X0k7
    (replace X0 := X0.below b1 X0.lt; replace hb := hb.trans (b1.mono hb.size); have hy := X0.lt; clear b1)
    rewrite [HO.out]
    go_wp2
    go_returns
    exact ⟨rfl, hb⟩
theorem impl_ArrivedColours (R C : Int) (A : Option Addr) (cap : Nat) (l : List (Int × Int)) (p q bl rd nx : Int) (w : World) (hn : l.length ≤ 1048576) (hr : Rd w w.heap.size A (flat l)) :
    Calls Try.prog 58 #[.agg #[.int .i64 R, .int .i64 C, .slice A l.length cap, .int .i64 p, .int .i64 q, .int .i64 bl, .int .i64 rd, .int .i64 nx]] w fun e w' => e = .returned (.tuple #[.int .i64 (cntC 0 (relS (finO R C l p q bl rd nx))), .int .i64 (cntC 1 (relS (finO R C l p q bl rd nx))), .bool (okM R C l p q bl rd nx)]) ∧ Below w.heap.size w w' := by
  unfold finO
  rcases Bool.eq_false_or_eq_true (okM R C l p q bl rd nx) with ho | ho
  · rw [ho, if_pos rfl]
    obtain ⟨r, c, rfl, rfl, hG, hg, hp, hq⟩ := okM_ints ho
    obtain ⟨_, _, hpos⟩ := goodB_parts hg
    obtain ⟨b, o, rfl, hbl, hc⟩ := hr (by rw [flat_length]; omega)
    have hr' : Rd w w.heap.size (some ⟨b, o, none⟩) (flat l) := fun _ => ⟨b, o, rfl, hbl, hc⟩
    have hmk := MOk.run hp hq 60 _ (MOk.start ho)
    have HG := Lib.hid (fun w' h => impl_runSteps_yes r c b o cap l p q bl rd nx 60 w' ho (by omega) h)
    generalize hgen : runM (r : Int) (c : Int) p q 60 ⟨l, bl, rd, nx, [], []⟩ = s at *
    have HCs := Lib.hid (relS_fs hmk.same)
    have hrl : (relS s).length ≤ 60 := by have := hmk.few; rw [relS_len hmk.same]; omega
    have hm2 := (MOk2.run (r := r) hp hq 60 _ (MOk2.start c l bl rd nx)).cs
    rw [hgen] at hm2
    have hcc : ∀ y ∈ relS s, y.1 = 0 ∨ y.1 = 1 := fun y hy => hm2 _ (by rw [← relS_cs hmk.same]; exact List.mem_map_of_mem hy)
    clear hm2
    clear ho hr hG hg hp hq hc hbl hmk
    go_enter Try.func58, Try.ntmps58
    obtain ⟨v0, hv0⟩ : ∃ v, v = w.alloc (.cells #[.int .i64 (r : Int), .int .i64 (c : Int), .slice (some ⟨b, o, none⟩) l.length cap, .int .i64 p, .int .i64 q, .int .i64 bl, .int .i64 rd, .int .i64 nx] 56) := ⟨_, rfl⟩; have X0 : Whole v0 w.heap.size 56 [.int .i64 (r : Int), .int .i64 (c : Int), .slice (some ⟨b, o, none⟩) l.length cap, .int .i64 p, .int .i64 q, .int .i64 bl, .int .i64 rd, .int .i64 nx] := (by rw [hv0]; exact heap_alloc_new w _); have hb : Below w.heap.size w v0 := (by rw [hv0]; exact (Below.refl _ _).alloc (Nat.le_refl _) _); have HV := Lib.hid hv0.symm; clear hv0; go_upto_region 1 with (fail); rewrite [HV.out]; clear HV; have hy := X0.lt
    have X0k0 : v0.cell? ⟨w.heap.size, 0, none⟩ = some (.int .i64 (r : Int)) := (X0.cell 0).trans rfl; have X0k1 : v0.cell? ⟨w.heap.size, 1, none⟩ = some (.int .i64 (c : Int)) := (X0.cell 1).trans rfl; have X0k2 : v0.cell? ⟨w.heap.size, 2, none⟩ = some (.slice (some ⟨b, o, none⟩) l.length cap) := (X0.cell 2).trans rfl; have X0k3 : v0.cell? ⟨w.heap.size, 3, none⟩ = some (.int .i64 p) := (X0.cell 3).trans rfl; have X0k4 : v0.cell? ⟨w.heap.size, 4, none⟩ = some (.int .i64 q) := (X0.cell 4).trans rfl; have X0k5 : v0.cell? ⟨w.heap.size, 5, none⟩ = some (.int .i64 bl) := (X0.cell 5).trans rfl; have X0k6 : v0.cell? ⟨w.heap.size, 6, none⟩ = some (.int .i64 rd) := (X0.cell 6).trans rfl; have X0k7 : v0.cell? ⟨w.heap.size, 7, none⟩ = some (.int .i64 nx) := (X0.cell 7).trans rfl
    go_wp2_with fail
    refine (HG.out _ ((hr'.below hb).mono hb.size)).mono ?_; rintro e w3 hP
    obtain ⟨A5, c5, v2, rfl, O5, N5, h2, b3⟩ := hP
    clear HG O5 N5
    clear X0k0 X0k1 X0k2 X0k3 X0k4 X0k5 X0k6 X0k7
    obtain ⟨A6, c6, rfl, O6, N6⟩ := own_slice h2
    (replace X0 := X0.below b3 X0.lt; replace hb := hb.trans (b3.mono hb.size); have hy := X0.lt; clear b3)
    clear h2 N6 X0 hy
    generalize hRs : relS s = rs at *
    have HRs := Lib.hid hRs
    clear hRs
    obtain ⟨sl, sb, sr, sx, scs, sfs⟩ := s
    go_upto_region 2 with (fail)
    have ba : Below w3.heap.size w3 (w3.alloc (.cells #[.int .i64 (r : Int), .int .i64 (c : Int), .slice A5 sl.length c5, .int .i64 p, .int .i64 q, .int .i64 sb, .int .i64 sr, .int .i64 sx] 56)) := (Below.refl _ _).alloc (Nat.le_refl _) _
    replace O6 := O6.keep ba
    replace hb := hb.trans (ba.mono hb.size)
    clear ba
    generalize w3.alloc (.cells #[.int .i64 (r : Int), .int .i64 (c : Int), .slice A5 sl.length c5, .int .i64 p, .int .i64 q, .int .i64 sb, .int .i64 sr, .int .i64 sx] 56) = v6 at *
    go_upto_region 3 with (fail)
    have XO : Whole (v6.alloc (.cells #[.int .i64 0, .int .i64 0] 124)) v6.heap.size 124 [.int .i64 0, .int .i64 0] := heap_alloc_new v6 _
    have ba : Below v6.heap.size v6 (v6.alloc (.cells #[.int .i64 0, .int .i64 0] 124)) := (Below.refl _ _).alloc (Nat.le_refl _) _
    have hgO : w.heap.size ≤ v6.heap.size := hb.size
    replace O6 := O6.keep ba
    replace hb := hb.trans (ba.mono hb.size)
    clear ba
    generalize v6.alloc (.cells #[.int .i64 0, .int .i64 0] 124) = v7 at *
    generalize v6.heap.size = gO at *
    go_wp2
    go_loopw [21] (fun i wr => ∃ k : Nat, i = .int .i64 k ∧ k ≤ rs.length ∧ Whole wr gO 124 [.int .i64 (cntC 0 (rs.take k)), .int .i64 (cntC 1 (rs.take k))] ∧ Own wr A6 117 (flatR rs) ∧ Below w.heap.size w wr) (fun i _ => rs.length - (intOf i).toNat)
    case atStart => exact ⟨0, rfl, Nat.zero_le _, XO, O6, hb⟩
    case round =>
      clear O6 hb XO
      obtain ⟨k, rfl, hk, XO, O6, hb⟩ := hrel
      have hs := hb.size
      by_cases hlt : k < rs.length
      · obtain ⟨gr, rest, rfl, Xr⟩ := O6 (by rw [flatR_len]; omega)
        obtain ⟨hc0, hc1⟩ := flatR_at rs k hlt
        obtain ⟨T, ev, hE⟩ := endV_iface rs[k].2
        rw [hE] at hc1
        have hk0 : wr.cell? ⟨gr, k * 2, none⟩ = some (.int .i64 rs[k].1) := (Xr.cell _).trans (by rw [List.getElem?_append_left (by rw [flatR_len]; omega)]; exact hc0)
        have hk1 : wr.cell? ⟨gr, k * 2 + 1, none⟩ = some (.iface T ev) := (Xr.cell _).trans (by rw [List.getElem?_append_left (by rw [flatR_len]; omega)]; exact hc1)
        have hx := hcc rs[k] (List.getElem_mem _)
        have hT := List.take_succ_eq_append_getElem hlt
        have HT0 := Lib.hid (show cntC 0 (rs.take (k + 1)) = cntC 0 (rs.take k) + (if rs[k].2.1 = 1 ∧ rs[k].1 = 0 then 1 else 0) by rw [hT]; exact cntC_snoc _ _ _)
        have HT1 := Lib.hid (show cntC 1 (rs.take (k + 1)) = cntC 1 (rs.take k) + (if rs[k].2.1 = 1 ∧ rs[k].1 = 1 then 1 else 0) by rw [hT]; exact cntC_snoc _ _ _)
        obtain ⟨b00, b01⟩ := cntC_bd 0 rs k
        obtain ⟨b10, b11⟩ := cntC_bd 1 rs k
        have HC := impl_arrivalColumn rs[k].2
        rw [hE] at HC
        have hgl := Xr.lt
        have hne6 : gO ≠ gr := fun e => by subst e; exact own_apart (A := some ⟨gO, 0, none⟩) (fun _ => ⟨gO, rest, rfl, Xr⟩) XO (by decide) (by rw [flatR_len]; omega) rfl rfl
        clear hc0 hc1 hE hT
        generalize rs[k].1 = x at *
        generalize rs[k].2 = f at *
        generalize cntC 0 (rs.take k) = n0 at *
        generalize cntC 1 (rs.take k) = n1 at *
        go_wp2_with fail
        refine (HC _).mono ?_; rintro e w5 ⟨rfl, b5⟩
        clear HC
        have ba : Below wr.heap.size wr (wr.alloc (.cells #[.int .i64 x, .iface T ev] 117)) := (Below.refl _ _).alloc (Nat.le_refl _) _
        have Xb : Whole w5 wr.heap.size 117 [.int .i64 x, .iface T ev] := newB b5
        replace Xr := (Xr.below ba Xr.lt).below b5 (Xr.below ba Xr.lt).lt
        replace XO := (XO.below ba XO.lt).below b5 (XO.below ba XO.lt).lt
        replace hb := (hb.trans (ba.mono hs)).trans (b5.mono (hb.trans (ba.mono hs)).size)
        clear ba b5 hk0 hk1 hgl hs O6
        generalize wr.heap.size = gb at *
        have hgbl := Xb.lt
        have hgOl := XO.lt
        have Xbk0 : w5.cell? ⟨gb, 0, none⟩ = some (.int .i64 x) := (Xb.cell 0).trans rfl
        have XOk0 : w5.cell? ⟨gO, 0, none⟩ = some (.int .i64 n0) := (XO.cell 0).trans rfl
        have XOk1 : w5.cell? ⟨gO, 1, none⟩ = some (.int .i64 n1) := (XO.cell 1).trans rfl
        have XOf0 := XO.frozen 0
        have XOf1 := XO.frozen 1
        by_cases hE : f.1 = 1
        · rewrite [if_pos hE, decide_eq_true hE]
          rcases hx with rfl | rfl
          · have m1 : IntKind.i64.wrap (n0 + 1) = n0 + 1 := IntWalk.i64_in _ (by omega)
            rw [if_pos ⟨hE, rfl⟩] at HT0
            rw [if_neg (by omega), Int.add_zero] at HT1
            generalize f.2.2 = xc at *
            clear hE
            go_wp2
            refine ⟨⟨k + 1, by go_num, by omega, ?_, fun _ => ⟨gr, rest, rfl, Xr.set_far _ _ hne6⟩, hb.setCell (p := ⟨gO, 0, none⟩) hgO _⟩, by simp [intOf]; omega⟩
            rw [HT0.out, HT1.out]
            exact XO.set 0 _
          · have m1 : IntKind.i64.wrap (n1 + 1) = n1 + 1 := IntWalk.i64_in _ (by omega)
            rw [if_neg (by omega), Int.add_zero] at HT0
            rw [if_pos ⟨hE, rfl⟩] at HT1
            generalize f.2.2 = xc at *
            clear hE
            go_wp2
            refine ⟨⟨k + 1, by go_num, by omega, ?_, fun _ => ⟨gr, rest, rfl, Xr.set_far _ _ hne6⟩, hb.setCell (p := ⟨gO, 1, none⟩) hgO _⟩, by simp [intOf]; omega⟩
            rw [HT0.out, HT1.out]
            exact XO.set 1 _
        · rewrite [if_neg hE, decide_eq_false hE]
          rw [if_neg (fun h => hE h.1), Int.add_zero] at HT0 HT1
          clear hE
          go_wp2
          refine ⟨⟨k + 1, by go_num, by omega, ?_, fun _ => ⟨gr, rest, rfl, Xr⟩, hb⟩, by simp [intOf]; omega⟩
          rw [HT0.out, HT1.out]
          exact XO
      · obtain rfl : k = rs.length := by omega
        rw [List.take_length] at XO
        have XOk0 : wr.cell? ⟨gO, 0, none⟩ = some (.int .i64 (cntC 0 rs)) := (XO.cell 0).trans rfl
        have XOk1 : wr.cell? ⟨gO, 1, none⟩ = some (.int .i64 (cntC 1 rs)) := (XO.cell 1).trans rfl
        have hgOl := XO.lt
        go_upto_region 10 with (fail)
        go_region
        go_wp2
        go_returns
        exact ⟨by rw [HRs.out]; rfl, hb.drew⟩
  · rw [ho, if_neg (by decide)]
    have HG := Lib.hid (fun w' h => impl_runSteps_no R C A cap l p q bl rd nx 60 w' ho hn h)
    clear ho
    go_enter Try.func58, Try.ntmps58
    obtain ⟨v0, hv0⟩ : ∃ v, v = w.alloc (.cells #[.int .i64 R, .int .i64 C, .slice A l.length cap, .int .i64 p, .int .i64 q, .int .i64 bl, .int .i64 rd, .int .i64 nx] 56) := ⟨_, rfl⟩; have X0 : Whole v0 w.heap.size 56 [.int .i64 R, .int .i64 C, .slice A l.length cap, .int .i64 p, .int .i64 q, .int .i64 bl, .int .i64 rd, .int .i64 nx] := (by rw [hv0]; exact heap_alloc_new w _); have hb : Below w.heap.size w v0 := (by rw [hv0]; exact (Below.refl _ _).alloc (Nat.le_refl _) _); have HV := Lib.hid hv0.symm; clear hv0; go_upto_region 1 with (fail); rewrite [HV.out]; clear HV; have hy := X0.lt
    have X0k0 : v0.cell? ⟨w.heap.size, 0, none⟩ = some (.int .i64 R) := (X0.cell 0).trans rfl; have X0k1 : v0.cell? ⟨w.heap.size, 1, none⟩ = some (.int .i64 C) := (X0.cell 1).trans rfl; have X0k2 : v0.cell? ⟨w.heap.size, 2, none⟩ = some (.slice A l.length cap) := (X0.cell 2).trans rfl; have X0k3 : v0.cell? ⟨w.heap.size, 3, none⟩ = some (.int .i64 p) := (X0.cell 3).trans rfl; have X0k4 : v0.cell? ⟨w.heap.size, 4, none⟩ = some (.int .i64 q) := (X0.cell 4).trans rfl; have X0k5 : v0.cell? ⟨w.heap.size, 5, none⟩ = some (.int .i64 bl) := (X0.cell 5).trans rfl; have X0k6 : v0.cell? ⟨w.heap.size, 6, none⟩ = some (.int .i64 rd) := (X0.cell 6).trans rfl; have X0k7 : v0.cell? ⟨w.heap.size, 7, none⟩ = some (.int .i64 nx) := (X0.cell 7).trans rfl
    go_wp2_with fail
    refine (HG.out _ ((hr.below hb).mono hb.size)).mono ?_; rintro e w3 ⟨rfl, b3⟩
    clear HG
    clear X0k0 X0k1 X0k2 X0k3 X0k4 X0k5 X0k6 X0k7
    (replace X0 := X0.below b3 X0.lt; replace hb := hb.trans (b3.mono hb.size); have hy := X0.lt; clear b3)
    go_upto_region 2 with (fail)
    replace hb : Below w.heap.size w (w3.alloc (.cells #[.int .i64 0, .int .i64 0, .slice none 0 0, .int .i64 0, .int .i64 0, .int .i64 0, .int .i64 0, .int .i64 0] 56)) := hb.alloc hb.size _
    generalize w3.alloc (.cells #[.int .i64 0, .int .i64 0, .slice none 0 0, .int .i64 0, .int .i64 0, .int .i64 0, .int .i64 0, .int .i64 0] 56) = v6 at *
    clear X0 hy
    go_upto_region 3 with (fail)
    have XO : Whole (v6.alloc (.cells #[.int .i64 0, .int .i64 0] 124)) v6.heap.size 124 [.int .i64 0, .int .i64 0] := heap_alloc_new v6 _
    replace hb : Below w.heap.size w (v6.alloc (.cells #[.int .i64 0, .int .i64 0] 124)) := hb.alloc hb.size _
    generalize v6.alloc (.cells #[.int .i64 0, .int .i64 0] 124) = v7 at *
    generalize v6.heap.size = gO at *
    have XOk0 : v7.cell? ⟨gO, 0, none⟩ = some (.int .i64 0) := (XO.cell 0).trans rfl
    have XOk1 : v7.cell? ⟨gO, 1, none⟩ = some (.int .i64 0) := (XO.cell 1).trans rfl
    have hgOl := XO.lt
    go_wp2
    go_rounds 1
    go_upto_region 10 with (fail)
    go_region
    go_wp2
    go_returns
    exact ⟨rfl, hb.drew⟩
end Go.Proofs.Ytpfjbecpfdgnpaa
