/- Contracts of the program and of the model, walked, part 9 of 9. No condition but what each says. -/
import Derived.BigQuiet
import Derived.Deep.Cut
import Derived.Deep.RegionLaw
import Derived.Deep.AppendLies
import Derived.Test.YtlambflmabecfaaGreatM2
import Derived.Test.YtlambflmabecfaaGreatM8
import Derived.Deep.RegionWith
namespace Go.Proofs.YtlambflmabecfaaGreat
open Go.ChangeShapes Go.WideShapes Go.ChangeAt Go.RowKit Go.Joins Go.Deep
set_option linter.unusedSimpArgs false
set_option linter.unusedVariables false
set_option maxRecDepth 100000
set_option maxHeartbeats 4000000
theorem logInfoF : (Tryz.prog.info? 57).map (fun i => (i.zero, i.size, i.bytes)) = some (some (.agg #[.int .i64 0, .int .i64 0, .int .i64 0, .int .i64 0]), 4, 32) := by kernel_rfl
theorem relS_few (R C : Int) (l : List (Int × Int)) (p q bl rd nx : Int) : (relS (finO R C l p q bl rd nx)).length ≤ 60 := by
  have h := finO_few R C l p q bl rd nx
  rw [relS_len h.2]
  exact h.1
theorem four_cellsL {w : World} {x y z u : Value} {t : TypeId} : ∀ j v, [x, y, z, u][j]? = some v → (w.alloc (.cells #[x, y, z, u] t)).cell? ((⟨w.heap.size, 0, none⟩ : Addr).add j) = some v := by
  intro j v h
  rw [add_plain, Nat.zero_add]
  have hw : (w.alloc (.cells #[x, y, z, u] t)).heap[w.heap.size]? = some (.cells #[x, y, z, u] t (0, 0)) := heap_alloc_new w _
  rw [cell_of_row _ _ _ _ _ _ hw]
  simpa using h
theorem four_oneL {a b c d : Int} : ∀ u ∈ [Value.int .i64 a, Value.int .i64 b, Value.int .i64 c, Value.int .i64 d], u.oneCell' = true := by
  intro u hu
  simp only [List.mem_cons, List.not_mem_nil, or_false] at hu
  rcases hu with rfl | rfl | rfl | rfl <;> rfl
theorem zip_take_succ {cs : List Int} {fs : List (Int × Int × Int)} {k : Nat} (h1 : k < cs.length) (h2 : k < fs.length) : flatL ((cs.zip fs).take (k + 1)) = flatL ((cs.zip fs).take k) ++ [.int .i64 cs[k], .int .i64 fs[k].1, .int .i64 fs[k].2.1, .int .i64 fs[k].2.2] := by
  have h : k < (cs.zip fs).length := by rw [List.length_zip]; omega
  rw [List.take_succ_eq_append_getElem h, flatL_app, List.getElem_zip]
  rfl
theorem zip_take_all {cs : List Int} {fs : List (Int × Int × Int)} (h : cs.length = fs.length) : (cs.zip fs).take fs.length = cs.zip fs :=
  List.take_of_length_le (by rw [List.length_zip]; omega)
theorem flatF_atM (l : List (Int × Int × Int)) (k : Nat) (h : k < l.length) : (flatF l)[k * 3]? = some (.int .i64 l[k].1) ∧ (flatF l)[k * 3 + 1]? = some (.int .i64 l[k].2.1) ∧ (flatF l)[k * 3 + 2]? = some (.int .i64 l[k].2.2) := by
  induction l generalizing k with
  | nil => simp at h
  | cons c l ih =>
    cases k with
    | zero => exact ⟨rfl, rfl, rfl⟩
    | succ k =>
      have := ih k (by simpa using h)
      have e1 : (flatF (c :: l))[(k + 1) * 3]? = (flatF l)[k * 3]? := by rw [show (k + 1) * 3 = k * 3 + 1 + 1 + 1 by omega]; rfl
      have e2 : (flatF (c :: l))[(k + 1) * 3 + 1]? = (flatF l)[k * 3 + 1]? := by rw [show (k + 1) * 3 + 1 = k * 3 + 1 + 1 + 1 + 1 by omega]; rfl
      have e3 : (flatF (c :: l))[(k + 1) * 3 + 2]? = (flatF l)[k * 3 + 2]? := by rw [show (k + 1) * 3 + 2 = k * 3 + 2 + 1 + 1 + 1 by omega]; rfl
      rw [e1, e2, e3]
      exact this
/-- A log of the call's own, and a machine. -/
def PostLO (w : World) (r c : Nat) (p q : Int) (s : MSt) (e : Ending) (w' : World) : Prop :=
  ∃ v A5 c5, e = .returned (.tuple #[v, .agg #[.int .i64 (r : Int), .int .i64 (c : Int), .slice A5 s.l.length c5, .int .i64 p, .int .i64 q, .int .i64 s.bl, .int .i64 s.rd, .int .i64 s.nx]]) ∧
    w'.ownsRow w.heap.size 57 4 v s.fs.length (flatL (relS s)) ∧ Own w' A5 95 (flat s.l) ∧ New w A5 ∧ Below w.heap.size w w'
theorem PostLO.mk {w w' : World} {r c c5 : Nat} {p q bl rd nx : Int} {l : List (Int × Int)} {cs : List Int} {fs : List (Int × Int × Int)} {v : Value} {A5 : Option Addr} (h : w'.ownsRow w.heap.size 57 4 v fs.length (flatL (cs.zip fs))) (O5 : Own w' A5 95 (flat l)) (N5 : New w A5) (b : Below w.heap.size w w') :
    PostLO w r c p q ⟨l, bl, rd, nx, cs, fs⟩ (.returned (.tuple #[v, .agg #[.int .i64 (r : Int), .int .i64 (c : Int), .slice A5 l.length c5, .int .i64 p, .int .i64 q, .int .i64 bl, .int .i64 rd, .int .i64 nx]])) w' :=
  ⟨v, A5, c5, rfl, h, O5, N5, b⟩
theorem spec_loOf (r c b o cap : Nat) (l : List (Int × Int)) (p q bl rd nx : Int) (n : Nat) (w : World) (hok : okM (r : Int) (c : Int) l p q bl rd nx = true) (hn : n ≤ 60) (hr : Rd w w.heap.size (some ⟨b, o, none⟩) (flat l)) :
    Calls Tryz.prog 21 #[.agg #[.int .i64 (r : Int), .int .i64 (c : Int), .slice (some ⟨b, o, none⟩) l.length cap, .int .i64 p, .int .i64 q, .int .i64 bl, .int .i64 rd, .int .i64 nx], .int .i64 (n : Int)] w (PostLO w r c p q (runM (r : Int) (c : Int) p q n ⟨l, bl, rd, nx, [], []⟩)) := by
  obtain ⟨r', c', er, ec, hG, hgd, hp, hq⟩ := okM_ints hok
  obtain rfl : r = r' := by omega
  obtain rfl : c = c' := by omega
  have hmk := MOk.run hp hq n _ (MOk.start hok)
  have HG := Lib.hid (fun w' h => spec_maRun r c b o cap l p q bl rd nx n w' hok hn h)
  obtain ⟨i0, hi, hz0, hz1, hz2⟩ := info_parts logInfoF
  generalize runM (r : Int) (c : Int) p q n ⟨l, bl, rd, nx, [], []⟩ = s at *
  have hsm := hmk.same
  have hfew := hmk.few
  clear hok er ec hG hgd hp hq hmk
  go_enter Tryz.func21, Tryz.ntmps21
  obtain ⟨v0, hv0, X0, X1, B0, hz0⟩ := two_boxes w [.int .i64 (r : Int), .int .i64 (c : Int), .slice (some ⟨b, o, none⟩) l.length cap, .int .i64 p, .int .i64 q, .int .i64 bl, .int .i64 rd, .int .i64 nx] 36 [.int .i64 0, .int .i64 0, .slice none 0 0, .int .i64 0, .int .i64 0, .int .i64 0, .int .i64 0, .int .i64 0] 36; have HV := Lib.hid hv0; have hz : w.heap.size + 1 < v0.heap.size := (by omega); have hy : w.heap.size < v0.heap.size := (by omega); have hb0 := B0.size; clear hv0 hz0; go_wp2_with fail; rewrite [show (w.alloc (.cells ([.int .i64 (r : Int), .int .i64 (c : Int), .slice (some ⟨b, o, none⟩) l.length cap, .int .i64 p, .int .i64 q, .int .i64 bl, .int .i64 rd, .int .i64 nx] : List Value).toArray 36)).alloc (.cells ([.int .i64 0, .int .i64 0, .slice none 0 0, .int .i64 0, .int .i64 0, .int .i64 0, .int .i64 0, .int .i64 0] : List Value).toArray 36) = v0 from HV.out]; clear HV
  refine (HG.out _ ((hr.below B0).mono B0.size)).mono ?_; rintro e w3 hP
  obtain ⟨A5, c5, v2, v3, rfl, O5, N5, h2, h3, b3⟩ := hP
  clear HG
  have N5w : New w A5 := fun a ha => Nat.le_trans B0.size (N5 a ha)
  obtain ⟨A2, c2, rfl, O2, N2⟩ := own_slice h2
  obtain ⟨A3, c3, rfl, O3, N3⟩ := own_slice h3
  replace X0 := X0.below b3 X0.lt; replace X1 := X1.below b3 X1.lt; replace B0 := B0.trans (b3.mono B0.size); have hy := X0.lt; have hz := X1.lt; have hb0 := B0.size; clear b3
  clear h2 h3 N5 X0 N2 N3
  obtain ⟨sl, sb, sr, sx, scs, sfs⟩ := s
  dsimp only at hsm hfew O2 O3 O5
  have hf60 : sfs.length ≤ 60 := by omega
  clear hfew
  go_upto_region 2 with (fail)
  obtain ⟨v6, hv6⟩ : ∃ v6, v6 = w3.alloc (.cells #[.int .i64 (r : Int), .int .i64 (c : Int), .slice A5 sl.length c5, .int .i64 p, .int .i64 q, .int .i64 sb, .int .i64 sr, .int .i64 sx] 36) := ⟨_, rfl⟩
  have Xm : Whole v6 w3.heap.size 36 [.int .i64 (r : Int), .int .i64 (c : Int), .slice A5 sl.length c5, .int .i64 p, .int .i64 q, .int .i64 sb, .int .i64 sr, .int .i64 sx] := by rw [hv6]; exact newW
  have b6 : Below w3.heap.size w3 v6 := by rw [hv6]; exact (Below.refl _ _).alloc (Nat.le_refl _) _
  rewrite [← hv6]
  clear hv6
  replace X1 := X1.below b6 X1.lt
  replace O5 := O5.keep b6
  replace O2 := O2.keep b6
  replace O3 := O3.keep b6
  replace B0 := B0.trans (b6.mono B0.size)
  generalize hgm : w3.heap.size = gm at *
  have hgw : w.heap.size + 1 ≠ gm := by omega
  clear b6 hy hz hb0 hgm
  have hown : v6.ownsRow w.heap.size 57 4 (.slice none 0 0) 0 [] := World.ownsRow_nil _ _ _ _
  go_wp2
  go_loopw [9, 21] (fun v i wr => ∃ k : Nat, i = .int .i64 k ∧ k ≤ sfs.length ∧ wr.ownsRow w.heap.size 57 4 v k (flatL ((scs.zip sfs).take k)) ∧ Own wr A2 3 (ints scs) ∧ Own wr A3 55 (flatF sfs) ∧ Own wr A5 95 (flat sl) ∧
    Whole wr gm 36 [.int .i64 (r : Int), .int .i64 (c : Int), .slice A5 sl.length c5, .int .i64 p, .int .i64 q, .int .i64 sb, .int .i64 sr, .int .i64 sx] ∧ Whole wr (w.heap.size + 1) 36 [.int .i64 0, .int .i64 0, .slice none 0 0, .int .i64 0, .int .i64 0, .int .i64 0, .int .i64 0, .int .i64 0] ∧ Below w.heap.size w wr) (fun _ i _ => sfs.length - (intOf i).toNat)
  case atStart => exact ⟨0, rfl, Nat.zero_le _, hown, O2, O3, O5, Xm, X1, B0⟩
  case round =>
    clear hown O2 O3 O5 Xm X1 B0
    obtain ⟨k, rfl, hk, hown, O2, O3, O5, Xm, X1, B0⟩ := hrel
    have hs := B0.size
    by_cases hlt : k < sfs.length
    · obtain ⟨g2, rest2, rfl, X2⟩ := O2 (by rw [ints_length]; omega)
      obtain ⟨g3, rest3, rfl, X3⟩ := O3 (by rw [flatF_len]; omega)
      have hkc : k < scs.length := by omega
      have HT := Lib.hid (zip_take_succ hkc hlt)
      have hx2 : (ints scs ++ rest2)[k]? = some (.int .i64 scs[k]) := by rw [List.getElem?_append_left (by rw [ints_length]; exact hkc), ints_at _ _ hkc]
      obtain ⟨p0, p1, p2⟩ := flatF_atM sfs k hlt
      have r0 : wr.cell? ⟨g3, k * 3, none⟩ = some (.int .i64 sfs[k].1) := by rw [X3.cell, List.getElem?_append_left (by rw [flatF_len]; omega), p0]
      have r1 : wr.cell? ⟨g3, k * 3 + 1, none⟩ = some (.int .i64 sfs[k].2.1) := by rw [X3.cell, List.getElem?_append_left (by rw [flatF_len]; omega), p1]
      have r2 : wr.cell? ⟨g3, k * 3 + 2, none⟩ = some (.int .i64 sfs[k].2.2) := by rw [X3.cell, List.getElem?_append_left (by rw [flatF_len]; omega), p2]
      clear p0 p1 p2
      generalize scs[k] = x at *
      have HX2 := Lib.hid hx2
      clear hx2
      generalize sfs[k].1 = y at *
      generalize sfs[k].2.1 = z at *
      generalize sfs[k].2.2 = u at *
      have h2l := X2.lt
      have h3l := X3.lt
      generalize hFL : flatL ((scs.zip sfs).take k) = fl at *
      have bl : Below wr.heap.size wr (wr.alloc (.cells #[.int .i64 y, .int .i64 z, .int .i64 u] 55)) := (Below.refl _ _).alloc (Nat.le_refl _) _
      have Xf : Whole (wr.alloc (.cells #[.int .i64 y, .int .i64 z, .int .i64 u] 55)) wr.heap.size 55 [.int .i64 y, .int .i64 z, .int .i64 u] := heap_alloc_new wr _
      replace hown := row_keep hown bl
      replace X2 := X2.below bl X2.lt
      replace X3 := X3.below bl X3.lt
      replace O5 := O5.keep bl
      replace Xm := Xm.below bl Xm.lt
      replace X1 := X1.below bl X1.lt
      have B1 := B0.trans (bl.mono hs)
      have hs1 := B1.size
      go_upto_region 6 with (fail)
      clear bl B0
      generalize wr.alloc (.cells #[.int .i64 y, .int .i64 z, .int .i64 u] 55) = wl at *
      generalize wr.heap.size = gf at *
      clear r0 r1 r2
      have bd : Below wl.heap.size wl wl.drew := (Below.refl _ _).drew
      have hfl := Xf.lt
      have hown2 := (row_keep hown bd).alloc (.cells #[.int .i64 x, .int .i64 y, .int .i64 z, .int .i64 u] 57)
      have hbs : w.heap.size ≤ (wl.drew.alloc (.cells #[.int .i64 x, .int .i64 y, .int .i64 z, .int .i64 u] 57)).heap.size := by
        rw [World.size_alloc]
        exact Nat.le_succ_of_le hs1
      have HA := Lib.hid (And.intro hown2 hbs)
      have q0 : wl.drew.cell? ⟨g2, k, none⟩ = some (.int .i64 x) := ((X2.below bd X2.lt).cell k).trans HX2.out
      have f0 : wl.drew.cell? ⟨gf, 0, none⟩ = some (.int .i64 y) := (Xf.below bd hfl).cell 0
      have f1 : wl.drew.cell? ⟨gf, 1, none⟩ = some (.int .i64 z) := (Xf.below bd hfl).cell 1
      have f2 : wl.drew.cell? ⟨gf, 2, none⟩ = some (.int .i64 u) := (Xf.below bd hfl).cell 2
      go_region_law (first
        | (refine step_append_lies _ (by rfl) _ _ _ (by rfl) w.heap.size 57 i0 _ 4 32 Tryz.underlying38 hi hz0 hz1 hz2 rfl (by omega) u9 k fl (by simp [Act.eval, Act.put]) HA.out.1 ⟨wl.heap.size, 0, none⟩ 1 1 [.int .i64 x, .int .i64 y, .int .i64 z, .int .i64 u] (by simp [Act.eval, Act.put]) rfl four_cellsL four_oneL (by omega) (by unfold maxLen; omega) (by omega) HA.out.2 _ rfl ?_; intro g9 c9 w9 hown9 hg9 hat9 hlt9)
        | fail)
      all_goals
        have hY := HA.out.1
        have O1b : Below wl.heap.size wl (wl.drew.alloc (.cells #[.int .i64 x, .int .i64 y, .int .i64 z, .int .i64 u] 57)) := bd.alloc (Nat.le_refl _) _
        have hkeep : ∀ {g : Nat} {t : TypeId} {xs : List Value}, 57 ≠ t → Whole wl g t xs → Whole w9 g t xs := fun hne hw => (hw.below O1b hw.lt).grown hg9 (row_apart hY (hw.below O1b hw.lt) hne)
        have hb9 : Below w.heap.size w w9 := row_below hY (B1.trans (O1b.mono hs1)) HA.out.2 hg9
        have O59 : Own w9 A5 95 (flat sl) := fun hx => by
          obtain ⟨g, rest, e, hw⟩ := O5 hx
          exact ⟨g, rest, e, hkeep (by decide) hw⟩
        have X29 := hkeep (by decide) X2
        have X39 := hkeep (by decide) X3
        have Xm9 := hkeep (by decide) Xm
        have X19 := hkeep (by decide) X1
        have HR9 := Lib.hid (And.intro O59 (And.intro X29 (And.intro X39 (And.intro Xm9 (And.intro X19 hb9)))))
        clear hkeep O1b hY hg9 hat9 hlt9 O59 X29 X39 Xm9 X19 hb9 O2 O3 O5 Xm X1 X2 X3 Xf q0 f0 f1 f2 hown hown2 hbs HA bd
        rw [← HT.out] at hown9
        go_wp2
        obtain ⟨O59, X29, X39, Xm9, X19, hb9⟩ := HR9.out
        exact ⟨⟨k + 1, by go_num, by omega, hown9, fun _ => ⟨g2, rest2, rfl, X29⟩, fun _ => ⟨g3, rest3, rfl, X39⟩, O59, Xm9, X19, hb9⟩, by simp [intOf]; omega⟩
    · obtain rfl : k = sfs.length := by omega
      rw [zip_take_all hsm] at hown
      have hml := Xm.lt
      have h1l := X1.lt
      have hne1 := row_apart hown X1 (by decide)
      have Xmk0 : wr.cell? ⟨gm, 0, none⟩ = some (.int .i64 (r : Int)) := (Xm.cell 0).trans rfl; have Xmk1 : wr.cell? ⟨gm, 1, none⟩ = some (.int .i64 (c : Int)) := (Xm.cell 1).trans rfl; have Xmk2 : wr.cell? ⟨gm, 2, none⟩ = some (.slice A5 sl.length c5) := (Xm.cell 2).trans rfl; have Xmk3 : wr.cell? ⟨gm, 3, none⟩ = some (.int .i64 p) := (Xm.cell 3).trans rfl; have Xmk4 : wr.cell? ⟨gm, 4, none⟩ = some (.int .i64 q) := (Xm.cell 4).trans rfl; have Xmk5 : wr.cell? ⟨gm, 5, none⟩ = some (.int .i64 sb) := (Xm.cell 5).trans rfl
      have Xmk6 : wr.cell? ⟨gm, 6, none⟩ = some (.int .i64 sr) := (Xm.cell 6).trans rfl; have Xmk7 : wr.cell? ⟨gm, 7, none⟩ = some (.int .i64 sx) := (Xm.cell 7).trans rfl
      go_upto_region 8 with (fail)
      go_still_tail 3, (by kernel_rfl)
      change wpList _ _ _ _ _ wr.drew
      have bd : Below wr.heap.size wr wr.drew := (Below.refl _ _).drew
      replace X1 := X1.below bd X1.lt
      replace O5 := O5.keep bd
      replace hown := row_keep hown bd
      replace B0 := B0.trans (bd.mono hs)
      clear Xmk0 Xmk1 Xmk2 Xmk3 Xmk4 Xmk5 Xmk6 Xmk7
      clear bd Xm O2 O3 hml h1l hs
      generalize wr.drew = v5 at *
      have h1l := X1.lt
      have X1k0 : v5.cell? ⟨w.heap.size + 1, 0, none⟩ = some (.int .i64 0) := (X1.cell 0).trans rfl; have X1k1 : v5.cell? ⟨w.heap.size + 1, 1, none⟩ = some (.int .i64 0) := (X1.cell 1).trans rfl; have X1k2 : v5.cell? ⟨w.heap.size + 1, 2, none⟩ = some (.slice none 0 0) := (X1.cell 2).trans rfl; have X1k3 : v5.cell? ⟨w.heap.size + 1, 3, none⟩ = some (.int .i64 0) := (X1.cell 3).trans rfl; have X1k4 : v5.cell? ⟨w.heap.size + 1, 4, none⟩ = some (.int .i64 0) := (X1.cell 4).trans rfl; have X1k5 : v5.cell? ⟨w.heap.size + 1, 5, none⟩ = some (.int .i64 0) := (X1.cell 5).trans rfl
      have X1k6 : v5.cell? ⟨w.heap.size + 1, 6, none⟩ = some (.int .i64 0) := (X1.cell 6).trans rfl; have X1k7 : v5.cell? ⟨w.heap.size + 1, 7, none⟩ = some (.int .i64 0) := (X1.cell 7).trans rfl
      have X1f0 := X1.frozen 0; have X1f1 := X1.frozen 1; have X1f2 := X1.frozen 2; have X1f3 := X1.frozen 3; have X1f4 := X1.frozen 4; have X1f5 := X1.frozen 5; have X1f6 := X1.frozen 6; have X1f7 := X1.frozen 7
      go_wp2
      rewrite [mset_fold]; obtain ⟨v4, hv4⟩ : ∃ v4, v4 = mset v5 (w.heap.size + 1) (.int .i64 (r : Int)) (.int .i64 (c : Int)) (.slice A5 sl.length c5) (.int .i64 p) (.int .i64 q) (.int .i64 sb) (.int .i64 sr) (.int .i64 sx) := ⟨_, rfl⟩; have Z1 : Whole v4 (w.heap.size + 1) 36 [.int .i64 (r : Int), .int .i64 (c : Int), .slice A5 sl.length c5, .int .i64 p, .int .i64 q, .int .i64 sb, .int .i64 sr, .int .i64 sx] := (by rw [hv4]; exact Whole.mset X1 _ _ _ _ _ _ _ _)
      replace O5 : Own v4 A5 95 (flat sl) := by rw [hv4]; exact own_mset O5 X1 (by decide)
      replace hown : v4.ownsRow w.heap.size 57 4 u9 sfs.length (flatL (scs.zip sfs)) := by rw [hv4]; exact row_mset hown hne1
      replace B0 : Below w.heap.size w v4 := by rw [hv4]; exact below_mset B0 (by omega)
      clear X1k0 X1k1 X1k2 X1k3 X1k4 X1k5 X1k6 X1k7
      clear X1f0 X1f1 X1f2 X1f3 X1f4 X1f5 X1f6 X1f7
      rewrite [← hv4]
      clear hv4 X1 hne1
      have Z1k0 : v4.cell? ⟨w.heap.size + 1, 0, none⟩ = some (.int .i64 (r : Int)) := (Z1.cell 0).trans rfl; have Z1k1 : v4.cell? ⟨w.heap.size + 1, 1, none⟩ = some (.int .i64 (c : Int)) := (Z1.cell 1).trans rfl; have Z1k2 : v4.cell? ⟨w.heap.size + 1, 2, none⟩ = some (.slice A5 sl.length c5) := (Z1.cell 2).trans rfl; have Z1k3 : v4.cell? ⟨w.heap.size + 1, 3, none⟩ = some (.int .i64 p) := (Z1.cell 3).trans rfl; have Z1k4 : v4.cell? ⟨w.heap.size + 1, 4, none⟩ = some (.int .i64 q) := (Z1.cell 4).trans rfl; have Z1k5 : v4.cell? ⟨w.heap.size + 1, 5, none⟩ = some (.int .i64 sb) := (Z1.cell 5).trans rfl; have Z1k6 : v4.cell? ⟨w.heap.size + 1, 6, none⟩ = some (.int .i64 sr) := (Z1.cell 6).trans rfl; have Z1k7 : v4.cell? ⟨w.heap.size + 1, 7, none⟩ = some (.int .i64 sx) := (Z1.cell 7).trans rfl
      refine bodyPost_ret (v := .tuple #[u9, .agg #[.int .i64 (r : Int), .int .i64 (c : Int), .slice A5 sl.length c5, .int .i64 p, .int .i64 q, .int .i64 sb, .int .i64 sr, .int .i64 sx]]) ?_ rfl ?_; (focus (simp [results, Tryz.results21, go_sem, *]; done))
      exact PostLO.mk hown O5 N5w B0
/-- A log of the call's own, and whether it succeeds. -/
def PostLG (w : World) (l : List LE) (ok : Bool) (e : Ending) (w' : World) : Prop :=
  ∃ A' cap', e = .returned (.tuple #[.slice A' l.length cap', .bool ok]) ∧ Own w' A' 57 (flatL l) ∧ New w A' ∧ Below w.heap.size w w'
theorem PostLG.of_row {w w' : World} {l : List LE} {ok : Bool} {v : Value} {n : Nat} (hn : l.length = n) (h : w'.ownsRow w.heap.size 57 4 v n (flatL l)) (b : Below w.heap.size w w') : PostLG w l ok (.returned (.tuple #[v, .bool ok])) w' := by
  subst hn
  obtain ⟨A, cap, rfl, O, N⟩ := own_slice h
  exact ⟨A, cap, rfl, O, N, b⟩
theorem PostLG.none_ {w w' : World} (b : Below w.heap.size w w') : PostLG w [] false (.returned (.tuple #[.slice none 0 0, .bool false])) w' :=
  ⟨none, 0, rfl, Own.none_, New.none_, b⟩
def logO (R C : Int) (l : List (Int × Int)) (p q bl rd nx : Int) : List LE := relS (finO R C l p q bl rd nx)
end Go.Proofs.YtlambflmabecfaaGreat
namespace Go.Proofs.YtlambflmabecfaaGreat
open Go.ChangeShapes Go.WideShapes Go.ChangeAt Go.RowKit Go.Joins Go.Deep
set_option linter.unusedSimpArgs false
set_option linter.unusedVariables false
set_option maxRecDepth 100000
set_option maxHeartbeats 4000000
theorem impl_fall3 (a b c : Int) (w : World) : Calls Tryz.prog 134 #[.agg #[.int .i64 a, .int .i64 b, .int .i64 c]] w fun e w' => e = .returned (.agg #[.int .i64 a, .int .i64 b, .int .i64 c]) ∧ Below w.heap.size w w' := by
  go_enter Tryz.func134, Tryz.ntmps134
  go_wp2
  refine bodyPost_ret (v := .agg #[.int .i64 a, .int .i64 b, .int .i64 c]) ?_ rfl ?_; (focus (simp [results, Tryz.results134, go_sem, *]; done))
  exact ⟨rfl, by (repeat' (first | (with_reducible exact Below.refl _ _) | (with_reducible assumption) | (with_reducible refine Below.alloc ?_ ?_ _) | (with_reducible refine Below.setCell ?_ ?_ _) | (with_reducible refine Below.drew ?_) | (with_reducible refine below_drewN ?_ _) | (with_reducible refine Below.trans ?_ (Below.mono (by assumption) ?_)) | (with_reducible exact Nat.le_refl _) | (simp; done) | omega | (simp at *; omega)))⟩
theorem impl_fall4 (a b c : Int) (w : World) : Calls Tryz.prog 135 #[.agg #[.int .i64 a, .int .i64 b, .int .i64 c]] w fun e w' => e = .returned (.agg #[.int .i64 a, .int .i64 b, .int .i64 c]) ∧ Below w.heap.size w w' := by
  go_enter Tryz.func135, Tryz.ntmps135
  go_wp2
  refine bodyPost_ret (v := .agg #[.int .i64 a, .int .i64 b, .int .i64 c]) ?_ rfl ?_; (focus (simp [results, Tryz.results135, go_sem, *]; done))
  exact ⟨rfl, by (repeat' (first | (with_reducible exact Below.refl _ _) | (with_reducible assumption) | (with_reducible refine Below.alloc ?_ ?_ _) | (with_reducible refine Below.setCell ?_ ?_ _) | (with_reducible refine Below.drew ?_) | (with_reducible refine below_drewN ?_ _) | (with_reducible refine Below.trans ?_ (Below.mono (by assumption) ?_)) | (with_reducible exact Nat.le_refl _) | (simp; done) | omega | (simp at *; omega)))⟩
theorem takeLF_succ {l : List LE} {k : Nat} (h : k < l.length) : flatL (l.take (k + 1)) = flatL (l.take k) ++ [.int .i64 l[k].1, .int .i64 l[k].2.1, .int .i64 l[k].2.2.1, .int .i64 l[k].2.2.2] := by
  rw [List.take_succ_eq_append_getElem h, flatL_app]
  rfl
theorem impl_LogOf (R C : Int) (A : Option Addr) (cap : Nat) (l : List (Int × Int)) (p q bl rd nx : Int) (w : World) (hn : l.length ≤ 1048576) (hr : Rd w w.heap.size A (flat l)) :
    Calls Tryz.prog 25 #[.agg #[.int .i64 R, .int .i64 C, .slice A l.length cap, .int .i64 p, .int .i64 q, .int .i64 bl, .int .i64 rd, .int .i64 nx]] w (PostLG w (relS (finO R C l p q bl rd nx)) (okM R C l p q bl rd nx)) := by
  unfold finO
  rcases Bool.eq_false_or_eq_true (okM R C l p q bl rd nx) with ho | ho
  · have HO := Lib.hid ho
    rw [ho, if_pos rfl]
    obtain ⟨i0, hi, hz0, hz1, hz2⟩ := info_parts logInfoF
    obtain ⟨r, c, rfl, rfl, hG, hg, hp, hq⟩ := okM_ints ho
    obtain ⟨_, _, hpos⟩ := goodB_parts hg
    obtain ⟨b, o, rfl, hbl, hc⟩ := hr (by rw [flat_length]; omega)
    have hr' : Rd w w.heap.size (some ⟨b, o, none⟩) (flat l) := fun _ => ⟨b, o, rfl, hbl, hc⟩
    have hmk := MOk.run hp hq 60 _ (MOk.start ho)
    have HG := Lib.hid (fun w' h => impl_runSteps_yes r c b o cap l p q bl rd nx 60 w' ho (by omega) h)
    generalize runM (r : Int) (c : Int) p q 60 ⟨l, bl, rd, nx, [], []⟩ = s at *
    have hrl : (relS s).length ≤ 60 := by have := hmk.few; rw [relS_len hmk.same]; omega
    clear ho hr hG hg hp hq hc hbl hmk
    go_enter Tryz.func25, Tryz.ntmps25
    obtain ⟨v0, hv0⟩ : ∃ v, v = w.alloc (.cells #[.int .i64 (r : Int), .int .i64 (c : Int), .slice (some ⟨b, o, none⟩) l.length cap, .int .i64 p, .int .i64 q, .int .i64 bl, .int .i64 rd, .int .i64 nx] 36) := ⟨_, rfl⟩; have X0 : Whole v0 w.heap.size 36 [.int .i64 (r : Int), .int .i64 (c : Int), .slice (some ⟨b, o, none⟩) l.length cap, .int .i64 p, .int .i64 q, .int .i64 bl, .int .i64 rd, .int .i64 nx] := (by rw [hv0]; exact heap_alloc_new w _); have hb : Below w.heap.size w v0 := (by rw [hv0]; exact (Below.refl _ _).alloc (Nat.le_refl _) _); have HV := Lib.hid hv0.symm; clear hv0; go_upto_region 1 with (fail); rewrite [HV.out]; clear HV; have hy := X0.lt
    have X0k0 : v0.cell? ⟨w.heap.size, 0, none⟩ = some (.int .i64 (r : Int)) := (X0.cell 0).trans rfl; have X0k1 : v0.cell? ⟨w.heap.size, 1, none⟩ = some (.int .i64 (c : Int)) := (X0.cell 1).trans rfl; have X0k2 : v0.cell? ⟨w.heap.size, 2, none⟩ = some (.slice (some ⟨b, o, none⟩) l.length cap) := (X0.cell 2).trans rfl; have X0k3 : v0.cell? ⟨w.heap.size, 3, none⟩ = some (.int .i64 p) := (X0.cell 3).trans rfl; have X0k4 : v0.cell? ⟨w.heap.size, 4, none⟩ = some (.int .i64 q) := (X0.cell 4).trans rfl; have X0k5 : v0.cell? ⟨w.heap.size, 5, none⟩ = some (.int .i64 bl) := (X0.cell 5).trans rfl; have X0k6 : v0.cell? ⟨w.heap.size, 6, none⟩ = some (.int .i64 rd) := (X0.cell 6).trans rfl; have X0k7 : v0.cell? ⟨w.heap.size, 7, none⟩ = some (.int .i64 nx) := (X0.cell 7).trans rfl
    go_wp2_with fail
    refine (HG.out _ ((hr'.below hb).mono hb.size)).mono ?_; rintro e w3 hP
    obtain ⟨A5, c5, v2, rfl, O5, N5, h2, b3⟩ := hP
    clear HG O5 N5
    clear X0k0 X0k1 X0k2 X0k3 X0k4 X0k5 X0k6 X0k7
    obtain ⟨A6, c6, rfl, O6, N6⟩ := own_slice h2
    (replace X0 := X0.below b3 X0.lt; replace hb := hb.trans (b3.mono hb.size); have hy := X0.lt; clear b3)
    clear h2 N6 X0 hy
    generalize relS s = rs at *
    obtain ⟨sl, sb, sr, sx, scs, sfs⟩ := s
    go_upto_region 2 with (fail)
    have ba : Below w3.heap.size w3 (w3.alloc (.cells #[.int .i64 (r : Int), .int .i64 (c : Int), .slice A5 sl.length c5, .int .i64 p, .int .i64 q, .int .i64 sb, .int .i64 sr, .int .i64 sx] 36)) := (Below.refl _ _).alloc (Nat.le_refl _) _
    replace O6 := O6.keep ba
    replace hb := hb.trans (ba.mono hb.size)
    clear ba
    generalize w3.alloc (.cells #[.int .i64 (r : Int), .int .i64 (c : Int), .slice A5 sl.length c5, .int .i64 p, .int .i64 q, .int .i64 sb, .int .i64 sr, .int .i64 sx] 36) = v6 at *
    have hown : v6.ownsRow w.heap.size 57 4 (.slice none 0 0) 0 [] := World.ownsRow_nil _ _ _ _
    go_wp2
    go_loopw [7, 18] (fun v i wr => ∃ k : Nat, i = .int .i64 k ∧ k ≤ rs.length ∧ wr.ownsRow w.heap.size 57 4 v k (flatL (rs.take k)) ∧ Own wr A6 85 (flatR rs) ∧ Below w.heap.size w wr) (fun _ i _ => rs.length - (intOf i).toNat)
    case atStart => exact ⟨0, rfl, Nat.zero_le _, hown, O6, hb⟩
    case round =>
      clear hown O6 hb
      obtain ⟨k, rfl, hk, hown, O6, hb⟩ := hrel
      have hs := hb.size
      by_cases hlt : k < rs.length
      · obtain ⟨gr, rest, rfl, Xr⟩ := O6 (by rw [flatR_len]; omega)
        obtain ⟨hc0, hc1⟩ := flatR_at rs k hlt
        have hk0 : wr.cell? ⟨gr, k * 2, none⟩ = some (.int .i64 rs[k].1) := (Xr.cell _).trans (by rw [List.getElem?_append_left (by rw [flatR_len]; omega)]; exact hc0)
        have hk1 : wr.cell? ⟨gr, k * 2 + 1, none⟩ = some (endV (rs[k].2.1, rs[k].2.2.1, rs[k].2.2.2)) := (Xr.cell _).trans (by rw [List.getElem?_append_left (by rw [flatR_len]; omega)]; exact hc1)
        have HT := Lib.hid (takeLF_succ hlt)
        have hgl := Xr.lt
        clear hc0 hc1 O6
        generalize rs[k].1 = x at *
        generalize rs[k].2.1 = y at *
        generalize rs[k].2.2.1 = z at *
        generalize rs[k].2.2.2 = u at *
        generalize hFL : flatL (rs.take k) = fl at *
        by_cases hy1 : y = 1
        · rw [endV_in hy1] at hk1
          have bl : Below wr.heap.size wr (wr.alloc (.cells #[.int .i64 x, .iface 117 (.agg #[.int .i64 y, .int .i64 z, .int .i64 u])] 85)) := (Below.refl _ _).alloc (Nat.le_refl _) _
          have Xf : Whole (wr.alloc (.cells #[.int .i64 x, .iface 117 (.agg #[.int .i64 y, .int .i64 z, .int .i64 u])] 85)) wr.heap.size 85 [.int .i64 x, .iface 117 (.agg #[.int .i64 y, .int .i64 z, .int .i64 u])] := heap_alloc_new wr _
          replace hown := row_keep hown bl
          replace Xr := Xr.below bl Xr.lt
          have B1 := hb.trans (bl.mono hs)
          have hs1 := B1.size
          clear bl hb hy1
          go_upto_region 6 with (fail)
          generalize wr.alloc (.cells #[.int .i64 x, .iface 117 (.agg #[.int .i64 y, .int .i64 z, .int .i64 u])] 85) = wl at *
          have bd : Below wl.heap.size wl wl.drew := (Below.refl _ _).drew
          have q0 : wl.drew.cell? ⟨wr.heap.size, 0, none⟩ = some (.int .i64 x) := (Xf.below bd Xf.lt).cell 0
          have q1 : wl.drew.cell? ⟨wr.heap.size, 1, none⟩ = some (.iface 117 (.agg #[.int .i64 y, .int .i64 z, .int .i64 u])) := (Xf.below bd Xf.lt).cell 1
          have h0 : wr.heap.size < wl.drew.heap.size := Xf.lt
          have HOWN := Lib.hid (row_keep hown bd)
          have HB := Lib.hid (B1.trans (bd.mono hs1))
          have HXr := Lib.hid (Xr.below bd Xr.lt)
          clear hk0 hk1 hown Xr Xf bd
          go_region_law (first
            | (refine step_append_lies _ (by rfl) _ _ _ (by rfl) w.heap.size 57 i0 _ 4 32 Tryz.underlying38 hi hz0 hz1 hz2 rfl (by omega) u7 k fl (by simp [Act.eval, Act.put]) (HOWN.out.alloc _) ⟨w7.heap.size, 0, none⟩ 1 1 [.int .i64 x, .int .i64 y, .int .i64 z, .int .i64 u] (by simp [Act.eval, Act.put]) rfl four_cellsL four_oneL (by omega) (by unfold maxLen; omega) (by omega) (by rw [World.size_alloc]; exact Nat.le_succ_of_le HB.out.size) _ rfl ?_; intro g9 c9 w9 hown9 hg9 hat9 hlt9)
            | (go_simp; go_wp2_with (first | (go_at_call 134; refine (impl_fall3 _ _ _ _).mono ?_; rintro e w7 ⟨rfl, b7⟩; replace q0 := (b7.cell (p := ⟨wr.heap.size, 0, none⟩) h0).trans q0; replace h0 : wr.heap.size < w7.heap.size := Nat.lt_of_lt_of_le h0 b7.size; replace HXr := Lib.hid (HXr.out.below b7 HXr.out.lt); replace HOWN := Lib.hid (row_keep HOWN.out b7); replace HB := Lib.hid (HB.out.trans (b7.mono HB.out.size)); clear q1) | fail))
            | fail)
          all_goals
            have hY := HOWN.out.alloc (.cells #[.int .i64 x, .int .i64 y, .int .i64 z, .int .i64 u] 57)
            have hb9 : Below w.heap.size w w9 := row_below hY (HB.out.alloc HB.out.size _) (by rw [World.size_alloc]; exact Nat.le_succ_of_le HB.out.size) hg9
            have Xr9 := (HXr.out.alloc (.cells #[.int .i64 x, .int .i64 y, .int .i64 z, .int .i64 u] 57)).grown hg9 (row_apart hY (HXr.out.alloc _) (by decide))
            rw [← HT.out] at hown9
            clear hY hg9 hat9 hlt9 HOWN HB HXr
            go_wp2
            exact ⟨⟨k + 1, by go_num, by omega, hown9, fun _ => ⟨gr, rest, rfl, Xr9⟩, hb9⟩, by simp [intOf]; omega⟩
        · rw [endV_out hy1] at hk1
          have bl : Below wr.heap.size wr (wr.alloc (.cells #[.int .i64 x, .iface 118 (.agg #[.int .i64 y, .int .i64 z, .int .i64 u])] 85)) := (Below.refl _ _).alloc (Nat.le_refl _) _
          have Xf : Whole (wr.alloc (.cells #[.int .i64 x, .iface 118 (.agg #[.int .i64 y, .int .i64 z, .int .i64 u])] 85)) wr.heap.size 85 [.int .i64 x, .iface 118 (.agg #[.int .i64 y, .int .i64 z, .int .i64 u])] := heap_alloc_new wr _
          replace hown := row_keep hown bl
          replace Xr := Xr.below bl Xr.lt
          have B1 := hb.trans (bl.mono hs)
          have hs1 := B1.size
          clear bl hb hy1
          go_upto_region 6 with (fail)
          generalize wr.alloc (.cells #[.int .i64 x, .iface 118 (.agg #[.int .i64 y, .int .i64 z, .int .i64 u])] 85) = wl at *
          have bd : Below wl.heap.size wl wl.drew := (Below.refl _ _).drew
          have q0 : wl.drew.cell? ⟨wr.heap.size, 0, none⟩ = some (.int .i64 x) := (Xf.below bd Xf.lt).cell 0
          have q1 : wl.drew.cell? ⟨wr.heap.size, 1, none⟩ = some (.iface 118 (.agg #[.int .i64 y, .int .i64 z, .int .i64 u])) := (Xf.below bd Xf.lt).cell 1
          have h0 : wr.heap.size < wl.drew.heap.size := Xf.lt
          have HOWN := Lib.hid (row_keep hown bd)
          have HB := Lib.hid (B1.trans (bd.mono hs1))
          have HXr := Lib.hid (Xr.below bd Xr.lt)
          clear hk0 hk1 hown Xr Xf bd
          go_region_law (first
            | (refine step_append_lies _ (by rfl) _ _ _ (by rfl) w.heap.size 57 i0 _ 4 32 Tryz.underlying38 hi hz0 hz1 hz2 rfl (by omega) u7 k fl (by simp [Act.eval, Act.put]) (HOWN.out.alloc _) ⟨w7.heap.size, 0, none⟩ 1 1 [.int .i64 x, .int .i64 y, .int .i64 z, .int .i64 u] (by simp [Act.eval, Act.put]) rfl four_cellsL four_oneL (by omega) (by unfold maxLen; omega) (by omega) (by rw [World.size_alloc]; exact Nat.le_succ_of_le HB.out.size) _ rfl ?_; intro g9 c9 w9 hown9 hg9 hat9 hlt9)
            | (go_simp; go_wp2_with (first | (go_at_call 135; refine (impl_fall4 _ _ _ _).mono ?_; rintro e w7 ⟨rfl, b7⟩; replace q0 := (b7.cell (p := ⟨wr.heap.size, 0, none⟩) h0).trans q0; replace h0 : wr.heap.size < w7.heap.size := Nat.lt_of_lt_of_le h0 b7.size; replace HXr := Lib.hid (HXr.out.below b7 HXr.out.lt); replace HOWN := Lib.hid (row_keep HOWN.out b7); replace HB := Lib.hid (HB.out.trans (b7.mono HB.out.size)); clear q1) | fail))
            | fail)
          all_goals
            have hY := HOWN.out.alloc (.cells #[.int .i64 x, .int .i64 y, .int .i64 z, .int .i64 u] 57)
            have hb9 : Below w.heap.size w w9 := row_below hY (HB.out.alloc HB.out.size _) (by rw [World.size_alloc]; exact Nat.le_succ_of_le HB.out.size) hg9
            have Xr9 := (HXr.out.alloc (.cells #[.int .i64 x, .int .i64 y, .int .i64 z, .int .i64 u] 57)).grown hg9 (row_apart hY (HXr.out.alloc _) (by decide))
            rw [← HT.out] at hown9
            clear hY hg9 hat9 hlt9 HOWN HB HXr
            go_wp2
            exact ⟨⟨k + 1, by go_num, by omega, hown9, fun _ => ⟨gr, rest, rfl, Xr9⟩, hb9⟩, by simp [intOf]; omega⟩
      · obtain rfl : k = rs.length := by omega
        rw [List.take_length] at hown
        clear hlt hk
        go_wp2
        go_returns
        exact PostLG.of_row rfl hown hb
  · rw [ho, if_neg (by decide)]
    have HG := Lib.hid (fun w' h => impl_runSteps_no R C A cap l p q bl rd nx 60 w' ho hn h)
    have HO := Lib.hid ho
    clear ho
    go_enter Tryz.func25, Tryz.ntmps25
    obtain ⟨v0, hv0⟩ : ∃ v, v = w.alloc (.cells #[.int .i64 R, .int .i64 C, .slice A l.length cap, .int .i64 p, .int .i64 q, .int .i64 bl, .int .i64 rd, .int .i64 nx] 36) := ⟨_, rfl⟩; have X0 : Whole v0 w.heap.size 36 [.int .i64 R, .int .i64 C, .slice A l.length cap, .int .i64 p, .int .i64 q, .int .i64 bl, .int .i64 rd, .int .i64 nx] := (by rw [hv0]; exact heap_alloc_new w _); have hb : Below w.heap.size w v0 := (by rw [hv0]; exact (Below.refl _ _).alloc (Nat.le_refl _) _); have HV := Lib.hid hv0.symm; clear hv0; go_upto_region 1 with (fail); rewrite [HV.out]; clear HV; have hy := X0.lt
    have X0k0 : v0.cell? ⟨w.heap.size, 0, none⟩ = some (.int .i64 R) := (X0.cell 0).trans rfl; have X0k1 : v0.cell? ⟨w.heap.size, 1, none⟩ = some (.int .i64 C) := (X0.cell 1).trans rfl; have X0k2 : v0.cell? ⟨w.heap.size, 2, none⟩ = some (.slice A l.length cap) := (X0.cell 2).trans rfl; have X0k3 : v0.cell? ⟨w.heap.size, 3, none⟩ = some (.int .i64 p) := (X0.cell 3).trans rfl; have X0k4 : v0.cell? ⟨w.heap.size, 4, none⟩ = some (.int .i64 q) := (X0.cell 4).trans rfl; have X0k5 : v0.cell? ⟨w.heap.size, 5, none⟩ = some (.int .i64 bl) := (X0.cell 5).trans rfl; have X0k6 : v0.cell? ⟨w.heap.size, 6, none⟩ = some (.int .i64 rd) := (X0.cell 6).trans rfl; have X0k7 : v0.cell? ⟨w.heap.size, 7, none⟩ = some (.int .i64 nx) := (X0.cell 7).trans rfl
    go_wp2_with fail
    refine (HG.out _ ((hr.below hb).mono hb.size)).mono ?_; rintro e w3 ⟨rfl, b3⟩
    clear HG
    clear X0k0 X0k1 X0k2 X0k3 X0k4 X0k5 X0k6 X0k7
    (replace X0 := X0.below b3 X0.lt; replace hb := hb.trans (b3.mono hb.size); have hy := X0.lt; clear b3)
    go_upto_region 2 with (fail)
    replace hb : Below w.heap.size w (w3.alloc (.cells #[.int .i64 0, .int .i64 0, .slice none 0 0, .int .i64 0, .int .i64 0, .int .i64 0, .int .i64 0, .int .i64 0] 36)) := hb.alloc hb.size _
    generalize w3.alloc (.cells #[.int .i64 0, .int .i64 0, .slice none 0 0, .int .i64 0, .int .i64 0, .int .i64 0, .int .i64 0, .int .i64 0] 36) = v6 at *
    clear X0 hy
    go_wp2
    go_rounds 1
    go_returns
    exact PostLG.none_ hb
end Go.Proofs.YtlambflmabecfaaGreat
namespace Go.Proofs.YtlambflmabecfaaGreat
open Go.ChangeShapes Go.WideShapes Go.ChangeAt Go.RowKit Go.Joins Go.Deep
set_option linter.unusedSimpArgs false
set_option linter.unusedVariables false
set_option maxRecDepth 100000
set_option maxHeartbeats 4000000
theorem runM_add (R C p q : Int) : ∀ (n m : Nat) (s : MSt), runM R C p q (n + m) s = runM R C p q m (runM R C p q n s)
  | 0, m, s => by rw [Nat.zero_add]; rfl
  | n + 1, m, s => by
    rcases Bool.eq_false_or_eq_true (canM s.bl s.rd s.nx) with hc | hc
    · rw [show n + 1 + m = n + m + 1 by omega, runM_go hc, runM_go hc]
      exact runM_add R C p q n m _
    · rw [runM_stop hc, runM_stop hc, runM_stop hc]
theorem runM_le (R C p q : Int) : ∀ (n : Nat) (s : MSt), (runM R C p q n s).fs.length ≤ s.fs.length + n
  | 0, s => Nat.le_refl _
  | n + 1, s => by
    rcases Bool.eq_false_or_eq_true (canM s.bl s.rd s.nx) with hc | hc
    · rw [runM_go hc]
      have h := runM_le R C p q n (stepM R C p q s)
      have e : (stepM R C p q s).fs.length = s.fs.length + 1 := by show (s.fs ++ [_]).length = _; rw [List.length_append]; rfl
      omega
    · rw [runM_stop hc]
      omega
theorem relS_ext (R C p q : Int) : ∀ (n : Nat) (s : MSt), s.cs.length = s.fs.length → (runM R C p q n s).cs.length = (runM R C p q n s).fs.length ∧ ∃ t, relS (runM R C p q n s) = relS s ++ t
  | 0, s, h => ⟨h, [], by rw [List.append_nil]; rfl⟩
  | n + 1, s, h => by
    rcases Bool.eq_false_or_eq_true (canM s.bl s.rd s.nx) with hc | hc
    · rw [runM_go hc]
      have e : (stepM R C p q s).cs.length = (stepM R C p q s).fs.length := by show (s.cs ++ [_]).length = (s.fs ++ [_]).length; rw [List.length_append, List.length_append, h]; rfl
      obtain ⟨h1, t, h2⟩ := relS_ext R C p q n _ e
      refine ⟨h1, [(s.nx, (marO R C s.l (colM p q s.nx)).e, (marO R C s.l (colM p q s.nx)).row, (marO R C s.l (colM p q s.nx)).col)] ++ t, ?_⟩
      rw [h2, relS_step R C p q h, List.append_assoc]
    · rw [runM_stop hc]
      exact ⟨h, [], by rw [List.append_nil]⟩
theorem relS_take (R C p q : Int) (n m : Nat) (s : MSt) (h : s.cs.length = s.fs.length) (h0 : s.fs = []) : relS (runM R C p q n s) = (relS (runM R C p q (n + m) s)).take n := by
  rw [runM_add]
  have h1 := (relS_ext R C p q n s h).1
  have h2 := runM_le R C p q n s
  rw [h0, List.length_nil, Nat.zero_add] at h2
  have h3 := relS_len h1
  rcases runM_more R C p q n s with hc | hc
  · rw [runM_stop hc, List.take_of_length_le (by omega)]
  · rw [h0, List.length_nil, Nat.zero_add] at hc
    obtain ⟨_, t, h4⟩ := relS_ext R C p q m _ h1
    rw [h4, List.take_left' (by omega)]
def okX (R C : Int) (l : List (Int × Int)) (p q bl rd nx : Int) (m : List LE) : Bool := okM R C l p q bl rd nx && okLog m
def expO (R C : Int) (l : List (Int × Int)) (p q bl rd nx : Int) (m : List LE) : Bool := okX R C l p q bl rd nx m && decide (agreeL (relS (finO R C l p q bl rd nx)) m = m.length)
theorem agree_run {R C : Int} {l : List (Int × Int)} {p q bl rd nx : Int} {m : List LE} (ho : okM R C l p q bl rd nx = true) (hm : m.length ≤ 60) : agreeL (relS (runM R C p q m.length ⟨l, bl, rd, nx, [], []⟩)) m = agreeL (relS (finO R C l p q bl rd nx)) m := by
  unfold finO
  rw [ho, if_pos rfl, relS_take R C p q m.length (60 - m.length) _ rfl rfl, show m.length + (60 - m.length) = 60 by omega, agree_take _ _ _ (Nat.le_refl _)]
theorem spec_ExplainsLog (R C : Int) (A : Option Addr) (cap : Nat) (l : List (Int × Int)) (p q bl rd nx : Int) (A' : Option Addr) (cap' : Nat) (m : List LE) (w : World) (hn : l.length ≤ 1048576) (hr : Rd w w.heap.size A (flat l)) (hn' : m.length ≤ 1048576) (hr' : Rd w w.heap.size A' (flatL m)) :
    Calls Tryz.prog 7 #[.agg #[.int .i64 R, .int .i64 C, .slice A l.length cap, .int .i64 p, .int .i64 q, .int .i64 bl, .int .i64 rd, .int .i64 nx], .slice A' m.length cap'] w fun e w' => e = .returned (.tuple #[.bool (expO R C l p q bl rd nx m), .bool (okX R C l p q bl rd nx m)]) ∧ Below w.heap.size w w' := by
  rcases Bool.eq_false_or_eq_true (okM R C l p q bl rd nx) with ho | ho
  · have HO := Lib.hid ho
    rcases Bool.eq_false_or_eq_true (okLog m) with hm | hm
    · have HM := Lib.hid hm
      have hm60 := (okLog_parts hm).1
      have hX : okX R C l p q bl rd nx m = true := by unfold okX; rw [ho, hm]; rfl
      have hE : expO R C l p q bl rd nx m = decide (agreeL (relS (finO R C l p q bl rd nx)) m = m.length) := by unfold expO; rw [hX, Bool.true_and]
      rw [hX, hE, ← agree_run ho hm60]
      obtain ⟨r, c, rfl, rfl, hG, hg, hp, hq⟩ := okM_ints ho
      obtain ⟨_, _, hpos⟩ := goodB_parts hg
      obtain ⟨b, o, rfl, hbl, hc⟩ := hr (by rw [flat_length]; omega)
      have hr2 : Rd w w.heap.size (some ⟨b, o, none⟩) (flat l) := fun _ => ⟨b, o, rfl, hbl, hc⟩
      have HG := Lib.hid (fun w' h => spec_loOf r c b o cap l p q bl rd nx m.length w' ho hm60 h)
      have hL := relS_len (MOk.run hp hq m.length _ (MOk.start ho)).same
      have hfew := (MOk.run hp hq m.length _ (MOk.start ho)).few
      generalize runM (r : Int) (c : Int) p q m.length ⟨l, bl, rd, nx, [], []⟩ = s at *
      generalize hN : agreeL (relS s) m = n at *
      have HN := Lib.hid hN
      clear ho hm hX hE hr hG hg hp hq hc hbl hN
      go_enter Tryz.func7, Tryz.ntmps7
      obtain ⟨v0, hv0⟩ : ∃ v, v = w.alloc (.cells #[.int .i64 (r : Int), .int .i64 (c : Int), .slice (some ⟨b, o, none⟩) l.length cap, .int .i64 p, .int .i64 q, .int .i64 bl, .int .i64 rd, .int .i64 nx] 36) := ⟨_, rfl⟩; have X0 : Whole v0 w.heap.size 36 [.int .i64 (r : Int), .int .i64 (c : Int), .slice (some ⟨b, o, none⟩) l.length cap, .int .i64 p, .int .i64 q, .int .i64 bl, .int .i64 rd, .int .i64 nx] := (by rw [hv0]; exact heap_alloc_new w _); have hb : Below w.heap.size w v0 := (by rw [hv0]; exact (Below.refl _ _).alloc (Nat.le_refl _) _); have HV := Lib.hid hv0.symm; clear hv0; go_upto_region 1 with (fail); rewrite [HV.out]; clear HV; have hy := X0.lt
      have X0k0 : v0.cell? ⟨w.heap.size, 0, none⟩ = some (.int .i64 (r : Int)) := (X0.cell 0).trans rfl; have X0k1 : v0.cell? ⟨w.heap.size, 1, none⟩ = some (.int .i64 (c : Int)) := (X0.cell 1).trans rfl; have X0k2 : v0.cell? ⟨w.heap.size, 2, none⟩ = some (.slice (some ⟨b, o, none⟩) l.length cap) := (X0.cell 2).trans rfl; have X0k3 : v0.cell? ⟨w.heap.size, 3, none⟩ = some (.int .i64 p) := (X0.cell 3).trans rfl; have X0k4 : v0.cell? ⟨w.heap.size, 4, none⟩ = some (.int .i64 q) := (X0.cell 4).trans rfl; have X0k5 : v0.cell? ⟨w.heap.size, 5, none⟩ = some (.int .i64 bl) := (X0.cell 5).trans rfl; have X0k6 : v0.cell? ⟨w.heap.size, 6, none⟩ = some (.int .i64 rd) := (X0.cell 6).trans rfl; have X0k7 : v0.cell? ⟨w.heap.size, 7, none⟩ = some (.int .i64 nx) := (X0.cell 7).trans rfl
      go_wp2_with fail
      refine (spec_maGood _ _ _ _ l _ _ _ _ _ _ hn ((hr2.below hb).mono hb.size)).mono ?_; rintro e w1 ⟨rfl, b1⟩
      clear X0k0 X0k1 X0k2 X0k3 X0k4 X0k5 X0k6 X0k7
      (replace X0 := X0.below b1 X0.lt; replace hb := hb.trans (b1.mono hb.size); have hy := X0.lt; clear b1)
      rewrite [HO.out]
      go_wp2_with fail
      refine (spec_loGood _ _ _ _ hn' ((hr'.below hb).mono hb.size)).mono ?_; rintro e w2 ⟨rfl, b2⟩
      (replace X0 := X0.below b2 X0.lt; replace hb := hb.trans (b2.mono hb.size); have hy := X0.lt; clear b2)
      rewrite [HM.out]
      have X0k0 : w2.cell? ⟨w.heap.size, 0, none⟩ = some (.int .i64 (r : Int)) := (X0.cell 0).trans rfl; have X0k1 : w2.cell? ⟨w.heap.size, 1, none⟩ = some (.int .i64 (c : Int)) := (X0.cell 1).trans rfl; have X0k2 : w2.cell? ⟨w.heap.size, 2, none⟩ = some (.slice (some ⟨b, o, none⟩) l.length cap) := (X0.cell 2).trans rfl; have X0k3 : w2.cell? ⟨w.heap.size, 3, none⟩ = some (.int .i64 p) := (X0.cell 3).trans rfl; have X0k4 : w2.cell? ⟨w.heap.size, 4, none⟩ = some (.int .i64 q) := (X0.cell 4).trans rfl; have X0k5 : w2.cell? ⟨w.heap.size, 5, none⟩ = some (.int .i64 bl) := (X0.cell 5).trans rfl; have X0k6 : w2.cell? ⟨w.heap.size, 6, none⟩ = some (.int .i64 rd) := (X0.cell 6).trans rfl; have X0k7 : w2.cell? ⟨w.heap.size, 7, none⟩ = some (.int .i64 nx) := (X0.cell 7).trans rfl
      go_wp2_with fail
      refine (HG.out _ ((hr2.below hb).mono hb.size)).mono ?_; rintro e w3 hP
      obtain ⟨v, A5, c5, rfl, h2, O5, N5, b3⟩ := hP
      clear HG O5 N5
      clear X0k0 X0k1 X0k2 X0k3 X0k4 X0k5 X0k6 X0k7
      obtain ⟨A6, c6, rfl, O6, N6⟩ := own_slice h2
      (replace X0 := X0.below b3 X0.lt; replace hb := hb.trans (b3.mono hb.size); have hy := X0.lt; clear b3)
      clear h2 N6 X0 hy
      have hrl : (relS s).length ≤ 60 := by omega
      rw [← hL]
      clear hL hfew
      generalize relS s = rs at *
      obtain ⟨sl, sb, sr, sx, scs, sfs⟩ := s
      go_upto_region 4 with (fail)
      have ba : Below w3.heap.size w3 (w3.alloc (.cells #[.int .i64 (r : Int), .int .i64 (c : Int), .slice A5 sl.length c5, .int .i64 p, .int .i64 q, .int .i64 sb, .int .i64 sr, .int .i64 sx] 36)) := (Below.refl _ _).alloc (Nat.le_refl _) _
      replace O6 := O6.keep ba
      replace hb := hb.trans (ba.mono hb.size)
      clear ba
      generalize w3.alloc (.cells #[.int .i64 (r : Int), .int .i64 (c : Int), .slice A5 sl.length c5, .int .i64 p, .int .i64 q, .int .i64 sb, .int .i64 sr, .int .i64 sx] 36) = v6 at *
      have hs6 := hb.size
      go_wp2_with fail
      refine (spec_loAgree A6 c6 rs A' cap' m _ (by omega) O6.rd ((hr'.below hb).mono hb.size)).mono ?_; rintro e w7 ⟨rfl, b7⟩
      rewrite [HN.out]
      by_cases he : n = m.length
      · have he' : ((n : Int) == (m.length : Int)) = true := by rw [beq_iff_eq]; omega
        have HE := Lib.hid he
        clear he
        go_wp2
        go_returns
        exact ⟨by rw [decide_eq_true HE.out]; rfl, by (repeat' (first | (with_reducible exact Below.refl _ _) | (with_reducible assumption) | (with_reducible refine Below.alloc ?_ ?_ _) | (with_reducible refine Below.setCell ?_ ?_ _) | (with_reducible refine Below.drew ?_) | (with_reducible refine below_drewN ?_ _) | (with_reducible refine Below.trans ?_ (Below.mono (by assumption) ?_)) | (with_reducible exact Nat.le_refl _) | (simp; done) | omega | (simp at *; omega)))⟩
      · have he' : ((n : Int) == (m.length : Int)) = false := by rw [beq_eq_false_iff_ne]; omega
        have HE := Lib.hid he
        clear he
        go_wp2
        go_returns
        exact ⟨by rw [decide_eq_false HE.out]; rfl, by (repeat' (first | (with_reducible exact Below.refl _ _) | (with_reducible assumption) | (with_reducible refine Below.alloc ?_ ?_ _) | (with_reducible refine Below.setCell ?_ ?_ _) | (with_reducible refine Below.drew ?_) | (with_reducible refine below_drewN ?_ _) | (with_reducible refine Below.trans ?_ (Below.mono (by assumption) ?_)) | (with_reducible exact Nat.le_refl _) | (simp; done) | omega | (simp at *; omega)))⟩
    · have HM := Lib.hid hm
      have hX : okX R C l p q bl rd nx m = false := by unfold okX; rw [ho, hm]; rfl
      have hE : expO R C l p q bl rd nx m = false := by unfold expO; rw [hX, Bool.false_and]
      rw [hX, hE]
      clear ho hm hX hE
      go_enter Tryz.func7, Tryz.ntmps7
      obtain ⟨v0, hv0⟩ : ∃ v, v = w.alloc (.cells #[.int .i64 R, .int .i64 C, .slice A l.length cap, .int .i64 p, .int .i64 q, .int .i64 bl, .int .i64 rd, .int .i64 nx] 36) := ⟨_, rfl⟩; have X0 : Whole v0 w.heap.size 36 [.int .i64 R, .int .i64 C, .slice A l.length cap, .int .i64 p, .int .i64 q, .int .i64 bl, .int .i64 rd, .int .i64 nx] := (by rw [hv0]; exact heap_alloc_new w _); have hb : Below w.heap.size w v0 := (by rw [hv0]; exact (Below.refl _ _).alloc (Nat.le_refl _) _); have HV := Lib.hid hv0.symm; clear hv0; go_upto_region 1 with (fail); rewrite [HV.out]; clear HV; have hy := X0.lt
      have X0k0 : v0.cell? ⟨w.heap.size, 0, none⟩ = some (.int .i64 R) := (X0.cell 0).trans rfl; have X0k1 : v0.cell? ⟨w.heap.size, 1, none⟩ = some (.int .i64 C) := (X0.cell 1).trans rfl; have X0k2 : v0.cell? ⟨w.heap.size, 2, none⟩ = some (.slice A l.length cap) := (X0.cell 2).trans rfl; have X0k3 : v0.cell? ⟨w.heap.size, 3, none⟩ = some (.int .i64 p) := (X0.cell 3).trans rfl; have X0k4 : v0.cell? ⟨w.heap.size, 4, none⟩ = some (.int .i64 q) := (X0.cell 4).trans rfl; have X0k5 : v0.cell? ⟨w.heap.size, 5, none⟩ = some (.int .i64 bl) := (X0.cell 5).trans rfl; have X0k6 : v0.cell? ⟨w.heap.size, 6, none⟩ = some (.int .i64 rd) := (X0.cell 6).trans rfl; have X0k7 : v0.cell? ⟨w.heap.size, 7, none⟩ = some (.int .i64 nx) := (X0.cell 7).trans rfl
      go_wp2_with fail
      refine (spec_maGood _ _ _ _ l _ _ _ _ _ _ hn ((hr.below hb).mono hb.size)).mono ?_; rintro e w1 ⟨rfl, b1⟩
      clear X0k0 X0k1 X0k2 X0k3 X0k4 X0k5 X0k6 X0k7
      (replace X0 := X0.below b1 X0.lt; replace hb := hb.trans (b1.mono hb.size); have hy := X0.lt; clear b1)
      rewrite [HO.out]
      go_wp2_with fail
      refine (spec_loGood _ _ _ _ hn' ((hr'.below hb).mono hb.size)).mono ?_; rintro e w2 ⟨rfl, b2⟩
      (replace X0 := X0.below b2 X0.lt; replace hb := hb.trans (b2.mono hb.size); have hy := X0.lt; clear b2)
      rewrite [HM.out]
      go_wp2
      go_returns
      exact ⟨rfl, hb⟩
  · have HO := Lib.hid ho
    have hX : okX R C l p q bl rd nx m = false := by unfold okX; rw [ho]; rfl
    have hE : expO R C l p q bl rd nx m = false := by unfold expO; rw [hX, Bool.false_and]
    rw [hX, hE]
    clear ho hX hE
    go_enter Tryz.func7, Tryz.ntmps7
    obtain ⟨v0, hv0⟩ : ∃ v, v = w.alloc (.cells #[.int .i64 R, .int .i64 C, .slice A l.length cap, .int .i64 p, .int .i64 q, .int .i64 bl, .int .i64 rd, .int .i64 nx] 36) := ⟨_, rfl⟩; have X0 : Whole v0 w.heap.size 36 [.int .i64 R, .int .i64 C, .slice A l.length cap, .int .i64 p, .int .i64 q, .int .i64 bl, .int .i64 rd, .int .i64 nx] := (by rw [hv0]; exact heap_alloc_new w _); have hb : Below w.heap.size w v0 := (by rw [hv0]; exact (Below.refl _ _).alloc (Nat.le_refl _) _); have HV := Lib.hid hv0.symm; clear hv0; go_upto_region 1 with (fail); rewrite [HV.out]; clear HV; have hy := X0.lt
    have X0k0 : v0.cell? ⟨w.heap.size, 0, none⟩ = some (.int .i64 R) := (X0.cell 0).trans rfl; have X0k1 : v0.cell? ⟨w.heap.size, 1, none⟩ = some (.int .i64 C) := (X0.cell 1).trans rfl; have X0k2 : v0.cell? ⟨w.heap.size, 2, none⟩ = some (.slice A l.length cap) := (X0.cell 2).trans rfl; have X0k3 : v0.cell? ⟨w.heap.size, 3, none⟩ = some (.int .i64 p) := (X0.cell 3).trans rfl; have X0k4 : v0.cell? ⟨w.heap.size, 4, none⟩ = some (.int .i64 q) := (X0.cell 4).trans rfl; have X0k5 : v0.cell? ⟨w.heap.size, 5, none⟩ = some (.int .i64 bl) := (X0.cell 5).trans rfl; have X0k6 : v0.cell? ⟨w.heap.size, 6, none⟩ = some (.int .i64 rd) := (X0.cell 6).trans rfl; have X0k7 : v0.cell? ⟨w.heap.size, 7, none⟩ = some (.int .i64 nx) := (X0.cell 7).trans rfl
    go_wp2_with fail
    refine (spec_maGood _ _ _ _ l _ _ _ _ _ _ hn ((hr.below hb).mono hb.size)).mono ?_; rintro e w1 ⟨rfl, b1⟩
    clear X0k0 X0k1 X0k2 X0k3 X0k4 X0k5 X0k6 X0k7
    (replace X0 := X0.below b1 X0.lt; replace hb := hb.trans (b1.mono hb.size); have hy := X0.lt; clear b1)
    rewrite [HO.out]
    go_wp2
    go_returns
    exact ⟨rfl, hb⟩
theorem impl_ExplainsLog (R C : Int) (A : Option Addr) (cap : Nat) (l : List (Int × Int)) (p q bl rd nx : Int) (A' : Option Addr) (cap' : Nat) (m : List LE) (w : World) (hn : l.length ≤ 1048576) (hr : Rd w w.heap.size A (flat l)) (hn' : m.length ≤ 1048576) (hr' : Rd w w.heap.size A' (flatL m)) :
    Calls Tryz.prog 10 #[.agg #[.int .i64 R, .int .i64 C, .slice A l.length cap, .int .i64 p, .int .i64 q, .int .i64 bl, .int .i64 rd, .int .i64 nx], .slice A' m.length cap'] w fun e w' => e = .returned (.tuple #[.bool (expO R C l p q bl rd nx m), .bool (okX R C l p q bl rd nx m)]) ∧ Below w.heap.size w w' := by
  have HQ := Lib.hid (fun w' h => impl_LogOf R C A cap l p q bl rd nx w' hn h)
  have hrl := relS_few R C l p q bl rd nx
  unfold expO okX
  generalize relS (finO R C l p q bl rd nx) = rs at *
  generalize okM R C l p q bl rd nx = ok at *
  go_enter Tryz.func10, Tryz.ntmps10
  obtain ⟨v0, hv0⟩ : ∃ v, v = w.alloc (.cells #[.int .i64 R, .int .i64 C, .slice A l.length cap, .int .i64 p, .int .i64 q, .int .i64 bl, .int .i64 rd, .int .i64 nx] 36) := ⟨_, rfl⟩; have X0 : Whole v0 w.heap.size 36 [.int .i64 R, .int .i64 C, .slice A l.length cap, .int .i64 p, .int .i64 q, .int .i64 bl, .int .i64 rd, .int .i64 nx] := (by rw [hv0]; exact heap_alloc_new w _); have hb : Below w.heap.size w v0 := (by rw [hv0]; exact (Below.refl _ _).alloc (Nat.le_refl _) _); have HV := Lib.hid hv0.symm; clear hv0; go_upto_region 1 with (fail); rewrite [HV.out]; clear HV; have hy := X0.lt
  have X0k0 : v0.cell? ⟨w.heap.size, 0, none⟩ = some (.int .i64 R) := (X0.cell 0).trans rfl; have X0k1 : v0.cell? ⟨w.heap.size, 1, none⟩ = some (.int .i64 C) := (X0.cell 1).trans rfl; have X0k2 : v0.cell? ⟨w.heap.size, 2, none⟩ = some (.slice A l.length cap) := (X0.cell 2).trans rfl; have X0k3 : v0.cell? ⟨w.heap.size, 3, none⟩ = some (.int .i64 p) := (X0.cell 3).trans rfl; have X0k4 : v0.cell? ⟨w.heap.size, 4, none⟩ = some (.int .i64 q) := (X0.cell 4).trans rfl; have X0k5 : v0.cell? ⟨w.heap.size, 5, none⟩ = some (.int .i64 bl) := (X0.cell 5).trans rfl; have X0k6 : v0.cell? ⟨w.heap.size, 6, none⟩ = some (.int .i64 rd) := (X0.cell 6).trans rfl; have X0k7 : v0.cell? ⟨w.heap.size, 7, none⟩ = some (.int .i64 nx) := (X0.cell 7).trans rfl
  go_wp2_with fail
  refine (HQ.out _ ((hr.below hb).mono hb.size)).mono ?_; rintro e w1 hP
  obtain ⟨A6, c6, rfl, O6, N6, b1⟩ := hP
  clear HQ N6
  clear X0k0 X0k1 X0k2 X0k3 X0k4 X0k5 X0k6 X0k7
  (replace X0 := X0.below b1 X0.lt; replace hb := hb.trans (b1.mono hb.size); have hy := X0.lt; clear b1)
  clear X0 hy
  cases ok with
  | false =>
    go_wp2
    go_returns
    exact ⟨rfl, hb⟩
  | true =>
    go_wp2_with fail
    refine (impl_IsLog _ _ _ _ hn' ((hr'.below hb).mono hb.size)).mono ?_; rintro e w2 ⟨rfl, b2⟩
    have hb2 := hb.trans (b2.mono hb.size)
    have O62 := O6.keep b2
    clear b2 hb O6
    rcases Bool.eq_false_or_eq_true (okLog m) with hm | hm
    · have HM := Lib.hid hm
      rw [hm]
      have hs2 := hb2.size
      clear hm
      go_wp2_with fail
      refine (impl_countAgreeing A6 c6 rs A' cap' m _ (by omega) O62.rd ((hr'.below hb2).mono hb2.size)).mono ?_; rintro e w7 ⟨rfl, b7⟩
      generalize hN : agreeL rs m = n at *
      have HN := Lib.hid hN
      clear hN
      by_cases he : n = m.length
      · have he' : ((n : Int) == (m.length : Int)) = true := by rw [beq_iff_eq]; omega
        have HE := Lib.hid he
        clear he
        go_wp2
        go_returns
        exact ⟨by rw [HM.out, HN.out, decide_eq_true HE.out]; rfl, by (repeat' (first | (with_reducible exact Below.refl _ _) | (with_reducible assumption) | (with_reducible refine Below.alloc ?_ ?_ _) | (with_reducible refine Below.setCell ?_ ?_ _) | (with_reducible refine Below.drew ?_) | (with_reducible refine below_drewN ?_ _) | (with_reducible refine Below.trans ?_ (Below.mono (by assumption) ?_)) | (with_reducible exact Nat.le_refl _) | (simp; done) | omega | (simp at *; omega)))⟩
      · have he' : ((n : Int) == (m.length : Int)) = false := by rw [beq_eq_false_iff_ne]; omega
        have HE := Lib.hid he
        clear he
        go_wp2
        go_returns
        exact ⟨by rw [HM.out, HN.out, decide_eq_false HE.out]; rfl, by (repeat' (first | (with_reducible exact Below.refl _ _) | (with_reducible assumption) | (with_reducible refine Below.alloc ?_ ?_ _) | (with_reducible refine Below.setCell ?_ ?_ _) | (with_reducible refine Below.drew ?_) | (with_reducible refine below_drewN ?_ _) | (with_reducible refine Below.trans ?_ (Below.mono (by assumption) ?_)) | (with_reducible exact Nat.le_refl _) | (simp; done) | omega | (simp at *; omega)))⟩
    · have HM := Lib.hid hm
      rw [hm]
      clear hm
      go_wp2
      go_returns
      exact ⟨by rw [HM.out]; rfl, hb2⟩
end Go.Proofs.YtlambflmabecfaaGreat
namespace Go.Proofs.YtlambflmabecfaaGreat
open Go.ChangeShapes Go.WideShapes Go.ChangeAt Go.RowKit Go.Joins Go.Deep
set_option linter.unusedSimpArgs false
set_option linter.unusedVariables false
set_option maxRecDepth 100000
set_option maxHeartbeats 4000000
def pickS (b : Bool) (s : MSt) : MSt := if b then s else noM
theorem pickS_yes (s : MSt) : pickS true s = s := rfl
theorem pickS_no (s : MSt) : pickS false s = noM := rfl
def repO (R C : Int) (l : List (Int × Int)) (p q bl rd nx : Int) (m : List LE) : MSt := pickS (expO R C l p q bl rd nx m) (runM R C p q m.length ⟨l, bl, rd, nx, [], []⟩)
theorem repO_len (R C : Int) (l : List (Int × Int)) (p q bl rd nx : Int) (m : List LE) (hn : l.length ≤ 1048576) : (repO R C l p q bl rd nx m).l.length ≤ 1048576 := by
  unfold repO pickS
  split
  · next h =>
    have h1 : okM R C l p q bl rd nx = true := by
      unfold expO okX at h
      simp only [Bool.and_eq_true] at h
      exact h.1.1
    obtain ⟨r, c, rfl, rfl, hG, hg, hp, hq⟩ := okM_ints h1
    rw [(MOk.run hp hq _ _ (MOk.start h1)).len]
    exact hn
  · exact Nat.zero_le _
/-- A machine of the call's own, and whether it succeeds. -/
def PostMR (w : World) (R C : Int) (p q : Int) (s : MSt) (ok : Bool) (e : Ending) (w' : World) : Prop :=
  ∃ A' cap', e = .returned (.tuple #[.agg #[.int .i64 R, .int .i64 C, .slice A' s.l.length cap', .int .i64 p, .int .i64 q, .int .i64 s.bl, .int .i64 s.rd, .int .i64 s.nx], .bool ok]) ∧ Own w' A' 95 (flat s.l) ∧ New w A' ∧ Below w.heap.size w w'
theorem PostMR.none_ {w w' : World} (b : Below w.heap.size w w') : PostMR w 0 0 0 0 noM false (.returned (.tuple #[(.agg #[.int .i64 0, .int .i64 0, .slice none 0 0, .int .i64 0, .int .i64 0, .int .i64 0, .int .i64 0, .int .i64 0]), .bool false])) w' :=
  ⟨none, 0, rfl, Own.none_, New.none_, b⟩
theorem PostMR.mk {w w' : World} {R C p q bl rd nx : Int} {l : List (Int × Int)} {cs : List Int} {fs : List (Int × Int × Int)} {ok : Bool} {A' : Option Addr} {c' : Nat} (O : Own w' A' 95 (flat l)) (N : New w A') (b : Below w.heap.size w w') :
    PostMR w R C p q ⟨l, bl, rd, nx, cs, fs⟩ ok (.returned (.tuple #[.agg #[.int .i64 R, .int .i64 C, .slice A' l.length c', .int .i64 p, .int .i64 q, .int .i64 bl, .int .i64 rd, .int .i64 nx], .bool ok])) w' :=
  ⟨A', c', rfl, O, N, b⟩
theorem spec_ReplayLog (R C : Int) (A : Option Addr) (cap : Nat) (l : List (Int × Int)) (p q bl rd nx : Int) (A' : Option Addr) (cap' : Nat) (m : List LE) (w : World) (hn : l.length ≤ 1048576) (hr : Rd w w.heap.size A (flat l)) (hn' : m.length ≤ 1048576) (hr' : Rd w w.heap.size A' (flatL m)) :
    Calls Tryz.prog 13 #[.agg #[.int .i64 R, .int .i64 C, .slice A l.length cap, .int .i64 p, .int .i64 q, .int .i64 bl, .int .i64 rd, .int .i64 nx], .slice A' m.length cap'] w (PostMR w (selI (expO R C l p q bl rd nx m) R) (selI (expO R C l p q bl rd nx m) C) (selI (expO R C l p q bl rd nx m) p) (selI (expO R C l p q bl rd nx m) q) (repO R C l p q bl rd nx m) (expO R C l p q bl rd nx m)) := by
  unfold repO
  rcases Bool.eq_false_or_eq_true (okM R C l p q bl rd nx) with ho | ho
  · have HO := Lib.hid ho
    rcases Bool.eq_false_or_eq_true (okLog m) with hm | hm
    · have HM := Lib.hid hm
      have hm60 := (okLog_parts hm).1
      have hE : expO R C l p q bl rd nx m = decide (agreeL (relS (runM R C p q m.length ⟨l, bl, rd, nx, [], []⟩)) m = m.length) := by unfold expO okX; rw [ho, hm, agree_run ho hm60]; rfl
      rw [hE]
      obtain ⟨r, c, rfl, rfl, hG, hg, hp, hq⟩ := okM_ints ho
      obtain ⟨_, _, hpos⟩ := goodB_parts hg
      obtain ⟨b, o, rfl, hbl, hc⟩ := hr (by rw [flat_length]; omega)
      have hr2 : Rd w w.heap.size (some ⟨b, o, none⟩) (flat l) := fun _ => ⟨b, o, rfl, hbl, hc⟩
      have HG := Lib.hid (fun w' h => spec_loOf r c b o cap l p q bl rd nx m.length w' ho hm60 h)
      have hL := relS_len (MOk.run hp hq m.length _ (MOk.start ho)).same
      have hfew := (MOk.run hp hq m.length _ (MOk.start ho)).few
      generalize runM (r : Int) (c : Int) p q m.length ⟨l, bl, rd, nx, [], []⟩ = s at *
      have hag := (agree_le (relS s) m).2
      generalize hN : agreeL (relS s) m = n at *
      have HN := Lib.hid hN
      clear hN ho hm hE hr hG hg hp hq hc hbl
      go_enter Tryz.func13, Tryz.ntmps13
      obtain ⟨v0, hv0, X0, X1, B0, hz0⟩ := two_boxes w [.int .i64 (r : Int), .int .i64 (c : Int), .slice (some ⟨b, o, none⟩) l.length cap, .int .i64 p, .int .i64 q, .int .i64 bl, .int .i64 rd, .int .i64 nx] 36 [.int .i64 0, .int .i64 0, .slice none 0 0, .int .i64 0, .int .i64 0, .int .i64 0, .int .i64 0, .int .i64 0] 36; have HV := Lib.hid hv0; have hz : w.heap.size + 1 < v0.heap.size := (by omega); have hy : w.heap.size < v0.heap.size := (by omega); have hb0 := B0.size; clear hv0 hz0; go_wp2_with fail; rewrite [show (w.alloc (.cells ([.int .i64 (r : Int), .int .i64 (c : Int), .slice (some ⟨b, o, none⟩) l.length cap, .int .i64 p, .int .i64 q, .int .i64 bl, .int .i64 rd, .int .i64 nx] : List Value).toArray 36)).alloc (.cells ([.int .i64 0, .int .i64 0, .slice none 0 0, .int .i64 0, .int .i64 0, .int .i64 0, .int .i64 0, .int .i64 0] : List Value).toArray 36) = v0 from HV.out]; clear HV
      refine (spec_maGood _ _ _ _ l _ _ _ _ _ _ hn ((hr2.below B0).mono B0.size)).mono ?_; rintro e w1 ⟨rfl, b1⟩
      rewrite [HO.out]
      replace X0 := X0.below b1 X0.lt; replace X1 := X1.below b1 X1.lt; replace B0 := B0.trans (b1.mono B0.size); have hy := X0.lt; have hz := X1.lt; have hb0 := B0.size; clear b1
      go_wp2_with fail
      refine (spec_loGood _ _ _ _ hn' ((hr'.below B0).mono B0.size)).mono ?_; rintro e w2 ⟨rfl, b2⟩
      rewrite [HM.out]
      replace X0 := X0.below b2 X0.lt; replace X1 := X1.below b2 X1.lt; replace B0 := B0.trans (b2.mono B0.size); have hy := X0.lt; have hz := X1.lt; have hb0 := B0.size; clear b2
      have X0k0 : w2.cell? ⟨w.heap.size, 0, none⟩ = some (.int .i64 (r : Int)) := (X0.cell 0).trans rfl; have X0k1 : w2.cell? ⟨w.heap.size, 1, none⟩ = some (.int .i64 (c : Int)) := (X0.cell 1).trans rfl; have X0k2 : w2.cell? ⟨w.heap.size, 2, none⟩ = some (.slice (some ⟨b, o, none⟩) l.length cap) := (X0.cell 2).trans rfl; have X0k3 : w2.cell? ⟨w.heap.size, 3, none⟩ = some (.int .i64 p) := (X0.cell 3).trans rfl; have X0k4 : w2.cell? ⟨w.heap.size, 4, none⟩ = some (.int .i64 q) := (X0.cell 4).trans rfl; have X0k5 : w2.cell? ⟨w.heap.size, 5, none⟩ = some (.int .i64 bl) := (X0.cell 5).trans rfl
      have X0k6 : w2.cell? ⟨w.heap.size, 6, none⟩ = some (.int .i64 rd) := (X0.cell 6).trans rfl; have X0k7 : w2.cell? ⟨w.heap.size, 7, none⟩ = some (.int .i64 nx) := (X0.cell 7).trans rfl
      go_wp2_with fail
      refine (HG.out _ ((hr2.below B0).mono B0.size)).mono ?_; rintro e w3 hP
      obtain ⟨v, A5, c5, rfl, h2, O5, N5, b3⟩ := hP
      clear HG
      clear X0k0 X0k1 X0k2 X0k3 X0k4 X0k5 X0k6 X0k7
      have N5w : New w A5 := fun a ha => Nat.le_trans B0.size (N5 a ha)
      obtain ⟨A6, c6, rfl, O6, N6⟩ := own_slice h2
      replace X0 := X0.below b3 X0.lt; replace X1 := X1.below b3 X1.lt; replace B0 := B0.trans (b3.mono B0.size); have hy := X0.lt; have hz := X1.lt; have hb0 := B0.size; clear b3
      clear h2 N6 N5 X0
      have hrl : (relS s).length ≤ 60 := by omega
      rw [← hL]
      clear hL hfew
      generalize relS s = rs at *
      obtain ⟨sl, sb, sr, sx, scs, sfs⟩ := s
      go_upto_region 4 with (fail)
      obtain ⟨v6, hv6⟩ : ∃ v6, v6 = w3.alloc (.cells #[.int .i64 (r : Int), .int .i64 (c : Int), .slice A5 sl.length c5, .int .i64 p, .int .i64 q, .int .i64 sb, .int .i64 sr, .int .i64 sx] 36) := ⟨_, rfl⟩
      have Xm : Whole v6 w3.heap.size 36 [.int .i64 (r : Int), .int .i64 (c : Int), .slice A5 sl.length c5, .int .i64 p, .int .i64 q, .int .i64 sb, .int .i64 sr, .int .i64 sx] := by rw [hv6]; exact newW
      have b6 : Below w3.heap.size w3 v6 := by rw [hv6]; exact (Below.refl _ _).alloc (Nat.le_refl _) _
      rewrite [← hv6]
      clear hv6
      replace X1 := X1.below b6 X1.lt
      replace O5 := O5.keep b6
      replace O6 := O6.keep b6
      replace B0 := B0.trans (b6.mono B0.size)
      generalize w3.heap.size = gm at *
      clear b6 hy hz hb0
      have hs6 := B0.size
      go_wp2_with fail
      refine (spec_loAgree A6 c6 rs A' cap' m _ (by omega) O6.rd ((hr'.below B0).mono B0.size)).mono ?_; rintro e w7 ⟨rfl, b7⟩
      replace X1 := X1.below b7 X1.lt
      replace Xm := Xm.below b7 Xm.lt
      replace O5 := O5.keep b7
      replace B0 := B0.trans (b7.mono B0.size)
      clear b7 O6 hs6
      rewrite [HN.out]
      have h1l := X1.lt
      have hml := Xm.lt
      by_cases he : n = m.length
      · have he' : decide ((n : Int) < (m.length : Int)) = false := by simp; omega
        have he2 : decide (n < m.length) = false := by simp; omega
        have HE := Lib.hid he
        clear he hag
        have Xmk0 : w7.cell? ⟨gm, 0, none⟩ = some (.int .i64 (r : Int)) := (Xm.cell 0).trans rfl; have Xmk1 : w7.cell? ⟨gm, 1, none⟩ = some (.int .i64 (c : Int)) := (Xm.cell 1).trans rfl; have Xmk2 : w7.cell? ⟨gm, 2, none⟩ = some (.slice A5 sl.length c5) := (Xm.cell 2).trans rfl; have Xmk3 : w7.cell? ⟨gm, 3, none⟩ = some (.int .i64 p) := (Xm.cell 3).trans rfl; have Xmk4 : w7.cell? ⟨gm, 4, none⟩ = some (.int .i64 q) := (Xm.cell 4).trans rfl; have Xmk5 : w7.cell? ⟨gm, 5, none⟩ = some (.int .i64 sb) := (Xm.cell 5).trans rfl
        have Xmk6 : w7.cell? ⟨gm, 6, none⟩ = some (.int .i64 sr) := (Xm.cell 6).trans rfl; have Xmk7 : w7.cell? ⟨gm, 7, none⟩ = some (.int .i64 sx) := (Xm.cell 7).trans rfl
        have X1k0 : w7.cell? ⟨w.heap.size + 1, 0, none⟩ = some (.int .i64 0) := (X1.cell 0).trans rfl; have X1k1 : w7.cell? ⟨w.heap.size + 1, 1, none⟩ = some (.int .i64 0) := (X1.cell 1).trans rfl; have X1k2 : w7.cell? ⟨w.heap.size + 1, 2, none⟩ = some (.slice none 0 0) := (X1.cell 2).trans rfl; have X1k3 : w7.cell? ⟨w.heap.size + 1, 3, none⟩ = some (.int .i64 0) := (X1.cell 3).trans rfl; have X1k4 : w7.cell? ⟨w.heap.size + 1, 4, none⟩ = some (.int .i64 0) := (X1.cell 4).trans rfl; have X1k5 : w7.cell? ⟨w.heap.size + 1, 5, none⟩ = some (.int .i64 0) := (X1.cell 5).trans rfl
        have X1k6 : w7.cell? ⟨w.heap.size + 1, 6, none⟩ = some (.int .i64 0) := (X1.cell 6).trans rfl; have X1k7 : w7.cell? ⟨w.heap.size + 1, 7, none⟩ = some (.int .i64 0) := (X1.cell 7).trans rfl
        have X1f0 := X1.frozen 0; have X1f1 := X1.frozen 1; have X1f2 := X1.frozen 2; have X1f3 := X1.frozen 3; have X1f4 := X1.frozen 4; have X1f5 := X1.frozen 5; have X1f6 := X1.frozen 6; have X1f7 := X1.frozen 7
        go_wp2
        rewrite [mset_fold]; obtain ⟨v4, hv4⟩ : ∃ v4, v4 = mset w7 (w.heap.size + 1) (.int .i64 (r : Int)) (.int .i64 (c : Int)) (.slice A5 sl.length c5) (.int .i64 p) (.int .i64 q) (.int .i64 sb) (.int .i64 sr) (.int .i64 sx) := ⟨_, rfl⟩; have Z1 : Whole v4 (w.heap.size + 1) 36 [.int .i64 (r : Int), .int .i64 (c : Int), .slice A5 sl.length c5, .int .i64 p, .int .i64 q, .int .i64 sb, .int .i64 sr, .int .i64 sx] := (by rw [hv4]; exact Whole.mset X1 _ _ _ _ _ _ _ _)
        replace O5 : Own v4 A5 95 (flat sl) := by rw [hv4]; exact own_mset O5 X1 (by decide)
        replace B0 : Below w.heap.size w v4 := by rw [hv4]; exact below_mset B0 (by omega)
        clear Xmk0 Xmk1 Xmk2 Xmk3 Xmk4 Xmk5 Xmk6 Xmk7
        clear X1k0 X1k1 X1k2 X1k3 X1k4 X1k5 X1k6 X1k7
        clear X1f0 X1f1 X1f2 X1f3 X1f4 X1f5 X1f6 X1f7
        rewrite [← hv4]
        clear hv4 X1 Xm
        have Z1k0 : v4.cell? ⟨w.heap.size + 1, 0, none⟩ = some (.int .i64 (r : Int)) := (Z1.cell 0).trans rfl; have Z1k1 : v4.cell? ⟨w.heap.size + 1, 1, none⟩ = some (.int .i64 (c : Int)) := (Z1.cell 1).trans rfl; have Z1k2 : v4.cell? ⟨w.heap.size + 1, 2, none⟩ = some (.slice A5 sl.length c5) := (Z1.cell 2).trans rfl; have Z1k3 : v4.cell? ⟨w.heap.size + 1, 3, none⟩ = some (.int .i64 p) := (Z1.cell 3).trans rfl; have Z1k4 : v4.cell? ⟨w.heap.size + 1, 4, none⟩ = some (.int .i64 q) := (Z1.cell 4).trans rfl; have Z1k5 : v4.cell? ⟨w.heap.size + 1, 5, none⟩ = some (.int .i64 sb) := (Z1.cell 5).trans rfl; have Z1k6 : v4.cell? ⟨w.heap.size + 1, 6, none⟩ = some (.int .i64 sr) := (Z1.cell 6).trans rfl; have Z1k7 : v4.cell? ⟨w.heap.size + 1, 7, none⟩ = some (.int .i64 sx) := (Z1.cell 7).trans rfl
        refine bodyPost_ret (v := .tuple #[.agg #[.int .i64 (r : Int), .int .i64 (c : Int), .slice A5 sl.length c5, .int .i64 p, .int .i64 q, .int .i64 sb, .int .i64 sr, .int .i64 sx], .bool true]) ?_ rfl ?_; (focus (simp [results, Tryz.results13, go_sem, *]; done))
        rw [decide_eq_true HE.out, pickS_yes]
        exact PostMR.mk O5 N5w B0
      · have he' : decide ((n : Int) < (m.length : Int)) = true := by simp; omega
        have he2 : decide (n < m.length) = true := by simp; omega
        have HE := Lib.hid he
        clear he hag Xm O5
        (have X1 := X1; have X1k0 : w7.cell? ⟨w.heap.size + 1, 0, none⟩ = some (.int .i64 0) := (X1.cell 0).trans rfl; have X1k1 : w7.cell? ⟨w.heap.size + 1, 1, none⟩ = some (.int .i64 0) := (X1.cell 1).trans rfl; have X1k2 : w7.cell? ⟨w.heap.size + 1, 2, none⟩ = some (.slice none 0 0) := (X1.cell 2).trans rfl; have X1k3 : w7.cell? ⟨w.heap.size + 1, 3, none⟩ = some (.int .i64 0) := (X1.cell 3).trans rfl; have X1k4 : w7.cell? ⟨w.heap.size + 1, 4, none⟩ = some (.int .i64 0) := (X1.cell 4).trans rfl; have X1k5 : w7.cell? ⟨w.heap.size + 1, 5, none⟩ = some (.int .i64 0) := (X1.cell 5).trans rfl; have X1k6 : w7.cell? ⟨w.heap.size + 1, 6, none⟩ = some (.int .i64 0) := (X1.cell 6).trans rfl; have X1k7 : w7.cell? ⟨w.heap.size + 1, 7, none⟩ = some (.int .i64 0) := (X1.cell 7).trans rfl; have X1f0 := X1.frozen 0; have X1f1 := X1.frozen 1; have X1f2 := X1.frozen 2; have X1f3 := X1.frozen 3; have X1f4 := X1.frozen 4; have X1f5 := X1.frozen 5; have X1f6 := X1.frozen 6; have X1f7 := X1.frozen 7; go_wp2; rewrite [mset_fold]; obtain ⟨v4, hv4⟩ : ∃ v4, v4 = mset w7 (w.heap.size + 1) (.int .i64 0) (.int .i64 0) (.slice none 0 0) (.int .i64 0) (.int .i64 0) (.int .i64 0) (.int .i64 0) (.int .i64 0) := ⟨_, rfl⟩; have Z1 : Whole v4 (w.heap.size + 1) 36 [.int .i64 0, .int .i64 0, .slice none 0 0, .int .i64 0, .int .i64 0, .int .i64 0, .int .i64 0, .int .i64 0] := (by rw [hv4]; exact Whole.mset X1 _ _ _ _ _ _ _ _); replace B0 : Below w.heap.size w v4 := (by rw [hv4]; exact below_mset B0 (by omega)); clear X1k0 X1k1 X1k2 X1k3 X1k4 X1k5 X1k6 X1k7; clear X1f0 X1f1 X1f2 X1f3 X1f4 X1f5 X1f6 X1f7; rewrite [← hv4]; clear hv4; have Z1k0 : v4.cell? ⟨w.heap.size + 1, 0, none⟩ = some (.int .i64 0) := (Z1.cell 0).trans rfl; have Z1k1 : v4.cell? ⟨w.heap.size + 1, 1, none⟩ = some (.int .i64 0) := (Z1.cell 1).trans rfl; have Z1k2 : v4.cell? ⟨w.heap.size + 1, 2, none⟩ = some (.slice none 0 0) := (Z1.cell 2).trans rfl; have Z1k3 : v4.cell? ⟨w.heap.size + 1, 3, none⟩ = some (.int .i64 0) := (Z1.cell 3).trans rfl; have Z1k4 : v4.cell? ⟨w.heap.size + 1, 4, none⟩ = some (.int .i64 0) := (Z1.cell 4).trans rfl; have Z1k5 : v4.cell? ⟨w.heap.size + 1, 5, none⟩ = some (.int .i64 0) := (Z1.cell 5).trans rfl; have Z1k6 : v4.cell? ⟨w.heap.size + 1, 6, none⟩ = some (.int .i64 0) := (Z1.cell 6).trans rfl; have Z1k7 : v4.cell? ⟨w.heap.size + 1, 7, none⟩ = some (.int .i64 0) := (Z1.cell 7).trans rfl)
        refine bodyPost_ret (v := .tuple #[(.agg #[.int .i64 0, .int .i64 0, .slice none 0 0, .int .i64 0, .int .i64 0, .int .i64 0, .int .i64 0, .int .i64 0]), .bool false]) ?_ rfl ?_; (focus (simp [results, Tryz.results13, go_sem, *]; done))
        rw [decide_eq_false HE.out, pickS_no]
        exact PostMR.none_ B0
    · have HM := Lib.hid hm
      have hE : expO R C l p q bl rd nx m = false := by unfold expO okX; rw [ho, hm]; rfl
      rw [hE, pickS_no]
      clear ho hm hE
      go_enter Tryz.func13, Tryz.ntmps13
      obtain ⟨v0, hv0, X0, X1, B0, hz0⟩ := two_boxes w [.int .i64 R, .int .i64 C, .slice A l.length cap, .int .i64 p, .int .i64 q, .int .i64 bl, .int .i64 rd, .int .i64 nx] 36 [.int .i64 0, .int .i64 0, .slice none 0 0, .int .i64 0, .int .i64 0, .int .i64 0, .int .i64 0, .int .i64 0] 36; have HV := Lib.hid hv0; have hz : w.heap.size + 1 < v0.heap.size := (by omega); have hy : w.heap.size < v0.heap.size := (by omega); have hb0 := B0.size; clear hv0 hz0; go_wp2_with fail; rewrite [show (w.alloc (.cells ([.int .i64 R, .int .i64 C, .slice A l.length cap, .int .i64 p, .int .i64 q, .int .i64 bl, .int .i64 rd, .int .i64 nx] : List Value).toArray 36)).alloc (.cells ([.int .i64 0, .int .i64 0, .slice none 0 0, .int .i64 0, .int .i64 0, .int .i64 0, .int .i64 0, .int .i64 0] : List Value).toArray 36) = v0 from HV.out]; clear HV
      refine (spec_maGood _ _ _ _ l _ _ _ _ _ _ hn ((hr.below B0).mono B0.size)).mono ?_; rintro e w1 ⟨rfl, b1⟩
      rewrite [HO.out]
      replace X0 := X0.below b1 X0.lt; replace X1 := X1.below b1 X1.lt; replace B0 := B0.trans (b1.mono B0.size); have hy := X0.lt; have hz := X1.lt; have hb0 := B0.size; clear b1
      go_wp2_with fail
      refine (spec_loGood _ _ _ _ hn' ((hr'.below B0).mono B0.size)).mono ?_; rintro e w2 ⟨rfl, b2⟩
      rewrite [HM.out]
      replace X0 := X0.below b2 X0.lt; replace X1 := X1.below b2 X1.lt; replace B0 := B0.trans (b2.mono B0.size); have hy := X0.lt; have hz := X1.lt; have hb0 := B0.size; clear b2
      (have X1 := X1; have X1k0 : w2.cell? ⟨w.heap.size + 1, 0, none⟩ = some (.int .i64 0) := (X1.cell 0).trans rfl; have X1k1 : w2.cell? ⟨w.heap.size + 1, 1, none⟩ = some (.int .i64 0) := (X1.cell 1).trans rfl; have X1k2 : w2.cell? ⟨w.heap.size + 1, 2, none⟩ = some (.slice none 0 0) := (X1.cell 2).trans rfl; have X1k3 : w2.cell? ⟨w.heap.size + 1, 3, none⟩ = some (.int .i64 0) := (X1.cell 3).trans rfl; have X1k4 : w2.cell? ⟨w.heap.size + 1, 4, none⟩ = some (.int .i64 0) := (X1.cell 4).trans rfl; have X1k5 : w2.cell? ⟨w.heap.size + 1, 5, none⟩ = some (.int .i64 0) := (X1.cell 5).trans rfl; have X1k6 : w2.cell? ⟨w.heap.size + 1, 6, none⟩ = some (.int .i64 0) := (X1.cell 6).trans rfl; have X1k7 : w2.cell? ⟨w.heap.size + 1, 7, none⟩ = some (.int .i64 0) := (X1.cell 7).trans rfl; have X1f0 := X1.frozen 0; have X1f1 := X1.frozen 1; have X1f2 := X1.frozen 2; have X1f3 := X1.frozen 3; have X1f4 := X1.frozen 4; have X1f5 := X1.frozen 5; have X1f6 := X1.frozen 6; have X1f7 := X1.frozen 7; go_wp2; rewrite [mset_fold]; obtain ⟨v4, hv4⟩ : ∃ v4, v4 = mset w2 (w.heap.size + 1) (.int .i64 0) (.int .i64 0) (.slice none 0 0) (.int .i64 0) (.int .i64 0) (.int .i64 0) (.int .i64 0) (.int .i64 0) := ⟨_, rfl⟩; have Z1 : Whole v4 (w.heap.size + 1) 36 [.int .i64 0, .int .i64 0, .slice none 0 0, .int .i64 0, .int .i64 0, .int .i64 0, .int .i64 0, .int .i64 0] := (by rw [hv4]; exact Whole.mset X1 _ _ _ _ _ _ _ _); replace B0 : Below w.heap.size w v4 := (by rw [hv4]; exact below_mset B0 (by omega)); clear X1k0 X1k1 X1k2 X1k3 X1k4 X1k5 X1k6 X1k7; clear X1f0 X1f1 X1f2 X1f3 X1f4 X1f5 X1f6 X1f7; rewrite [← hv4]; clear hv4; have Z1k0 : v4.cell? ⟨w.heap.size + 1, 0, none⟩ = some (.int .i64 0) := (Z1.cell 0).trans rfl; have Z1k1 : v4.cell? ⟨w.heap.size + 1, 1, none⟩ = some (.int .i64 0) := (Z1.cell 1).trans rfl; have Z1k2 : v4.cell? ⟨w.heap.size + 1, 2, none⟩ = some (.slice none 0 0) := (Z1.cell 2).trans rfl; have Z1k3 : v4.cell? ⟨w.heap.size + 1, 3, none⟩ = some (.int .i64 0) := (Z1.cell 3).trans rfl; have Z1k4 : v4.cell? ⟨w.heap.size + 1, 4, none⟩ = some (.int .i64 0) := (Z1.cell 4).trans rfl; have Z1k5 : v4.cell? ⟨w.heap.size + 1, 5, none⟩ = some (.int .i64 0) := (Z1.cell 5).trans rfl; have Z1k6 : v4.cell? ⟨w.heap.size + 1, 6, none⟩ = some (.int .i64 0) := (Z1.cell 6).trans rfl; have Z1k7 : v4.cell? ⟨w.heap.size + 1, 7, none⟩ = some (.int .i64 0) := (Z1.cell 7).trans rfl)
      refine bodyPost_ret (v := .tuple #[(.agg #[.int .i64 0, .int .i64 0, .slice none 0 0, .int .i64 0, .int .i64 0, .int .i64 0, .int .i64 0, .int .i64 0]), .bool false]) ?_ rfl ?_; (focus (simp [results, Tryz.results13, go_sem, *]; done))
      exact PostMR.none_ B0
  · have HO := Lib.hid ho
    have hE : expO R C l p q bl rd nx m = false := by unfold expO okX; rw [ho]; rfl
    rw [hE, pickS_no]
    clear ho hE
    go_enter Tryz.func13, Tryz.ntmps13
    obtain ⟨v0, hv0, X0, X1, B0, hz0⟩ := two_boxes w [.int .i64 R, .int .i64 C, .slice A l.length cap, .int .i64 p, .int .i64 q, .int .i64 bl, .int .i64 rd, .int .i64 nx] 36 [.int .i64 0, .int .i64 0, .slice none 0 0, .int .i64 0, .int .i64 0, .int .i64 0, .int .i64 0, .int .i64 0] 36; have HV := Lib.hid hv0; have hz : w.heap.size + 1 < v0.heap.size := (by omega); have hy : w.heap.size < v0.heap.size := (by omega); have hb0 := B0.size; clear hv0 hz0; go_wp2_with fail; rewrite [show (w.alloc (.cells ([.int .i64 R, .int .i64 C, .slice A l.length cap, .int .i64 p, .int .i64 q, .int .i64 bl, .int .i64 rd, .int .i64 nx] : List Value).toArray 36)).alloc (.cells ([.int .i64 0, .int .i64 0, .slice none 0 0, .int .i64 0, .int .i64 0, .int .i64 0, .int .i64 0, .int .i64 0] : List Value).toArray 36) = v0 from HV.out]; clear HV
    refine (spec_maGood _ _ _ _ l _ _ _ _ _ _ hn ((hr.below B0).mono B0.size)).mono ?_; rintro e w1 ⟨rfl, b1⟩
    rewrite [HO.out]
    replace X0 := X0.below b1 X0.lt; replace X1 := X1.below b1 X1.lt; replace B0 := B0.trans (b1.mono B0.size); have hy := X0.lt; have hz := X1.lt; have hb0 := B0.size; clear b1
    (have X1 := X1; have X1k0 : w1.cell? ⟨w.heap.size + 1, 0, none⟩ = some (.int .i64 0) := (X1.cell 0).trans rfl; have X1k1 : w1.cell? ⟨w.heap.size + 1, 1, none⟩ = some (.int .i64 0) := (X1.cell 1).trans rfl; have X1k2 : w1.cell? ⟨w.heap.size + 1, 2, none⟩ = some (.slice none 0 0) := (X1.cell 2).trans rfl; have X1k3 : w1.cell? ⟨w.heap.size + 1, 3, none⟩ = some (.int .i64 0) := (X1.cell 3).trans rfl; have X1k4 : w1.cell? ⟨w.heap.size + 1, 4, none⟩ = some (.int .i64 0) := (X1.cell 4).trans rfl; have X1k5 : w1.cell? ⟨w.heap.size + 1, 5, none⟩ = some (.int .i64 0) := (X1.cell 5).trans rfl; have X1k6 : w1.cell? ⟨w.heap.size + 1, 6, none⟩ = some (.int .i64 0) := (X1.cell 6).trans rfl; have X1k7 : w1.cell? ⟨w.heap.size + 1, 7, none⟩ = some (.int .i64 0) := (X1.cell 7).trans rfl; have X1f0 := X1.frozen 0; have X1f1 := X1.frozen 1; have X1f2 := X1.frozen 2; have X1f3 := X1.frozen 3; have X1f4 := X1.frozen 4; have X1f5 := X1.frozen 5; have X1f6 := X1.frozen 6; have X1f7 := X1.frozen 7; go_wp2; rewrite [mset_fold]; obtain ⟨v4, hv4⟩ : ∃ v4, v4 = mset w1 (w.heap.size + 1) (.int .i64 0) (.int .i64 0) (.slice none 0 0) (.int .i64 0) (.int .i64 0) (.int .i64 0) (.int .i64 0) (.int .i64 0) := ⟨_, rfl⟩; have Z1 : Whole v4 (w.heap.size + 1) 36 [.int .i64 0, .int .i64 0, .slice none 0 0, .int .i64 0, .int .i64 0, .int .i64 0, .int .i64 0, .int .i64 0] := (by rw [hv4]; exact Whole.mset X1 _ _ _ _ _ _ _ _); replace B0 : Below w.heap.size w v4 := (by rw [hv4]; exact below_mset B0 (by omega)); clear X1k0 X1k1 X1k2 X1k3 X1k4 X1k5 X1k6 X1k7; clear X1f0 X1f1 X1f2 X1f3 X1f4 X1f5 X1f6 X1f7; rewrite [← hv4]; clear hv4; have Z1k0 : v4.cell? ⟨w.heap.size + 1, 0, none⟩ = some (.int .i64 0) := (Z1.cell 0).trans rfl; have Z1k1 : v4.cell? ⟨w.heap.size + 1, 1, none⟩ = some (.int .i64 0) := (Z1.cell 1).trans rfl; have Z1k2 : v4.cell? ⟨w.heap.size + 1, 2, none⟩ = some (.slice none 0 0) := (Z1.cell 2).trans rfl; have Z1k3 : v4.cell? ⟨w.heap.size + 1, 3, none⟩ = some (.int .i64 0) := (Z1.cell 3).trans rfl; have Z1k4 : v4.cell? ⟨w.heap.size + 1, 4, none⟩ = some (.int .i64 0) := (Z1.cell 4).trans rfl; have Z1k5 : v4.cell? ⟨w.heap.size + 1, 5, none⟩ = some (.int .i64 0) := (Z1.cell 5).trans rfl; have Z1k6 : v4.cell? ⟨w.heap.size + 1, 6, none⟩ = some (.int .i64 0) := (Z1.cell 6).trans rfl; have Z1k7 : v4.cell? ⟨w.heap.size + 1, 7, none⟩ = some (.int .i64 0) := (Z1.cell 7).trans rfl)
    refine bodyPost_ret (v := .tuple #[(.agg #[.int .i64 0, .int .i64 0, .slice none 0 0, .int .i64 0, .int .i64 0, .int .i64 0, .int .i64 0, .int .i64 0]), .bool false]) ?_ rfl ?_; (focus (simp [results, Tryz.results13, go_sem, *]; done))
    exact PostMR.none_ B0
theorem exp_okR {R C : Int} {l : List (Int × Int)} {p q bl rd nx : Int} {m : List LE} (h : expO R C l p q bl rd nx m = true) : okR R C l p q bl rd nx (m.length : Int) = true ∧ m.length ≤ 60 := by
  unfold expO okX at h
  simp only [Bool.and_eq_true] at h
  have h60 := (okLog_parts h.1.2).1
  refine ⟨?_, h60⟩
  unfold okR inM
  rw [h.1.1, decide_eq_true (by omega), decide_eq_true (by omega)]
  rfl
theorem impl_ReplayLog (R C : Int) (A : Option Addr) (cap : Nat) (l : List (Int × Int)) (p q bl rd nx : Int) (A' : Option Addr) (cap' : Nat) (m : List LE) (w : World) (hn : l.length ≤ 1048576) (hr : Rd w w.heap.size A (flat l)) (hn' : m.length ≤ 1048576) (hr' : Rd w w.heap.size A' (flatL m)) :
    Calls Tryz.prog 14 #[.agg #[.int .i64 R, .int .i64 C, .slice A l.length cap, .int .i64 p, .int .i64 q, .int .i64 bl, .int .i64 rd, .int .i64 nx], .slice A' m.length cap'] w (PostMR w (selI (expO R C l p q bl rd nx m) R) (selI (expO R C l p q bl rd nx m) C) (selI (expO R C l p q bl rd nx m) p) (selI (expO R C l p q bl rd nx m) q) (repO R C l p q bl rd nx m) (expO R C l p q bl rd nx m)) := by
  have HX := Lib.hid (fun w' h h' => impl_ExplainsLog R C A cap l p q bl rd nx A' cap' m w' hn h hn' h')
  have HQ := Lib.hid (fun w' h => impl_RunMachine R C A cap l p q bl rd nx (m.length : Int) w' hn h)
  unfold repO
  rcases Bool.eq_false_or_eq_true (expO R C l p q bl rd nx m) with he | he
  · obtain ⟨hk, hm60⟩ := exp_okR he
    unfold runO at HQ
    rw [hk, if_pos rfl, Int.toNat_natCast] at HQ
    rw [he] at HX
    rw [he, pickS_yes]
    generalize runM R C p q m.length ⟨l, bl, rd, nx, [], []⟩ = s at *
    have er : selI true R = R := rfl
    have ec : selI true C = C := rfl
    have ep : selI true p = p := rfl
    have eq : selI true q = q := rfl
    rw [er, ec, ep, eq] at HQ ⊢
    clear he hk er ec ep eq
    generalize okX R C l p q bl rd nx m = okx at *
    go_enter Tryz.func14, Tryz.ntmps14
    obtain ⟨v0, hv0, X0, X1, B0, hz0⟩ := two_boxes w [.int .i64 R, .int .i64 C, .slice A l.length cap, .int .i64 p, .int .i64 q, .int .i64 bl, .int .i64 rd, .int .i64 nx] 36 [.int .i64 0, .int .i64 0, .slice none 0 0, .int .i64 0, .int .i64 0, .int .i64 0, .int .i64 0, .int .i64 0] 36; have HV := Lib.hid hv0; have hz : w.heap.size + 1 < v0.heap.size := (by omega); have hy : w.heap.size < v0.heap.size := (by omega); have hb0 := B0.size; clear hv0 hz0; go_wp2_with fail; rewrite [show (w.alloc (.cells ([.int .i64 R, .int .i64 C, .slice A l.length cap, .int .i64 p, .int .i64 q, .int .i64 bl, .int .i64 rd, .int .i64 nx] : List Value).toArray 36)).alloc (.cells ([.int .i64 0, .int .i64 0, .slice none 0 0, .int .i64 0, .int .i64 0, .int .i64 0, .int .i64 0, .int .i64 0] : List Value).toArray 36) = v0 from HV.out]; clear HV
    refine (HX.out _ ((hr.below B0).mono B0.size) ((hr'.below B0).mono B0.size)).mono ?_; rintro e w1 ⟨rfl, b1⟩
    clear HX
    replace X0 := X0.below b1 X0.lt; replace X1 := X1.below b1 X1.lt; replace B0 := B0.trans (b1.mono B0.size); have hy := X0.lt; have hz := X1.lt; have hb0 := B0.size; clear b1
    have X0k0 : w1.cell? ⟨w.heap.size, 0, none⟩ = some (.int .i64 R) := (X0.cell 0).trans rfl; have X0k1 : w1.cell? ⟨w.heap.size, 1, none⟩ = some (.int .i64 C) := (X0.cell 1).trans rfl; have X0k2 : w1.cell? ⟨w.heap.size, 2, none⟩ = some (.slice A l.length cap) := (X0.cell 2).trans rfl; have X0k3 : w1.cell? ⟨w.heap.size, 3, none⟩ = some (.int .i64 p) := (X0.cell 3).trans rfl; have X0k4 : w1.cell? ⟨w.heap.size, 4, none⟩ = some (.int .i64 q) := (X0.cell 4).trans rfl; have X0k5 : w1.cell? ⟨w.heap.size, 5, none⟩ = some (.int .i64 bl) := (X0.cell 5).trans rfl
    have X0k6 : w1.cell? ⟨w.heap.size, 6, none⟩ = some (.int .i64 rd) := (X0.cell 6).trans rfl; have X0k7 : w1.cell? ⟨w.heap.size, 7, none⟩ = some (.int .i64 nx) := (X0.cell 7).trans rfl
    go_wp2_with fail
    refine (HQ.out _ ((hr.below B0).mono B0.size)).mono ?_; rintro e w3 hP
    obtain ⟨A5, c5, rfl, O5, N5, b3⟩ := hP
    clear HQ
    clear X0k0 X0k1 X0k2 X0k3 X0k4 X0k5 X0k6 X0k7
    have N5w : New w A5 := fun a ha => Nat.le_trans B0.size (N5 a ha)
    replace X0 := X0.below b3 X0.lt; replace X1 := X1.below b3 X1.lt; replace B0 := B0.trans (b3.mono B0.size); have hy := X0.lt; have hz := X1.lt; have hb0 := B0.size; clear b3
    clear N5 X0
    obtain ⟨sl, sb, sr, sx, scs, sfs⟩ := s
    go_upto_region 5 with (fail)
    obtain ⟨v6, hv6⟩ : ∃ v6, v6 = w3.alloc (.cells #[.int .i64 R, .int .i64 C, .slice A5 sl.length c5, .int .i64 p, .int .i64 q, .int .i64 sb, .int .i64 sr, .int .i64 sx] 36) := ⟨_, rfl⟩
    have Xm : Whole v6 w3.heap.size 36 [.int .i64 R, .int .i64 C, .slice A5 sl.length c5, .int .i64 p, .int .i64 q, .int .i64 sb, .int .i64 sr, .int .i64 sx] := by rw [hv6]; exact newW
    have b6 : Below w3.heap.size w3 v6 := by rw [hv6]; exact (Below.refl _ _).alloc (Nat.le_refl _) _
    rewrite [← hv6]
    clear hv6
    replace X1 := X1.below b6 X1.lt
    replace O5 := O5.keep b6
    replace B0 := B0.trans (b6.mono B0.size)
    generalize w3.heap.size = gm at *
    clear b6 hy hz hb0
    have h1l := X1.lt
    have hml := Xm.lt
    have Xmk0 : v6.cell? ⟨gm, 0, none⟩ = some (.int .i64 R) := (Xm.cell 0).trans rfl; have Xmk1 : v6.cell? ⟨gm, 1, none⟩ = some (.int .i64 C) := (Xm.cell 1).trans rfl; have Xmk2 : v6.cell? ⟨gm, 2, none⟩ = some (.slice A5 sl.length c5) := (Xm.cell 2).trans rfl; have Xmk3 : v6.cell? ⟨gm, 3, none⟩ = some (.int .i64 p) := (Xm.cell 3).trans rfl; have Xmk4 : v6.cell? ⟨gm, 4, none⟩ = some (.int .i64 q) := (Xm.cell 4).trans rfl; have Xmk5 : v6.cell? ⟨gm, 5, none⟩ = some (.int .i64 sb) := (Xm.cell 5).trans rfl
    have Xmk6 : v6.cell? ⟨gm, 6, none⟩ = some (.int .i64 sr) := (Xm.cell 6).trans rfl; have Xmk7 : v6.cell? ⟨gm, 7, none⟩ = some (.int .i64 sx) := (Xm.cell 7).trans rfl
    have X1k0 : v6.cell? ⟨w.heap.size + 1, 0, none⟩ = some (.int .i64 0) := (X1.cell 0).trans rfl; have X1k1 : v6.cell? ⟨w.heap.size + 1, 1, none⟩ = some (.int .i64 0) := (X1.cell 1).trans rfl; have X1k2 : v6.cell? ⟨w.heap.size + 1, 2, none⟩ = some (.slice none 0 0) := (X1.cell 2).trans rfl; have X1k3 : v6.cell? ⟨w.heap.size + 1, 3, none⟩ = some (.int .i64 0) := (X1.cell 3).trans rfl; have X1k4 : v6.cell? ⟨w.heap.size + 1, 4, none⟩ = some (.int .i64 0) := (X1.cell 4).trans rfl; have X1k5 : v6.cell? ⟨w.heap.size + 1, 5, none⟩ = some (.int .i64 0) := (X1.cell 5).trans rfl
    have X1k6 : v6.cell? ⟨w.heap.size + 1, 6, none⟩ = some (.int .i64 0) := (X1.cell 6).trans rfl; have X1k7 : v6.cell? ⟨w.heap.size + 1, 7, none⟩ = some (.int .i64 0) := (X1.cell 7).trans rfl
    have X1f0 := X1.frozen 0; have X1f1 := X1.frozen 1; have X1f2 := X1.frozen 2; have X1f3 := X1.frozen 3; have X1f4 := X1.frozen 4; have X1f5 := X1.frozen 5; have X1f6 := X1.frozen 6; have X1f7 := X1.frozen 7
    go_wp2
    rewrite [mset_fold]; obtain ⟨v4, hv4⟩ : ∃ v4, v4 = mset v6 (w.heap.size + 1) (.int .i64 R) (.int .i64 C) (.slice A5 sl.length c5) (.int .i64 p) (.int .i64 q) (.int .i64 sb) (.int .i64 sr) (.int .i64 sx) := ⟨_, rfl⟩; have Z1 : Whole v4 (w.heap.size + 1) 36 [.int .i64 R, .int .i64 C, .slice A5 sl.length c5, .int .i64 p, .int .i64 q, .int .i64 sb, .int .i64 sr, .int .i64 sx] := (by rw [hv4]; exact Whole.mset X1 _ _ _ _ _ _ _ _)
    replace O5 : Own v4 A5 95 (flat sl) := by rw [hv4]; exact own_mset O5 X1 (by decide)
    replace B0 : Below w.heap.size w v4 := by rw [hv4]; exact below_mset B0 (by omega)
    clear Xmk0 Xmk1 Xmk2 Xmk3 Xmk4 Xmk5 Xmk6 Xmk7
    clear X1k0 X1k1 X1k2 X1k3 X1k4 X1k5 X1k6 X1k7
    clear X1f0 X1f1 X1f2 X1f3 X1f4 X1f5 X1f6 X1f7
    rewrite [← hv4]
    clear hv4 X1 Xm
    have Z1k0 : v4.cell? ⟨w.heap.size + 1, 0, none⟩ = some (.int .i64 R) := (Z1.cell 0).trans rfl; have Z1k1 : v4.cell? ⟨w.heap.size + 1, 1, none⟩ = some (.int .i64 C) := (Z1.cell 1).trans rfl; have Z1k2 : v4.cell? ⟨w.heap.size + 1, 2, none⟩ = some (.slice A5 sl.length c5) := (Z1.cell 2).trans rfl; have Z1k3 : v4.cell? ⟨w.heap.size + 1, 3, none⟩ = some (.int .i64 p) := (Z1.cell 3).trans rfl; have Z1k4 : v4.cell? ⟨w.heap.size + 1, 4, none⟩ = some (.int .i64 q) := (Z1.cell 4).trans rfl; have Z1k5 : v4.cell? ⟨w.heap.size + 1, 5, none⟩ = some (.int .i64 sb) := (Z1.cell 5).trans rfl; have Z1k6 : v4.cell? ⟨w.heap.size + 1, 6, none⟩ = some (.int .i64 sr) := (Z1.cell 6).trans rfl; have Z1k7 : v4.cell? ⟨w.heap.size + 1, 7, none⟩ = some (.int .i64 sx) := (Z1.cell 7).trans rfl
    refine bodyPost_ret (v := .tuple #[.agg #[.int .i64 R, .int .i64 C, .slice A5 sl.length c5, .int .i64 p, .int .i64 q, .int .i64 sb, .int .i64 sr, .int .i64 sx], .bool true]) ?_ rfl ?_; (focus (simp [results, Tryz.results14, go_sem, *]; done))
    exact PostMR.mk O5 N5w B0
  · rw [he] at HX
    rw [he, pickS_no]
    clear he HQ
    generalize okX R C l p q bl rd nx m = okx at *
    go_enter Tryz.func14, Tryz.ntmps14
    obtain ⟨v0, hv0, X0, X1, B0, hz0⟩ := two_boxes w [.int .i64 R, .int .i64 C, .slice A l.length cap, .int .i64 p, .int .i64 q, .int .i64 bl, .int .i64 rd, .int .i64 nx] 36 [.int .i64 0, .int .i64 0, .slice none 0 0, .int .i64 0, .int .i64 0, .int .i64 0, .int .i64 0, .int .i64 0] 36; have HV := Lib.hid hv0; have hz : w.heap.size + 1 < v0.heap.size := (by omega); have hy : w.heap.size < v0.heap.size := (by omega); have hb0 := B0.size; clear hv0 hz0; go_wp2_with fail; rewrite [show (w.alloc (.cells ([.int .i64 R, .int .i64 C, .slice A l.length cap, .int .i64 p, .int .i64 q, .int .i64 bl, .int .i64 rd, .int .i64 nx] : List Value).toArray 36)).alloc (.cells ([.int .i64 0, .int .i64 0, .slice none 0 0, .int .i64 0, .int .i64 0, .int .i64 0, .int .i64 0, .int .i64 0] : List Value).toArray 36) = v0 from HV.out]; clear HV
    refine (HX.out _ ((hr.below B0).mono B0.size) ((hr'.below B0).mono B0.size)).mono ?_; rintro e w1 ⟨rfl, b1⟩
    clear HX
    replace X0 := X0.below b1 X0.lt; replace X1 := X1.below b1 X1.lt; replace B0 := B0.trans (b1.mono B0.size); have hy := X0.lt; have hz := X1.lt; have hb0 := B0.size; clear b1
    (have X1 := X1; have X1k0 : w1.cell? ⟨w.heap.size + 1, 0, none⟩ = some (.int .i64 0) := (X1.cell 0).trans rfl; have X1k1 : w1.cell? ⟨w.heap.size + 1, 1, none⟩ = some (.int .i64 0) := (X1.cell 1).trans rfl; have X1k2 : w1.cell? ⟨w.heap.size + 1, 2, none⟩ = some (.slice none 0 0) := (X1.cell 2).trans rfl; have X1k3 : w1.cell? ⟨w.heap.size + 1, 3, none⟩ = some (.int .i64 0) := (X1.cell 3).trans rfl; have X1k4 : w1.cell? ⟨w.heap.size + 1, 4, none⟩ = some (.int .i64 0) := (X1.cell 4).trans rfl; have X1k5 : w1.cell? ⟨w.heap.size + 1, 5, none⟩ = some (.int .i64 0) := (X1.cell 5).trans rfl; have X1k6 : w1.cell? ⟨w.heap.size + 1, 6, none⟩ = some (.int .i64 0) := (X1.cell 6).trans rfl; have X1k7 : w1.cell? ⟨w.heap.size + 1, 7, none⟩ = some (.int .i64 0) := (X1.cell 7).trans rfl; have X1f0 := X1.frozen 0; have X1f1 := X1.frozen 1; have X1f2 := X1.frozen 2; have X1f3 := X1.frozen 3; have X1f4 := X1.frozen 4; have X1f5 := X1.frozen 5; have X1f6 := X1.frozen 6; have X1f7 := X1.frozen 7; go_wp2; rewrite [mset_fold]; obtain ⟨v4, hv4⟩ : ∃ v4, v4 = mset w1 (w.heap.size + 1) (.int .i64 0) (.int .i64 0) (.slice none 0 0) (.int .i64 0) (.int .i64 0) (.int .i64 0) (.int .i64 0) (.int .i64 0) := ⟨_, rfl⟩; have Z1 : Whole v4 (w.heap.size + 1) 36 [.int .i64 0, .int .i64 0, .slice none 0 0, .int .i64 0, .int .i64 0, .int .i64 0, .int .i64 0, .int .i64 0] := (by rw [hv4]; exact Whole.mset X1 _ _ _ _ _ _ _ _); replace B0 : Below w.heap.size w v4 := (by rw [hv4]; exact below_mset B0 (by omega)); clear X1k0 X1k1 X1k2 X1k3 X1k4 X1k5 X1k6 X1k7; clear X1f0 X1f1 X1f2 X1f3 X1f4 X1f5 X1f6 X1f7; rewrite [← hv4]; clear hv4; have Z1k0 : v4.cell? ⟨w.heap.size + 1, 0, none⟩ = some (.int .i64 0) := (Z1.cell 0).trans rfl; have Z1k1 : v4.cell? ⟨w.heap.size + 1, 1, none⟩ = some (.int .i64 0) := (Z1.cell 1).trans rfl; have Z1k2 : v4.cell? ⟨w.heap.size + 1, 2, none⟩ = some (.slice none 0 0) := (Z1.cell 2).trans rfl; have Z1k3 : v4.cell? ⟨w.heap.size + 1, 3, none⟩ = some (.int .i64 0) := (Z1.cell 3).trans rfl; have Z1k4 : v4.cell? ⟨w.heap.size + 1, 4, none⟩ = some (.int .i64 0) := (Z1.cell 4).trans rfl; have Z1k5 : v4.cell? ⟨w.heap.size + 1, 5, none⟩ = some (.int .i64 0) := (Z1.cell 5).trans rfl; have Z1k6 : v4.cell? ⟨w.heap.size + 1, 6, none⟩ = some (.int .i64 0) := (Z1.cell 6).trans rfl; have Z1k7 : v4.cell? ⟨w.heap.size + 1, 7, none⟩ = some (.int .i64 0) := (Z1.cell 7).trans rfl)
    refine bodyPost_ret (v := .tuple #[(.agg #[.int .i64 0, .int .i64 0, .slice none 0 0, .int .i64 0, .int .i64 0, .int .i64 0, .int .i64 0, .int .i64 0]), .bool false]) ?_ rfl ?_; (focus (simp [results, Tryz.results14, go_sem, *]; done))
    exact PostMR.none_ B0
end Go.Proofs.YtlambflmabecfaaGreat
