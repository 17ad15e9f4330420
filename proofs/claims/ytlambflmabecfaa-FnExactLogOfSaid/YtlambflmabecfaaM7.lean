/- Contracts of the program and of the model, walked, part 7 of 8. No condition but what each says. -/
import Derived.Test.YtlambflmabecfaaM6
import Derived.Test.YtlambflmabecfaaM5
namespace Go.Proofs.Ytlambflmabecfaa
open Go.ChangeShapes Go.WideShapes Go.ChangeAt Go.RowKit Go.Joins Go.Deep
set_option linter.unusedSimpArgs false
set_option linter.unusedVariables false
set_option maxRecDepth 100000
set_option maxHeartbeats 4000000
def lenV : Value → Nat
  | .slice _ n _ => n
  | _ => 0
/-- What maRun hands back: the machine behind its steps, the colours, and the ends. -/
def PostG (w : World) (r c : Nat) (p q : Int) (s : MSt) (e : Ending) (w' : World) : Prop :=
  ∃ A5 c5 v2 v3, e = .returned (.tuple #[.agg #[.int .i64 (r : Int), .int .i64 (c : Int), .slice A5 s.l.length c5, .int .i64 p, .int .i64 q, .int .i64 s.bl, .int .i64 s.rd, .int .i64 s.nx], v2, v3]) ∧ Own w' A5 104 (flat s.l) ∧ New w A5 ∧
    w'.ownsRow w.heap.size 3 1 v2 s.cs.length (ints s.cs) ∧ w'.ownsRow w.heap.size 59 3 v3 s.fs.length (flatF s.fs) ∧ Below w.heap.size w w'
theorem PostG.mk {w w' : World} {r c c5 n : Nat} {p q : Int} {s : MSt} {A5 : Option Addr} {v2 v3 : Value} (hl : s.l.length = n) (O5 : Own w' A5 104 (flat s.l)) (N5 : New w A5) (h2 : w'.ownsRow w.heap.size 3 1 v2 s.cs.length (ints s.cs)) (h3 : w'.ownsRow w.heap.size 59 3 v3 s.fs.length (flatF s.fs)) (B : Below w.heap.size w w') :
    PostG w r c p q s (.returned (.tuple #[.agg #[.int .i64 (r : Int), .int .i64 (c : Int), .slice A5 n c5, .int .i64 p, .int .i64 q, .int .i64 s.bl, .int .i64 s.rd, .int .i64 s.nx], v2, v3])) w' := by
  subst hl
  exact ⟨_, _, _, _, rfl, O5, N5, h2, h3, B⟩
theorem three_oneF2 {a b c : Int} : ∀ u ∈ [Value.int .i64 a, Value.int .i64 b, Value.int .i64 c], u.oneCell' = true := three_oneF
theorem three_cellsX {w : World} {o o2 : Obj} {x y z : Value} {t : TypeId} : ∀ j u, [x, y, z][j]? = some u → (((w.alloc o).alloc o2).alloc (.cells #[x, y, z] t)).cell? ((⟨w.heap.size + 1 + 1, 0, none⟩ : Addr).add j) = some u := by
  intro j u h
  have hn := heap_alloc_new ((w.alloc o).alloc o2) (.cells #[x, y, z] t)
  rw [World.size_alloc, World.size_alloc] at hn
  have hw : Whole (((w.alloc o).alloc o2).alloc (.cells #[x, y, z] t)) (w.heap.size + 1 + 1) t [x, y, z] := hn
  have hj := hw.cell j
  rw [h] at hj
  rw [← hj]
  by_cases h0 : j = 0
  · subst h0; simp [Addr.add]
  · simp [Addr.add, h0]
theorem whole_three8 {w : World} {g : Nat} {t : TypeId} {x0 x1 x2 x3 x4 x5 x6 x7 a b c : Value} (h : Whole w g t [x0, x1, x2, x3, x4, x5, x6, x7]) : Whole (((w.setCell ⟨g, 0, none⟩ a).setCell ⟨g, 1, none⟩ b).setCell ⟨g, 2, none⟩ c) g t [a, b, c, x3, x4, x5, x6, x7] := ((h.set 0 a).set 1 b).set 2 c
theorem row_row_apart {w : World} {base base' size size' n n' : Nat} {e e' : TypeId} {v v' : Value} {xs ys : List Value} (h : w.ownsRow base e size v n xs) (h' : w.ownsRow base' e' size' v' n' ys) (hne : e ≠ e') : v.ownBlock = none ∨ v.ownBlock ≠ v'.ownBlock := by
  rcases h.2 with ⟨rfl, _⟩ | ⟨k, cap, cur, rfl, h2, hh, h3⟩
  · exact .inl rfl
  · rcases h'.2 with ⟨rfl, _⟩ | ⟨k', cap', cur', rfl, h2', hh', h3'⟩
    · exact .inr (by intro e; cases e)
    · refine .inr (fun e9 => ?_)
      have ek : k = k' := by injection e9
      subst ek
      rw [hh] at hh'
      injection hh' with hh'
      injection hh' with _ ht
      exact hne ht
theorem own_grown_row {w w' : World} {A : Option Addr} {t e : TypeId} {xs ys : List Value} {base size n : Nat} {v : Value} (h : Own w A t xs) (hr : w.ownsRow base e size v n ys) (hne : t ≠ e) (hg : w.grownBy w' v.ownBlock) : Own w' A t xs := fun hx => by
  obtain ⟨k, rest, rfl, hk⟩ := h hx
  refine ⟨k, rest, rfl, hk.grown hg (fun ek => ?_)⟩
  exact row_apart hr hk (fun e9 => hne e9.symm) ek
theorem spec_maRun (r c b o cap : Nat) (l : List (Int × Int)) (p q bl rd nx : Int) (n : Nat) (w : World) (hok : okM (r : Int) (c : Int) l p q bl rd nx = true) (hn : n ≤ 60) (hr : Rd w w.heap.size (some ⟨b, o, none⟩) (flat l)) :
    Calls Try.prog 55 #[.agg #[.int .i64 (r : Int), .int .i64 (c : Int), .slice (some ⟨b, o, none⟩) l.length cap, .int .i64 p, .int .i64 q, .int .i64 bl, .int .i64 rd, .int .i64 nx], .int .i64 (n : Int)] w (PostG w r c p q (runM (r : Int) (c : Int) p q n ⟨l, bl, rd, nx, [], []⟩)) := by
  obtain ⟨r', c', er, ec, hG, hgd, hp, hq⟩ := okM_ints hok
  obtain rfl : r = r' := by omega
  obtain rfl : c = c' := by omega
  obtain ⟨_, h90, hpos⟩ := goodB_parts hgd
  have hln : l.length ≤ 1048576 := by omega
  have hst := MOk.start hok
  obtain ⟨S, hS⟩ : ∃ S, runM (r : Int) (c : Int) p q n ⟨l, bl, rd, nx, [], []⟩ = S := ⟨_, rfl⟩
  have hS0 : runM (r : Int) (c : Int) p q (n - 0) ⟨l, bl, rd, nx, [], []⟩ = S := hS
  rewrite [hS]
  obtain ⟨i0, hi, hz0, hz1, hz2⟩ := info_parts intInfo
  obtain ⟨i1, hi1, hy0, hy1, hy2⟩ := info_parts fallInfo
  clear hok hS er ec hG hgd
  go_enter Try.func55, Try.ntmps55
  obtain ⟨v0, hv0, X0, X1, B0, hz0⟩ := two_boxes w [.int .i64 (r : Int), .int .i64 (c : Int), .slice (some ⟨b, o, none⟩) l.length cap, .int .i64 p, .int .i64 q, .int .i64 bl, .int .i64 rd, .int .i64 nx] 41 [.int .i64 0, .int .i64 0, .slice none 0 0, .int .i64 0, .int .i64 0, .int .i64 0, .int .i64 0, .int .i64 0] 41; have HV := Lib.hid hv0; have hz : w.heap.size + 1 < v0.heap.size := (by omega); have hy : w.heap.size < v0.heap.size := (by omega); have hb0 := B0.size; clear hv0 hz0; go_wp2_with fail; rewrite [show (w.alloc (.cells ([.int .i64 (r : Int), .int .i64 (c : Int), .slice (some ⟨b, o, none⟩) l.length cap, .int .i64 p, .int .i64 q, .int .i64 bl, .int .i64 rd, .int .i64 nx] : List Value).toArray 41)).alloc (.cells ([.int .i64 0, .int .i64 0, .slice none 0 0, .int .i64 0, .int .i64 0, .int .i64 0, .int .i64 0, .int .i64 0] : List Value).toArray 41) = v0 from HV.out]; clear HV
  have X0k0 : v0.cell? ⟨w.heap.size, 0, none⟩ = some (.int .i64 (r : Int)) := (X0.cell 0).trans rfl; have X0k1 : v0.cell? ⟨w.heap.size, 1, none⟩ = some (.int .i64 (c : Int)) := (X0.cell 1).trans rfl; have X0k2 : v0.cell? ⟨w.heap.size, 2, none⟩ = some (.slice (some ⟨b, o, none⟩) l.length cap) := (X0.cell 2).trans rfl
  go_wp2_with fail
  refine (spec_boOwn _ _ _ _ _ l _ hpos hln ((hr.below B0).mono B0.size)).mono ?_; rintro e w1 hP
  obtain ⟨A5, c5, rfl, o5, n5, b1⟩ := hP
  clear X0k0 X0k1 X0k2
  have N5 : New w A5 := fun a ha => Nat.le_trans B0.size (n5 a ha)
  have hne5 : ∀ a, A5 = some a → w.heap.size ≠ a.block := fun a ha => by have h := n5 a ha; omega
  replace X0 := X0.below b1 X0.lt; replace X1 := X1.below b1 X1.lt; replace B0 := B0.trans (b1.mono B0.size); have hy := X0.lt; have hz := X1.lt; have hb0 := B0.size; clear b1
  clear n5
  have X0k0 : w1.cell? ⟨w.heap.size, 0, none⟩ = some (.int .i64 (r : Int)) := (X0.cell 0).trans rfl; have X0k1 : w1.cell? ⟨w.heap.size, 1, none⟩ = some (.int .i64 (c : Int)) := (X0.cell 1).trans rfl; have X0k2 : w1.cell? ⟨w.heap.size, 2, none⟩ = some (.slice (some ⟨b, o, none⟩) l.length cap) := (X0.cell 2).trans rfl
  have X0f0 := X0.frozen 0; have X0f1 := X0.frozen 1; have X0f2 := X0.frozen 2
  have n01 : w.heap.size ≠ w.heap.size + 1 := by omega
  go_upto_region 2 with (fail)
  obtain ⟨v2, hv2⟩ : ∃ v2, v2 = (((w1.setCell ⟨w.heap.size, 0, none⟩ (.int .i64 (r : Int))).setCell ⟨w.heap.size, 1, none⟩ (.int .i64 (c : Int))).setCell ⟨w.heap.size, 2, none⟩ (.slice A5 l.length c5)) := ⟨_, rfl⟩
  have Y0 : Whole v2 w.heap.size 41 [.int .i64 (r : Int), .int .i64 (c : Int), .slice A5 l.length c5, .int .i64 p, .int .i64 q, .int .i64 bl, .int .i64 rd, .int .i64 nx] := by rw [hv2]; exact whole_three8 X0
  replace X1 : Whole v2 (w.heap.size + 1) 41 [.int .i64 0, .int .i64 0, .slice none 0 0, .int .i64 0, .int .i64 0, .int .i64 0, .int .i64 0, .int .i64 0] := by rw [hv2]; exact three_far X1 n01
  replace o5 : Own v2 A5 104 (flat l) := by
    rw [hv2]
    exact ((o5.set_far2 _ _ (fun hx a ha => hne5 a ha)).set_far2 _ _ (fun hx a ha => hne5 a ha)).set_far2 _ _ (fun hx a ha => hne5 a ha)
  replace B0 : Below w.heap.size w v2 := by rw [hv2]; exact ((B0.setCell (p := ⟨w.heap.size, 0, none⟩) (Nat.le_refl _) _).setCell (p := ⟨w.heap.size, 1, none⟩) (Nat.le_refl _) _).setCell (p := ⟨w.heap.size, 2, none⟩) (Nat.le_refl _) _
  clear X0k0 X0k1 X0k2
  clear X0f0 X0f1 X0f2
  rewrite [← hv2]
  clear hv2 X0 hy hz hb0 hne5
  have h2 : v2.ownsRow w.heap.size 3 1 (.slice none 0 0) 0 [] := World.ownsRow_nil _ _ _ _
  have h3 : v2.ownsRow w.heap.size 59 3 (.slice none 0 0) 0 [] := World.ownsRow_nil _ _ _ _
  go_wp2
  go_loopw [7, 8] (fun x y wr => ∃ (s : MSt) (A5 : Option Addr) (c5 : Nat), s.fs.length ≤ n ∧ MOk (r : Int) (c : Int) p q l.length s ∧ runM (r : Int) (c : Int) p q (n - s.fs.length) s = S ∧ wr.ownsRow w.heap.size 3 1 x s.cs.length (ints s.cs) ∧ wr.ownsRow w.heap.size 59 3 y s.fs.length (flatF s.fs) ∧
    Whole wr w.heap.size 41 [.int .i64 (r : Int), .int .i64 (c : Int), .slice A5 l.length c5, .int .i64 p, .int .i64 q, .int .i64 s.bl, .int .i64 s.rd, .int .i64 s.nx] ∧ Own wr A5 104 (flat s.l) ∧ New w A5 ∧ Whole wr (w.heap.size + 1) 41 [.int .i64 0, .int .i64 0, .slice none 0 0, .int .i64 0, .int .i64 0, .int .i64 0, .int .i64 0, .int .i64 0] ∧ Below w.heap.size w wr) (fun _ y _ => n - lenV y)
  case atStart => exact ⟨⟨l, bl, rd, nx, [], []⟩, A5, c5, Nat.zero_le _, hst, hS0, h2, h3, Y0, o5, N5, X1, B0⟩
  case round =>
    clear h2 h3 Y0 o5 N5 X1 B0 hst hS0
    obtain ⟨s, A5, c5, hfn, hmk, hS, h2, h3, X0, O5, N5, X1, B0⟩ := hrel
    obtain ⟨Af, cf, rfl⟩ := slice_of_row h3
    have hs := B0.size
    have h0l := X0.lt
    have h1l := X1.lt
    by_cases hlt : s.fs.length < n
    · have HC := Lib.hid (spec_maCan (r : Int) (c : Int) A5 c5 s.l p q s.bl s.rd s.nx)
      have hlk := hmk.len
      rw [hlk] at HC
      rcases Bool.eq_false_or_eq_true (canM s.bl s.rd s.nx) with hc | hc
      · obtain ⟨col, hcol, hcl⟩ : ∃ j : Nat, colM p q s.nx = (j : Int) ∧ j < c := by
          rcases colM_or p q s.nx with e | e
          · exact ⟨p.toNat, by rw [e]; omega, by omega⟩
          · exact ⟨q.toNat, by rw [e]; omega, by omega⟩
        have HM2 := Lib.hid (hmk.step hp hq hc)
        obtain ⟨m, hm⟩ : ∃ m, n - s.fs.length = m + 1 := ⟨n - s.fs.length - 1, by omega⟩
        have HS2 := Lib.hid (show runM (r : Int) (c : Int) p q (n - (stepM (r : Int) (c : Int) p q s).fs.length) (stepM (r : Int) (c : Int) p q s) = S by
          have e : (stepM (r : Int) (c : Int) p q s).fs.length = s.fs.length + 1 := by show (s.fs ++ [_]).length = _; rw [List.length_append]; rfl
          rw [e, ← hS, show n - s.fs.length = (n - (s.fs.length + 1)) + 1 by omega, runM_go hc])
        obtain ⟨g5, rest5, rfl, X7⟩ := O5 (by rw [flat_length]; omega)
        have HQ := Lib.hid (fun w' h => spec_maStep r c g5 0 c5 s.l p q s.bl s.rd s.nx col w' hmk.good h hc hmk.bl1 hmk.rd1 hcol hcl)
        rw [hlk] at HQ
        have hsm := hmk.same
        have hfew := hmk.few
        have e0 : (stepM (r : Int) (c : Int) p q s).fs.length = s.fs.length + 1 := by show (s.fs ++ [_]).length = _; rw [List.length_append]; rfl
        have e0' : (stepM (r : Int) (c : Int) p q s).cs.length = s.cs.length + 1 := by show (s.cs ++ [_]).length = _; rw [List.length_append]; rfl
        have e5 : (stepM (r : Int) (c : Int) p q s).cs = s.cs ++ [s.nx] := rfl
        have e6 : (stepM (r : Int) (c : Int) p q s).fs = s.fs ++ [((marO (r : Int) (c : Int) s.l (colM p q s.nx)).e, (marO (r : Int) (c : Int) s.l (colM p q s.nx)).row, (marO (r : Int) (c : Int) s.l (colM p q s.nx)).col)] := rfl
        obtain ⟨s2, hs2⟩ : ∃ s2, stepM (r : Int) (c : Int) p q s = s2 := ⟨_, rfl⟩
        have e1 : s2.l = (marO (r : Int) (c : Int) s.l (colM p q s.nx)).cells := by rw [← hs2]; rfl
        have e2 : s2.bl = if s.nx = 0 then s.bl - 1 else s.bl := by rw [← hs2]; rfl
        have e3 : s2.rd = if s.nx = 0 then s.rd else s.rd - 1 := by rw [← hs2]; rfl
        have e4 : s2.nx = nextM (c : Int) (marO (r : Int) (c : Int) s.l (colM p q s.nx)) := by rw [← hs2]; rfl
        unfold PostT at HQ
        rw [← e1, ← e2, ← e3, ← e4] at HQ
        rw [hs2] at HM2 HS2 e0 e0' e5 e6
        have E5 := Lib.hid e5
        have E6 := Lib.hid e6
        have E0 := Lib.hid e0
        have E0' := Lib.hid e0'
        generalize marO (r : Int) (c : Int) s.l (colM p q s.nx) = F at *
        obtain ⟨fe, fr, fc, fl, fw⟩ := F
        clear e1 e2 e3 e4 e0 e0' e5 e6 hs2 hlk hcol hcl hS hmk hm m
        generalize hkf : s.fs.length = kf at *
        generalize hkc : s.cs.length = kc at *
        have X0k0 : wr.cell? ⟨w.heap.size, 0, none⟩ = some (.int .i64 (r : Int)) := (X0.cell 0).trans rfl; have X0k1 : wr.cell? ⟨w.heap.size, 1, none⟩ = some (.int .i64 (c : Int)) := (X0.cell 1).trans rfl; have X0k2 : wr.cell? ⟨w.heap.size, 2, none⟩ = some (.slice (some ⟨g5, 0, none⟩) l.length c5) := (X0.cell 2).trans rfl; have X0k3 : wr.cell? ⟨w.heap.size, 3, none⟩ = some (.int .i64 p) := (X0.cell 3).trans rfl; have X0k4 : wr.cell? ⟨w.heap.size, 4, none⟩ = some (.int .i64 q) := (X0.cell 4).trans rfl; have X0k5 : wr.cell? ⟨w.heap.size, 5, none⟩ = some (.int .i64 s.bl) := (X0.cell 5).trans rfl
        have X0k6 : wr.cell? ⟨w.heap.size, 6, none⟩ = some (.int .i64 s.rd) := (X0.cell 6).trans rfl; have X0k7 : wr.cell? ⟨w.heap.size, 7, none⟩ = some (.int .i64 s.nx) := (X0.cell 7).trans rfl
        go_wp2_with fail
        refine (HC.out _).mono ?_; rintro e w2 ⟨rfl, b2⟩
        clear HC
        clear X0k0 X0k1 X0k2 X0k3 X0k4 X0k5 X0k6 X0k7
        rewrite [hc]
        replace X0 := X0.below b2 X0.lt
        replace X1 := X1.below b2 X1.lt
        replace X7 := X7.below b2 X7.lt
        replace h2 := row_keep h2 b2
        replace h3 := row_keep h3 b2
        replace B0 := B0.trans (b2.mono hs)
        replace hs := B0.size
        clear b2 h0l h1l
        have h0l := X0.lt
        have X0k7 : w2.cell? ⟨w.heap.size, 7, none⟩ = some (.int .i64 s.nx) := (X0.cell 7).trans rfl
        have h2Y := h2.alloc (.cells #[.int .i64 s.nx] 3)
        go_upto_region 6 with (first | (at_builtin; go_loud (refine wpList_append_own _ rfl (.tmp 23) (.tmp 26) 47 rfl w.heap.size 3 i0 _ 1 8 Try.underlying47 hi hz0 hz1 hz2 rfl (by omega) u7 kc _ rfl (h2.alloc _) ⟨w2.heap.size, 0, none⟩ 1 1 [.int .i64 s.nx] rfl rfl one_cellI one_oneI (by unfold maxLen; omega) (by omega) (by rw [World.size_alloc]; omega) ?_; intro v7 w7 hown7 hg7 _)) | fail)
        clear X0k7
        have ba : Below w2.heap.size w2 (w2.alloc (.cells #[.int .i64 s.nx] 3)) := (Below.refl _ _).alloc (Nat.le_refl _) _
        have X3 := (X0.below ba X0.lt).grown hg7 (row_apart h2Y (X0.below ba X0.lt) (by decide))
        have X13 := (X1.below ba X1.lt).grown hg7 (row_apart h2Y (X1.below ba X1.lt) (by decide))
        have X73 := (X7.below ba X7.lt).grown hg7 (row_apart h2Y (X7.below ba X7.lt) (by decide))
        have h33 := World.ownsRow.kept (row_keep h3 ba) hg7 (row_row_apart (row_keep h3 ba) h2Y (by decide))
        have B3 := row_below h2Y (B0.alloc hs _) (by rw [World.size_alloc]; omega) hg7
        clear ba h2Y hg7 h2 h3 X0 X1 X7 B0 hs h0l
        have hs := B3.size
        have h0l := X3.lt
        have X3k0 : w7.cell? ⟨w.heap.size, 0, none⟩ = some (.int .i64 (r : Int)) := (X3.cell 0).trans rfl; have X3k1 : w7.cell? ⟨w.heap.size, 1, none⟩ = some (.int .i64 (c : Int)) := (X3.cell 1).trans rfl; have X3k2 : w7.cell? ⟨w.heap.size, 2, none⟩ = some (.slice (some ⟨g5, 0, none⟩) l.length c5) := (X3.cell 2).trans rfl; have X3k3 : w7.cell? ⟨w.heap.size, 3, none⟩ = some (.int .i64 p) := (X3.cell 3).trans rfl; have X3k4 : w7.cell? ⟨w.heap.size, 4, none⟩ = some (.int .i64 q) := (X3.cell 4).trans rfl; have X3k5 : w7.cell? ⟨w.heap.size, 5, none⟩ = some (.int .i64 s.bl) := (X3.cell 5).trans rfl
        have X3k6 : w7.cell? ⟨w.heap.size, 6, none⟩ = some (.int .i64 s.rd) := (X3.cell 6).trans rfl; have X3k7 : w7.cell? ⟨w.heap.size, 7, none⟩ = some (.int .i64 s.nx) := (X3.cell 7).trans rfl
        go_wp2_with fail
        have hrd7 : Rd w7 w7.heap.size (some ⟨g5, 0, none⟩) (flat s.l) := Own.rd (fun _ => ⟨g5, rest5, rfl, X73⟩)
        refine (HQ.out _ hrd7).mono ?_; rintro e w8 ⟨A6, c6, rfl, O6, N6, b8⟩
        clear HQ hrd7
        clear X3k0 X3k1 X3k2 X3k3 X3k4 X3k5 X3k6 X3k7
        have N6w : New w A6 := fun a ha => Nat.le_trans hs (N6 a ha)
        replace X3 := X3.below b8 X3.lt
        replace X13 := X13.below b8 X13.lt
        replace hown7 := row_keep hown7 b8
        replace h33 := row_keep h33 b8
        replace B3 := B3.trans (b8.mono hs)
        replace hs := B3.size
        clear b8 N6 X73 h0l
        have hgn : w8.heap.size ≠ w.heap.size := by have := X3.lt; omega
        have h3Y := (((h33.alloc (.cells #[.int .i64 (r : Int), .int .i64 (c : Int), .slice A6 l.length c6, .int .i64 p, .int .i64 q, .int .i64 s2.bl, .int .i64 s2.rd, .int .i64 s2.nx] 41)).alloc (.cells #[.int .i64 fe, .int .i64 fr, .int .i64 fc] 59)).alloc (.cells #[.int .i64 fe, .int .i64 fr, .int .i64 fc] 59))
        have O6a : Own (((w8.alloc (.cells #[.int .i64 (r : Int), .int .i64 (c : Int), .slice A6 l.length c6, .int .i64 p, .int .i64 q, .int .i64 s2.bl, .int .i64 s2.rd, .int .i64 s2.nx] 41)).alloc (.cells #[.int .i64 fe, .int .i64 fr, .int .i64 fc] 59)).alloc (.cells #[.int .i64 fe, .int .i64 fr, .int .i64 fc] 59)) A6 104 (flat s2.l) := ((O6.alloc_ _).alloc_ _).alloc_ _
        have Xn : Whole (((w8.alloc (.cells #[.int .i64 (r : Int), .int .i64 (c : Int), .slice A6 l.length c6, .int .i64 p, .int .i64 q, .int .i64 s2.bl, .int .i64 s2.rd, .int .i64 s2.nx] 41)).alloc (.cells #[.int .i64 fe, .int .i64 fr, .int .i64 fc] 59)).alloc (.cells #[.int .i64 fe, .int .i64 fr, .int .i64 fc] 59)) w8.heap.size 41 [.int .i64 (r : Int), .int .i64 (c : Int), .slice A6 l.length c6, .int .i64 p, .int .i64 q, .int .i64 s2.bl, .int .i64 s2.rd, .int .i64 s2.nx] := (newW.alloc _).alloc _
        have X3a := ((X3.alloc (.cells #[.int .i64 (r : Int), .int .i64 (c : Int), .slice A6 l.length c6, .int .i64 p, .int .i64 q, .int .i64 s2.bl, .int .i64 s2.rd, .int .i64 s2.nx] 41)).alloc (.cells #[.int .i64 fe, .int .i64 fr, .int .i64 fc] 59)).alloc (.cells #[.int .i64 fe, .int .i64 fr, .int .i64 fc] 59)
        have X13a := ((X13.alloc (.cells #[.int .i64 (r : Int), .int .i64 (c : Int), .slice A6 l.length c6, .int .i64 p, .int .i64 q, .int .i64 s2.bl, .int .i64 s2.rd, .int .i64 s2.nx] 41)).alloc (.cells #[.int .i64 fe, .int .i64 fr, .int .i64 fc] 59)).alloc (.cells #[.int .i64 fe, .int .i64 fr, .int .i64 fc] 59)
        have h7a := ((hown7.alloc (.cells #[.int .i64 (r : Int), .int .i64 (c : Int), .slice A6 l.length c6, .int .i64 p, .int .i64 q, .int .i64 s2.bl, .int .i64 s2.rd, .int .i64 s2.nx] 41)).alloc (.cells #[.int .i64 fe, .int .i64 fr, .int .i64 fc] 59)).alloc (.cells #[.int .i64 fe, .int .i64 fr, .int .i64 fc] 59)
        have B3a : Below w.heap.size w (((w8.alloc (.cells #[.int .i64 (r : Int), .int .i64 (c : Int), .slice A6 l.length c6, .int .i64 p, .int .i64 q, .int .i64 s2.bl, .int .i64 s2.rd, .int .i64 s2.nx] 41)).alloc (.cells #[.int .i64 fe, .int .i64 fr, .int .i64 fc] 59)).alloc (.cells #[.int .i64 fe, .int .i64 fr, .int .i64 fc] 59)) := ((B3.alloc hs _).alloc (by rw [World.size_alloc]; omega) _).alloc (by rw [World.size_alloc, World.size_alloc]; omega) _
        go_upto_region 8 with (first | (at_builtin; go_loud (refine wpList_append_own _ rfl (.tmp 33) (.tmp 35) 89 rfl w.heap.size 59 i1 _ 3 24 Try.underlying89 hi1 hy0 hy1 hy2 rfl (by omega) (.slice Af kf cf) kf _ rfl (((h33.alloc _).alloc _).alloc _) ⟨w8.heap.size + 1 + 1, 0, none⟩ 1 1 [.int .i64 fe, .int .i64 fr, .int .i64 fc] rfl rfl three_cellsX three_oneF (by unfold maxLen; omega) (by omega) (by rw [World.size_alloc, World.size_alloc, World.size_alloc]; omega) ?_; intro v9 w9 hown9 hg9 _)) | fail)
        have Xn9 := Xn.grown hg9 (row_apart h3Y Xn (by decide))
        have X39 := X3a.grown hg9 (row_apart h3Y X3a (by decide))
        have X139 := X13a.grown hg9 (row_apart h3Y X13a (by decide))
        have h79 := World.ownsRow.kept h7a hg9 (row_row_apart h7a h3Y (by decide))
        have O69 := own_grown_row O6a h3Y (by decide) hg9
        have B9 := row_below h3Y B3a (by rw [World.size_alloc, World.size_alloc, World.size_alloc]; omega) hg9
        clear h3Y O6a Xn X3a X13a h7a B3a hg9 hown7 h33 X3 X13 O6 B3 hs
        obtain ⟨A9, c9, rfl⟩ := slice_of_row hown9
        generalize w8.heap.size = gn at *
        have h0l := X39.lt
        have hnl := Xn9.lt
        have Xn9k0 : w9.cell? ⟨gn, 0, none⟩ = some (.int .i64 (r : Int)) := (Xn9.cell 0).trans rfl; have Xn9k1 : w9.cell? ⟨gn, 1, none⟩ = some (.int .i64 (c : Int)) := (Xn9.cell 1).trans rfl; have Xn9k2 : w9.cell? ⟨gn, 2, none⟩ = some (.slice A6 l.length c6) := (Xn9.cell 2).trans rfl; have Xn9k3 : w9.cell? ⟨gn, 3, none⟩ = some (.int .i64 p) := (Xn9.cell 3).trans rfl; have Xn9k4 : w9.cell? ⟨gn, 4, none⟩ = some (.int .i64 q) := (Xn9.cell 4).trans rfl; have Xn9k5 : w9.cell? ⟨gn, 5, none⟩ = some (.int .i64 s2.bl) := (Xn9.cell 5).trans rfl
        have Xn9k6 : w9.cell? ⟨gn, 6, none⟩ = some (.int .i64 s2.rd) := (Xn9.cell 6).trans rfl; have Xn9k7 : w9.cell? ⟨gn, 7, none⟩ = some (.int .i64 s2.nx) := (Xn9.cell 7).trans rfl
        have X39k0 : w9.cell? ⟨w.heap.size, 0, none⟩ = some (.int .i64 (r : Int)) := (X39.cell 0).trans rfl; have X39k1 : w9.cell? ⟨w.heap.size, 1, none⟩ = some (.int .i64 (c : Int)) := (X39.cell 1).trans rfl; have X39k2 : w9.cell? ⟨w.heap.size, 2, none⟩ = some (.slice (some ⟨g5, 0, none⟩) l.length c5) := (X39.cell 2).trans rfl; have X39k3 : w9.cell? ⟨w.heap.size, 3, none⟩ = some (.int .i64 p) := (X39.cell 3).trans rfl; have X39k4 : w9.cell? ⟨w.heap.size, 4, none⟩ = some (.int .i64 q) := (X39.cell 4).trans rfl; have X39k5 : w9.cell? ⟨w.heap.size, 5, none⟩ = some (.int .i64 s.bl) := (X39.cell 5).trans rfl
        have X39k6 : w9.cell? ⟨w.heap.size, 6, none⟩ = some (.int .i64 s.rd) := (X39.cell 6).trans rfl; have X39k7 : w9.cell? ⟨w.heap.size, 7, none⟩ = some (.int .i64 s.nx) := (X39.cell 7).trans rfl
        have X39f0 := X39.frozen 0; have X39f1 := X39.frozen 1; have X39f2 := X39.frozen 2; have X39f3 := X39.frozen 3; have X39f4 := X39.frozen 4; have X39f5 := X39.frozen 5; have X39f6 := X39.frozen 6; have X39f7 := X39.frozen 7
        have n01 : w.heap.size ≠ w.heap.size + 1 := by omega
        go_wp2
        refine ⟨⟨s2, A6, c6, by rw [E0.out]; omega, HM2.out, HS2.out, ?_, ?_, X39.mset _ _ _ _ _ _ _ _, own_mset O69 X39 (by decide), N6w, X139.mset_far n01, below_mset B9 (Nat.le_refl _)⟩, ?_⟩
        · rw [E0'.out, E5.out, show ints (s.cs ++ [s.nx]) = ints s.cs ++ [.int .i64 s.nx] by simp [ints]]
          exact row_mset h79 (row_apart h79 X39 (by decide))
        · rw [E0.out, E6.out, flatF_app]
          exact row_mset hown9 (row_apart hown9 X39 (by decide))
        · simp [lenV]; omega
      · have HSs := Lib.hid ((runM_stop hc).symm.trans hS)
        clear hS
        have X0k0 : wr.cell? ⟨w.heap.size, 0, none⟩ = some (.int .i64 (r : Int)) := (X0.cell 0).trans rfl; have X0k1 : wr.cell? ⟨w.heap.size, 1, none⟩ = some (.int .i64 (c : Int)) := (X0.cell 1).trans rfl; have X0k2 : wr.cell? ⟨w.heap.size, 2, none⟩ = some (.slice A5 l.length c5) := (X0.cell 2).trans rfl; have X0k3 : wr.cell? ⟨w.heap.size, 3, none⟩ = some (.int .i64 p) := (X0.cell 3).trans rfl; have X0k4 : wr.cell? ⟨w.heap.size, 4, none⟩ = some (.int .i64 q) := (X0.cell 4).trans rfl; have X0k5 : wr.cell? ⟨w.heap.size, 5, none⟩ = some (.int .i64 s.bl) := (X0.cell 5).trans rfl
        have X0k6 : wr.cell? ⟨w.heap.size, 6, none⟩ = some (.int .i64 s.rd) := (X0.cell 6).trans rfl; have X0k7 : wr.cell? ⟨w.heap.size, 7, none⟩ = some (.int .i64 s.nx) := (X0.cell 7).trans rfl
        go_wp2_with fail
        refine (HC.out _).mono ?_; rintro e w2 ⟨rfl, b2⟩
        clear HC hlk
        clear X0k0 X0k1 X0k2 X0k3 X0k4 X0k5 X0k6 X0k7
        rewrite [hc]
        replace X0 := X0.below b2 X0.lt
        replace X1 := X1.below b2 X1.lt
        replace O5 := O5.keep b2
        replace h2 := row_keep h2 b2
        replace h3 := row_keep h3 b2
        replace B0 := B0.trans (b2.mono hs)
        clear b2 hs h0l h1l hc
        have HLk := Lib.hid hmk.len
        clear hmk
        have h0l := X0.lt
        have h1l := X1.lt
        have hne2 := row_apart h2 X1 (by decide)
        have hne3 := row_apart h3 X1 (by decide)
        obtain ⟨sl, sb, sr, sx, scs, sfs⟩ := s
        have X0k0 : w2.cell? ⟨w.heap.size, 0, none⟩ = some (.int .i64 (r : Int)) := (X0.cell 0).trans rfl; have X0k1 : w2.cell? ⟨w.heap.size, 1, none⟩ = some (.int .i64 (c : Int)) := (X0.cell 1).trans rfl; have X0k2 : w2.cell? ⟨w.heap.size, 2, none⟩ = some (.slice A5 l.length c5) := (X0.cell 2).trans rfl; have X0k3 : w2.cell? ⟨w.heap.size, 3, none⟩ = some (.int .i64 p) := (X0.cell 3).trans rfl; have X0k4 : w2.cell? ⟨w.heap.size, 4, none⟩ = some (.int .i64 q) := (X0.cell 4).trans rfl; have X0k5 : w2.cell? ⟨w.heap.size, 5, none⟩ = some (.int .i64 sb) := (X0.cell 5).trans rfl
        have X0k6 : w2.cell? ⟨w.heap.size, 6, none⟩ = some (.int .i64 sr) := (X0.cell 6).trans rfl; have X0k7 : w2.cell? ⟨w.heap.size, 7, none⟩ = some (.int .i64 sx) := (X0.cell 7).trans rfl
        have X1k0 : w2.cell? ⟨w.heap.size + 1, 0, none⟩ = some (.int .i64 0) := (X1.cell 0).trans rfl; have X1k1 : w2.cell? ⟨w.heap.size + 1, 1, none⟩ = some (.int .i64 0) := (X1.cell 1).trans rfl; have X1k2 : w2.cell? ⟨w.heap.size + 1, 2, none⟩ = some (.slice none 0 0) := (X1.cell 2).trans rfl; have X1k3 : w2.cell? ⟨w.heap.size + 1, 3, none⟩ = some (.int .i64 0) := (X1.cell 3).trans rfl; have X1k4 : w2.cell? ⟨w.heap.size + 1, 4, none⟩ = some (.int .i64 0) := (X1.cell 4).trans rfl; have X1k5 : w2.cell? ⟨w.heap.size + 1, 5, none⟩ = some (.int .i64 0) := (X1.cell 5).trans rfl
        have X1k6 : w2.cell? ⟨w.heap.size + 1, 6, none⟩ = some (.int .i64 0) := (X1.cell 6).trans rfl; have X1k7 : w2.cell? ⟨w.heap.size + 1, 7, none⟩ = some (.int .i64 0) := (X1.cell 7).trans rfl
        have X1f0 := X1.frozen 0; have X1f1 := X1.frozen 1; have X1f2 := X1.frozen 2; have X1f3 := X1.frozen 3; have X1f4 := X1.frozen 4; have X1f5 := X1.frozen 5; have X1f6 := X1.frozen 6; have X1f7 := X1.frozen 7
        go_wp2
        rewrite [mset_fold]; obtain ⟨v4, hv4⟩ : ∃ v4, v4 = mset w2 (w.heap.size + 1) (.int .i64 (r : Int)) (.int .i64 (c : Int)) (.slice A5 l.length c5) (.int .i64 p) (.int .i64 q) (.int .i64 sb) (.int .i64 sr) (.int .i64 sx) := ⟨_, rfl⟩; have Z1 : Whole v4 (w.heap.size + 1) 41 [.int .i64 (r : Int), .int .i64 (c : Int), .slice A5 l.length c5, .int .i64 p, .int .i64 q, .int .i64 sb, .int .i64 sr, .int .i64 sx] := (by rw [hv4]; exact Whole.mset X1 _ _ _ _ _ _ _ _)
        replace O5 : Own v4 A5 104 (flat sl) := by rw [hv4]; exact own_mset O5 X1 (by decide)
        replace h2 : v4.ownsRow w.heap.size 3 1 u7 scs.length (ints scs) := by rw [hv4]; exact row_mset h2 hne2
        replace h3 : v4.ownsRow w.heap.size 59 3 (.slice Af sfs.length cf) sfs.length (flatF sfs) := by rw [hv4]; exact row_mset h3 hne3
        replace B0 : Below w.heap.size w v4 := by rw [hv4]; exact below_mset B0 (by omega)
        clear X0k0 X0k1 X0k2 X0k3 X0k4 X0k5 X0k6 X0k7
        clear X1k0 X1k1 X1k2 X1k3 X1k4 X1k5 X1k6 X1k7
        clear X1f0 X1f1 X1f2 X1f3 X1f4 X1f5 X1f6 X1f7
        rewrite [← hv4]
        clear hv4 X1 X0 hne2 hne3
        have Z1k0 : v4.cell? ⟨w.heap.size + 1, 0, none⟩ = some (.int .i64 (r : Int)) := (Z1.cell 0).trans rfl; have Z1k1 : v4.cell? ⟨w.heap.size + 1, 1, none⟩ = some (.int .i64 (c : Int)) := (Z1.cell 1).trans rfl; have Z1k2 : v4.cell? ⟨w.heap.size + 1, 2, none⟩ = some (.slice A5 l.length c5) := (Z1.cell 2).trans rfl; have Z1k3 : v4.cell? ⟨w.heap.size + 1, 3, none⟩ = some (.int .i64 p) := (Z1.cell 3).trans rfl; have Z1k4 : v4.cell? ⟨w.heap.size + 1, 4, none⟩ = some (.int .i64 q) := (Z1.cell 4).trans rfl; have Z1k5 : v4.cell? ⟨w.heap.size + 1, 5, none⟩ = some (.int .i64 sb) := (Z1.cell 5).trans rfl; have Z1k6 : v4.cell? ⟨w.heap.size + 1, 6, none⟩ = some (.int .i64 sr) := (Z1.cell 6).trans rfl; have Z1k7 : v4.cell? ⟨w.heap.size + 1, 7, none⟩ = some (.int .i64 sx) := (Z1.cell 7).trans rfl
        refine bodyPost_ret (v := .tuple #[.agg #[.int .i64 (r : Int), .int .i64 (c : Int), .slice A5 l.length c5, .int .i64 p, .int .i64 q, .int .i64 sb, .int .i64 sr, .int .i64 sx], u7, .slice Af sfs.length cf]) ?_ rfl ?_; (focus (simp [results, Try.results55, go_sem, *]; done))
        rewrite [← HSs.out]
        exact PostG.mk (s := ⟨sl, sb, sr, sx, scs, sfs⟩) HLk.out O5 N5 h2 h3 B0
    · have HSs := Lib.hid (show s = S by rw [← hS, show n - s.fs.length = 0 by omega]; rfl)
      clear hS hs h0l h1l
      have HLk := Lib.hid hmk.len
      clear hmk
      have h0l := X0.lt
      have h1l := X1.lt
      have hne2 := row_apart h2 X1 (by decide)
      have hne3 := row_apart h3 X1 (by decide)
      obtain ⟨sl, sb, sr, sx, scs, sfs⟩ := s
      have X0k0 : wr.cell? ⟨w.heap.size, 0, none⟩ = some (.int .i64 (r : Int)) := (X0.cell 0).trans rfl; have X0k1 : wr.cell? ⟨w.heap.size, 1, none⟩ = some (.int .i64 (c : Int)) := (X0.cell 1).trans rfl; have X0k2 : wr.cell? ⟨w.heap.size, 2, none⟩ = some (.slice A5 l.length c5) := (X0.cell 2).trans rfl; have X0k3 : wr.cell? ⟨w.heap.size, 3, none⟩ = some (.int .i64 p) := (X0.cell 3).trans rfl; have X0k4 : wr.cell? ⟨w.heap.size, 4, none⟩ = some (.int .i64 q) := (X0.cell 4).trans rfl; have X0k5 : wr.cell? ⟨w.heap.size, 5, none⟩ = some (.int .i64 sb) := (X0.cell 5).trans rfl
      have X0k6 : wr.cell? ⟨w.heap.size, 6, none⟩ = some (.int .i64 sr) := (X0.cell 6).trans rfl; have X0k7 : wr.cell? ⟨w.heap.size, 7, none⟩ = some (.int .i64 sx) := (X0.cell 7).trans rfl
      have X1k0 : wr.cell? ⟨w.heap.size + 1, 0, none⟩ = some (.int .i64 0) := (X1.cell 0).trans rfl; have X1k1 : wr.cell? ⟨w.heap.size + 1, 1, none⟩ = some (.int .i64 0) := (X1.cell 1).trans rfl; have X1k2 : wr.cell? ⟨w.heap.size + 1, 2, none⟩ = some (.slice none 0 0) := (X1.cell 2).trans rfl; have X1k3 : wr.cell? ⟨w.heap.size + 1, 3, none⟩ = some (.int .i64 0) := (X1.cell 3).trans rfl; have X1k4 : wr.cell? ⟨w.heap.size + 1, 4, none⟩ = some (.int .i64 0) := (X1.cell 4).trans rfl; have X1k5 : wr.cell? ⟨w.heap.size + 1, 5, none⟩ = some (.int .i64 0) := (X1.cell 5).trans rfl
      have X1k6 : wr.cell? ⟨w.heap.size + 1, 6, none⟩ = some (.int .i64 0) := (X1.cell 6).trans rfl; have X1k7 : wr.cell? ⟨w.heap.size + 1, 7, none⟩ = some (.int .i64 0) := (X1.cell 7).trans rfl
      have X1f0 := X1.frozen 0; have X1f1 := X1.frozen 1; have X1f2 := X1.frozen 2; have X1f3 := X1.frozen 3; have X1f4 := X1.frozen 4; have X1f5 := X1.frozen 5; have X1f6 := X1.frozen 6; have X1f7 := X1.frozen 7
      go_wp2
      rewrite [mset_fold]; obtain ⟨v4, hv4⟩ : ∃ v4, v4 = mset wr (w.heap.size + 1) (.int .i64 (r : Int)) (.int .i64 (c : Int)) (.slice A5 l.length c5) (.int .i64 p) (.int .i64 q) (.int .i64 sb) (.int .i64 sr) (.int .i64 sx) := ⟨_, rfl⟩; have Z1 : Whole v4 (w.heap.size + 1) 41 [.int .i64 (r : Int), .int .i64 (c : Int), .slice A5 l.length c5, .int .i64 p, .int .i64 q, .int .i64 sb, .int .i64 sr, .int .i64 sx] := (by rw [hv4]; exact Whole.mset X1 _ _ _ _ _ _ _ _)
      replace O5 : Own v4 A5 104 (flat sl) := by rw [hv4]; exact own_mset O5 X1 (by decide)
      replace h2 : v4.ownsRow w.heap.size 3 1 u7 scs.length (ints scs) := by rw [hv4]; exact row_mset h2 hne2
      replace h3 : v4.ownsRow w.heap.size 59 3 (.slice Af sfs.length cf) sfs.length (flatF sfs) := by rw [hv4]; exact row_mset h3 hne3
      replace B0 : Below w.heap.size w v4 := by rw [hv4]; exact below_mset B0 (by omega)
      clear X0k0 X0k1 X0k2 X0k3 X0k4 X0k5 X0k6 X0k7
      clear X1k0 X1k1 X1k2 X1k3 X1k4 X1k5 X1k6 X1k7
      clear X1f0 X1f1 X1f2 X1f3 X1f4 X1f5 X1f6 X1f7
      rewrite [← hv4]
      clear hv4 X1 X0 hne2 hne3
      have Z1k0 : v4.cell? ⟨w.heap.size + 1, 0, none⟩ = some (.int .i64 (r : Int)) := (Z1.cell 0).trans rfl; have Z1k1 : v4.cell? ⟨w.heap.size + 1, 1, none⟩ = some (.int .i64 (c : Int)) := (Z1.cell 1).trans rfl; have Z1k2 : v4.cell? ⟨w.heap.size + 1, 2, none⟩ = some (.slice A5 l.length c5) := (Z1.cell 2).trans rfl; have Z1k3 : v4.cell? ⟨w.heap.size + 1, 3, none⟩ = some (.int .i64 p) := (Z1.cell 3).trans rfl; have Z1k4 : v4.cell? ⟨w.heap.size + 1, 4, none⟩ = some (.int .i64 q) := (Z1.cell 4).trans rfl; have Z1k5 : v4.cell? ⟨w.heap.size + 1, 5, none⟩ = some (.int .i64 sb) := (Z1.cell 5).trans rfl; have Z1k6 : v4.cell? ⟨w.heap.size + 1, 6, none⟩ = some (.int .i64 sr) := (Z1.cell 6).trans rfl; have Z1k7 : v4.cell? ⟨w.heap.size + 1, 7, none⟩ = some (.int .i64 sx) := (Z1.cell 7).trans rfl
      refine bodyPost_ret (v := .tuple #[.agg #[.int .i64 (r : Int), .int .i64 (c : Int), .slice A5 l.length c5, .int .i64 p, .int .i64 q, .int .i64 sb, .int .i64 sr, .int .i64 sx], u7, .slice Af sfs.length cf]) ?_ rfl ?_; (focus (simp [results, Try.results55, go_sem, *]; done))
      rewrite [← HSs.out]
      exact PostG.mk (s := ⟨sl, sb, sr, sx, scs, sfs⟩) HLk.out O5 N5 h2 h3 B0
end Go.Proofs.Ytlambflmabecfaa
namespace Go.Proofs.Ytlambflmabecfaa
open Go.ChangeShapes Go.WideShapes Go.ChangeAt Go.RowKit Go.Joins Go.Deep
set_option linter.unusedSimpArgs false
set_option linter.unusedVariables false
set_option maxRecDepth 100000
set_option maxHeartbeats 2000000
theorem impl_isHopper (n : Int) (w : World) :
    Calls Try.prog 68 #[.int .i64 n] w fun e w' => e = .returned (.bool (decide (0 ≤ n) && decide (n ≤ 30))) ∧ Below w.heap.size w w' := by
  by_cases h0 : 0 ≤ n
  · by_cases h1 : n ≤ 30
    · have HE := Lib.hid (show (decide (0 ≤ n) && decide (n ≤ 30)) = true by rw [decide_eq_true h0, decide_eq_true h1]; rfl)
      rewrite [HE.out]
      go_enter Try.func68, Try.ntmps68
      go_wp2
      go_returns
      exact ⟨rfl, by (repeat' (first | (with_reducible exact Below.refl _ _) | (with_reducible assumption) | (with_reducible refine Below.alloc ?_ ?_ _) | (with_reducible refine Below.setCell ?_ ?_ _) | (with_reducible refine Below.drew ?_) | (with_reducible refine below_drewN ?_ _) | (with_reducible refine Below.trans ?_ (Below.mono (by assumption) ?_)) | (with_reducible exact Nat.le_refl _) | (simp; done) | omega | (simp at *; omega)))⟩
    · have HE := Lib.hid (show (decide (0 ≤ n) && decide (n ≤ 30)) = false by rw [decide_eq_true h0, decide_eq_false h1]; rfl)
      rewrite [HE.out]
      go_enter Try.func68, Try.ntmps68
      go_wp2
      go_returns
      exact ⟨rfl, by (repeat' (first | (with_reducible exact Below.refl _ _) | (with_reducible assumption) | (with_reducible refine Below.alloc ?_ ?_ _) | (with_reducible refine Below.setCell ?_ ?_ _) | (with_reducible refine Below.drew ?_) | (with_reducible refine below_drewN ?_ _) | (with_reducible refine Below.trans ?_ (Below.mono (by assumption) ?_)) | (with_reducible exact Nat.le_refl _) | (simp; done) | omega | (simp at *; omega)))⟩
  · have HE := Lib.hid (show (decide (0 ≤ n) && decide (n ≤ 30)) = false by rw [decide_eq_false h0]; rfl)
    rewrite [HE.out]
    go_enter Try.func68, Try.ntmps68
    go_wp2
    go_returns
    exact ⟨rfl, by (repeat' (first | (with_reducible exact Below.refl _ _) | (with_reducible assumption) | (with_reducible refine Below.alloc ?_ ?_ _) | (with_reducible refine Below.setCell ?_ ?_ _) | (with_reducible refine Below.drew ?_) | (with_reducible refine below_drewN ?_ _) | (with_reducible refine Below.trans ?_ (Below.mono (by assumption) ?_)) | (with_reducible exact Nat.le_refl _) | (simp; done) | omega | (simp at *; omega)))⟩
theorem okC'_two (R C : Int) (l : List (Int × Int)) (j k : Int) : okC' R C l [j, k] = (okF R C l j && okF R C l k) := by
  unfold okC' okF allI
  rw [List.all_cons, List.all_cons, List.all_nil, Bool.and_true, inI_lt, inI_lt]
  cases goodB R C l <;> simp
theorem impl_areEntries2 (R C : Int) (A : Option Addr) (cap : Nat) (l : List (Int × Int)) (j k : Int) (g : Nat) (w : World) (hn : l.length ≤ 1048576) (hr : Rd w w.heap.size A (flat l)) (hg : Whole w g 3 [.int .i64 j, .int .i64 k]) :
    Calls Try.prog 67 #[.agg #[.int .i64 R, .int .i64 C, .slice A l.length cap], .slice (some ⟨g, 0, none⟩) 2 2] w fun e w' => e = .returned (.bool (okF R C l j && okF R C l k)) ∧ Below w.heap.size w w' := by
  rw [← okC'_two]
  exact impl_areEntries R C A cap l (some ⟨g, 0, none⟩) 2 [j, k] w hn (by simp) hr (hg.rd hg.lt)
theorem impl_IsMachine (R C : Int) (A : Option Addr) (cap : Nat) (l : List (Int × Int)) (p q bl rd nx : Int) (w : World) (hn : l.length ≤ 1048576) (hr : Rd w w.heap.size A (flat l)) :
    Calls Try.prog 57 #[.agg #[.int .i64 R, .int .i64 C, .slice A l.length cap, .int .i64 p, .int .i64 q, .int .i64 bl, .int .i64 rd, .int .i64 nx]] w fun e w' => e = .returned (.bool (okM R C l p q bl rd nx)) ∧ Below w.heap.size w w' := by
  have HE := Lib.hid (show okM R C l p q bl rd nx = ((okF R C l p && okF R C l q) && (decide (0 ≤ bl) && decide (bl ≤ 30)) && (decide (0 ≤ rd) && decide (rd ≤ 30)) && decide (0 ≤ nx) && decide (nx ≤ 2)) by unfold okM inM; cases okF R C l p <;> cases okF R C l q <;> simp [Bool.and_assoc])
  rewrite [HE.out]
  clear HE
  go_enter Try.func57, Try.ntmps57
  obtain ⟨v0, hv0⟩ : ∃ v, v = w.alloc (.cells #[.int .i64 R, .int .i64 C, .slice A l.length cap, .int .i64 p, .int .i64 q, .int .i64 bl, .int .i64 rd, .int .i64 nx] 41) := ⟨_, rfl⟩; have X0 : Whole v0 w.heap.size 41 [.int .i64 R, .int .i64 C, .slice A l.length cap, .int .i64 p, .int .i64 q, .int .i64 bl, .int .i64 rd, .int .i64 nx] := (by rw [hv0]; exact heap_alloc_new w _); have hb : Below w.heap.size w v0 := (by rw [hv0]; exact (Below.refl _ _).alloc (Nat.le_refl _) _); have HV := Lib.hid hv0.symm; clear hv0; go_upto_region 1 with (fail); rewrite [HV.out]; clear HV; have hy := X0.lt
  have X0k0 : v0.cell? ⟨w.heap.size, 0, none⟩ = some (.int .i64 R) := (X0.cell 0).trans rfl; have X0k1 : v0.cell? ⟨w.heap.size, 1, none⟩ = some (.int .i64 C) := (X0.cell 1).trans rfl; have X0k2 : v0.cell? ⟨w.heap.size, 2, none⟩ = some (.slice A l.length cap) := (X0.cell 2).trans rfl; have X0k3 : v0.cell? ⟨w.heap.size, 3, none⟩ = some (.int .i64 p) := (X0.cell 3).trans rfl; have X0k4 : v0.cell? ⟨w.heap.size, 4, none⟩ = some (.int .i64 q) := (X0.cell 4).trans rfl; have X0k5 : v0.cell? ⟨w.heap.size, 5, none⟩ = some (.int .i64 bl) := (X0.cell 5).trans rfl; have X0k6 : v0.cell? ⟨w.heap.size, 6, none⟩ = some (.int .i64 rd) := (X0.cell 6).trans rfl; have X0k7 : v0.cell? ⟨w.heap.size, 7, none⟩ = some (.int .i64 nx) := (X0.cell 7).trans rfl
  go_wp2_with fail
  have bl1 : Below v0.heap.size v0 (v0.alloc (.cells #[.int .i64 p, .int .i64 q] 3)) := (Below.refl _ _).alloc (Nat.le_refl _) _
  have Xl : Whole (v0.alloc (.cells #[.int .i64 p, .int .i64 q] 3)) v0.heap.size 3 [.int .i64 p, .int .i64 q] := heap_alloc_new v0 _
  clear X0k0 X0k1 X0k2 X0k3 X0k4 X0k5 X0k6 X0k7
  replace X0 := X0.below bl1 X0.lt
  replace hb := hb.trans (bl1.mono hb.size)
  clear bl1
  generalize v0.alloc (.cells #[.int .i64 p, .int .i64 q] 3) = v1 at *
  refine (impl_areEntries2 _ _ _ _ l _ _ _ _ hn ((hr.below hb).mono hb.size) Xl).mono ?_; rintro e w1 ⟨rfl, b1⟩
  clear Xl
  (replace X0 := X0.below b1 X0.lt; replace hb := hb.trans (b1.mono hb.size); have hy := X0.lt; clear b1)
  rcases Bool.eq_false_or_eq_true (okF R C l p && okF R C l q) with h1 | h1
  · rewrite [h1]
    have X0k0 : w1.cell? ⟨w.heap.size, 0, none⟩ = some (.int .i64 R) := (X0.cell 0).trans rfl; have X0k1 : w1.cell? ⟨w.heap.size, 1, none⟩ = some (.int .i64 C) := (X0.cell 1).trans rfl; have X0k2 : w1.cell? ⟨w.heap.size, 2, none⟩ = some (.slice A l.length cap) := (X0.cell 2).trans rfl; have X0k3 : w1.cell? ⟨w.heap.size, 3, none⟩ = some (.int .i64 p) := (X0.cell 3).trans rfl; have X0k4 : w1.cell? ⟨w.heap.size, 4, none⟩ = some (.int .i64 q) := (X0.cell 4).trans rfl; have X0k5 : w1.cell? ⟨w.heap.size, 5, none⟩ = some (.int .i64 bl) := (X0.cell 5).trans rfl; have X0k6 : w1.cell? ⟨w.heap.size, 6, none⟩ = some (.int .i64 rd) := (X0.cell 6).trans rfl; have X0k7 : w1.cell? ⟨w.heap.size, 7, none⟩ = some (.int .i64 nx) := (X0.cell 7).trans rfl
    go_wp2_with fail
    refine (impl_isHopper _ _).mono ?_; rintro e w3 ⟨rfl, b2⟩
    clear X0k0 X0k1 X0k2 X0k3 X0k4 X0k5 X0k6 X0k7
    (replace X0 := X0.below b2 X0.lt; replace hb := hb.trans (b2.mono hb.size); have hy := X0.lt; clear b2)
    rcases Bool.eq_false_or_eq_true (decide (0 ≤ bl) && decide (bl ≤ 30)) with h3 | h3
    · rewrite [h3]
      have X0k0 : w3.cell? ⟨w.heap.size, 0, none⟩ = some (.int .i64 R) := (X0.cell 0).trans rfl; have X0k1 : w3.cell? ⟨w.heap.size, 1, none⟩ = some (.int .i64 C) := (X0.cell 1).trans rfl; have X0k2 : w3.cell? ⟨w.heap.size, 2, none⟩ = some (.slice A l.length cap) := (X0.cell 2).trans rfl; have X0k3 : w3.cell? ⟨w.heap.size, 3, none⟩ = some (.int .i64 p) := (X0.cell 3).trans rfl; have X0k4 : w3.cell? ⟨w.heap.size, 4, none⟩ = some (.int .i64 q) := (X0.cell 4).trans rfl; have X0k5 : w3.cell? ⟨w.heap.size, 5, none⟩ = some (.int .i64 bl) := (X0.cell 5).trans rfl; have X0k6 : w3.cell? ⟨w.heap.size, 6, none⟩ = some (.int .i64 rd) := (X0.cell 6).trans rfl; have X0k7 : w3.cell? ⟨w.heap.size, 7, none⟩ = some (.int .i64 nx) := (X0.cell 7).trans rfl
      go_wp2_with fail
      refine (impl_isHopper _ _).mono ?_; rintro e w4 ⟨rfl, b3⟩
      clear X0k0 X0k1 X0k2 X0k3 X0k4 X0k5 X0k6 X0k7
      (replace X0 := X0.below b3 X0.lt; replace hb := hb.trans (b3.mono hb.size); have hy := X0.lt; clear b3)
      rcases Bool.eq_false_or_eq_true (decide (0 ≤ rd) && decide (rd ≤ 30)) with h4 | h4
      · rewrite [h4]
        have X0k0 : w4.cell? ⟨w.heap.size, 0, none⟩ = some (.int .i64 R) := (X0.cell 0).trans rfl; have X0k1 : w4.cell? ⟨w.heap.size, 1, none⟩ = some (.int .i64 C) := (X0.cell 1).trans rfl; have X0k2 : w4.cell? ⟨w.heap.size, 2, none⟩ = some (.slice A l.length cap) := (X0.cell 2).trans rfl; have X0k3 : w4.cell? ⟨w.heap.size, 3, none⟩ = some (.int .i64 p) := (X0.cell 3).trans rfl; have X0k4 : w4.cell? ⟨w.heap.size, 4, none⟩ = some (.int .i64 q) := (X0.cell 4).trans rfl; have X0k5 : w4.cell? ⟨w.heap.size, 5, none⟩ = some (.int .i64 bl) := (X0.cell 5).trans rfl; have X0k6 : w4.cell? ⟨w.heap.size, 6, none⟩ = some (.int .i64 rd) := (X0.cell 6).trans rfl; have X0k7 : w4.cell? ⟨w.heap.size, 7, none⟩ = some (.int .i64 nx) := (X0.cell 7).trans rfl
        rcases Bool.eq_false_or_eq_true (decide (0 ≤ nx)) with h5 | h5
        · have h6 := of_decide_eq_true h5
          have h7 := Lib.hid h5
          clear h5
          go_wp2
          go_returns
          exact ⟨by (first | (rw [h1, h3, h4, h7.out]; rfl) | (rw [h7.out]; rfl)), hb⟩
        · have h6 := of_decide_eq_false h5
          have h7 := Lib.hid h5
          clear h5
          go_wp2
          go_returns
          exact ⟨by (first | (rw [h1, h3, h4, h7.out]; rfl) | (rw [h7.out]; rfl)), hb⟩
      · rewrite [h4]
        go_wp2
        go_returns
        exact ⟨by rw [h1, h3, h4]; rfl, hb⟩
    · rewrite [h3]
      go_wp2
      go_returns
      exact ⟨by rw [h1, h3]; rfl, hb⟩
  · rewrite [h1]
    go_wp2
    go_returns
    exact ⟨by rw [h1]; rfl, hb⟩
theorem impl_cloneMachine (R C : Int) (b o cap : Nat) (l : List (Int × Int)) (p q bl rd nx : Int) (w : World) (hn : l.length ≤ 1048576) (hr : Rd w w.heap.size (some ⟨b, o, none⟩) (flat l)) :
    Calls Try.prog 58 #[.agg #[.int .i64 R, .int .i64 C, .slice (some ⟨b, o, none⟩) l.length cap, .int .i64 p, .int .i64 q, .int .i64 bl, .int .i64 rd, .int .i64 nx]] w fun e w' => ∃ A' cap', e = .returned (.agg #[.int .i64 R, .int .i64 C, .slice A' l.length cap', .int .i64 p, .int .i64 q, .int .i64 bl, .int .i64 rd, .int .i64 nx]) ∧ Own w' A' 104 (flat l) ∧ New w A' ∧ Below w.heap.size w w' := by
  go_enter Try.func58, Try.ntmps58
  obtain ⟨v0, hv0, X0, X1, B0, hz0⟩ := two_boxes w [.int .i64 R, .int .i64 C, .slice (some ⟨b, o, none⟩) l.length cap, .int .i64 p, .int .i64 q, .int .i64 bl, .int .i64 rd, .int .i64 nx] 41 [.int .i64 0, .int .i64 0, .slice none 0 0, .int .i64 0, .int .i64 0, .int .i64 0, .int .i64 0, .int .i64 0] 41; have HV := Lib.hid hv0; have hz : w.heap.size + 1 < v0.heap.size := (by omega); have hy : w.heap.size < v0.heap.size := (by omega); have hb0 := B0.size; clear hv0 hz0; go_wp2_with fail; rewrite [show (w.alloc (.cells ([.int .i64 R, .int .i64 C, .slice (some ⟨b, o, none⟩) l.length cap, .int .i64 p, .int .i64 q, .int .i64 bl, .int .i64 rd, .int .i64 nx] : List Value).toArray 41)).alloc (.cells ([.int .i64 0, .int .i64 0, .slice none 0 0, .int .i64 0, .int .i64 0, .int .i64 0, .int .i64 0, .int .i64 0] : List Value).toArray 41) = v0 from HV.out]; clear HV
  have X0k0 : v0.cell? ⟨w.heap.size, 0, none⟩ = some (.int .i64 R) := (X0.cell 0).trans rfl; have X0k1 : v0.cell? ⟨w.heap.size, 1, none⟩ = some (.int .i64 C) := (X0.cell 1).trans rfl; have X0k2 : v0.cell? ⟨w.heap.size, 2, none⟩ = some (.slice (some ⟨b, o, none⟩) l.length cap) := (X0.cell 2).trans rfl
  go_wp2_with fail
  refine (impl_cloneBoard R C b o cap l _ hn ((hr.below B0).mono B0.size)).mono ?_; rintro e w1 ⟨A5, c5, rfl, o5, n5, b1⟩
  clear X0k0 X0k1 X0k2
  have hn0 : New w A5 := fun a ha => Nat.le_trans B0.size (n5 a ha)
  replace X0 := X0.below b1 X0.lt; replace X1 := X1.below b1 X1.lt; replace B0 := B0.trans (b1.mono B0.size); have hy := X0.lt; have hz := X1.lt; have hb0 := B0.size; clear b1
  have X0k0 : w1.cell? ⟨w.heap.size, 0, none⟩ = some (.int .i64 R) := (X0.cell 0).trans rfl; have X0k1 : w1.cell? ⟨w.heap.size, 1, none⟩ = some (.int .i64 C) := (X0.cell 1).trans rfl; have X0k2 : w1.cell? ⟨w.heap.size, 2, none⟩ = some (.slice (some ⟨b, o, none⟩) l.length cap) := (X0.cell 2).trans rfl
  have X0f0 := X0.frozen 0; have X0f1 := X0.frozen 1; have X0f2 := X0.frozen 2
  have n10 : w.heap.size ≠ w.heap.size + 1 := by omega
  go_upto_region 2 with (fail)
  obtain ⟨v2, hv2⟩ : ∃ v2, v2 = (((w1.setCell ⟨w.heap.size, 0, none⟩ (.int .i64 R)).setCell ⟨w.heap.size, 1, none⟩ (.int .i64 C)).setCell ⟨w.heap.size, 2, none⟩ (.slice A5 l.length c5)) := ⟨_, rfl⟩
  have Y0 : Whole v2 w.heap.size 41 [.int .i64 R, .int .i64 C, .slice A5 l.length c5, .int .i64 p, .int .i64 q, .int .i64 bl, .int .i64 rd, .int .i64 nx] := by rw [hv2]; exact ((X0.set 0 (.int .i64 R)).set 1 (.int .i64 C)).set 2 (.slice A5 l.length c5)
  replace X1 : Whole v2 (w.heap.size + 1) 41 [.int .i64 0, .int .i64 0, .slice none 0 0, .int .i64 0, .int .i64 0, .int .i64 0, .int .i64 0, .int .i64 0] := by rw [hv2]; exact three_far X1 n10
  replace o5 : Own v2 A5 104 (flat l) := by
    rw [hv2]
    intro hx
    obtain ⟨k, rest, rfl, hk⟩ := o5 hx
    have hk0 : v0.heap.size ≤ k := n5 _ rfl
    exact ⟨k, rest, rfl, three_far hk (by have := B0.size; intro e; subst e; have := own_apart (A := some ⟨w.heap.size, 0, none⟩) (fun _ => ⟨_, rest, rfl, hk⟩) X0 (by decide) hx rfl; exact this rfl)⟩
  replace B0 : Below w.heap.size w v2 := by rw [hv2]; exact ((B0.setCell (p := ⟨w.heap.size, 0, none⟩) (Nat.le_refl _) _).setCell (p := ⟨w.heap.size, 1, none⟩) (Nat.le_refl _) _).setCell (p := ⟨w.heap.size, 2, none⟩) (Nat.le_refl _) _
  rewrite [← hv2]
  clear X0k0 X0k1 X0k2
  clear X0f0 X0f1 X0f2 hv2 n5 X0
  have X0 := Y0
  have hy := X0.lt
  have hz := X1.lt
  have X0k0 : v2.cell? ⟨w.heap.size, 0, none⟩ = some (.int .i64 R) := (X0.cell 0).trans rfl; have X0k1 : v2.cell? ⟨w.heap.size, 1, none⟩ = some (.int .i64 C) := (X0.cell 1).trans rfl; have X0k2 : v2.cell? ⟨w.heap.size, 2, none⟩ = some (.slice A5 l.length c5) := (X0.cell 2).trans rfl; have X0k3 : v2.cell? ⟨w.heap.size, 3, none⟩ = some (.int .i64 p) := (X0.cell 3).trans rfl; have X0k4 : v2.cell? ⟨w.heap.size, 4, none⟩ = some (.int .i64 q) := (X0.cell 4).trans rfl; have X0k5 : v2.cell? ⟨w.heap.size, 5, none⟩ = some (.int .i64 bl) := (X0.cell 5).trans rfl
  have X0k6 : v2.cell? ⟨w.heap.size, 6, none⟩ = some (.int .i64 rd) := (X0.cell 6).trans rfl; have X0k7 : v2.cell? ⟨w.heap.size, 7, none⟩ = some (.int .i64 nx) := (X0.cell 7).trans rfl
  have X1k0 : v2.cell? ⟨w.heap.size + 1, 0, none⟩ = some (.int .i64 0) := (X1.cell 0).trans rfl; have X1k1 : v2.cell? ⟨w.heap.size + 1, 1, none⟩ = some (.int .i64 0) := (X1.cell 1).trans rfl; have X1k2 : v2.cell? ⟨w.heap.size + 1, 2, none⟩ = some (.slice none 0 0) := (X1.cell 2).trans rfl; have X1k3 : v2.cell? ⟨w.heap.size + 1, 3, none⟩ = some (.int .i64 0) := (X1.cell 3).trans rfl; have X1k4 : v2.cell? ⟨w.heap.size + 1, 4, none⟩ = some (.int .i64 0) := (X1.cell 4).trans rfl; have X1k5 : v2.cell? ⟨w.heap.size + 1, 5, none⟩ = some (.int .i64 0) := (X1.cell 5).trans rfl
  have X1k6 : v2.cell? ⟨w.heap.size + 1, 6, none⟩ = some (.int .i64 0) := (X1.cell 6).trans rfl; have X1k7 : v2.cell? ⟨w.heap.size + 1, 7, none⟩ = some (.int .i64 0) := (X1.cell 7).trans rfl
  have X1f0 := X1.frozen 0; have X1f1 := X1.frozen 1; have X1f2 := X1.frozen 2; have X1f3 := X1.frozen 3; have X1f4 := X1.frozen 4; have X1f5 := X1.frozen 5; have X1f6 := X1.frozen 6; have X1f7 := X1.frozen 7
  go_wp2
  rewrite [mset_fold]; obtain ⟨v4, hv4⟩ : ∃ v4, v4 = mset v2 (w.heap.size + 1) (.int .i64 R) (.int .i64 C) (.slice A5 l.length c5) (.int .i64 p) (.int .i64 q) (.int .i64 bl) (.int .i64 rd) (.int .i64 nx) := ⟨_, rfl⟩; have Z1 : Whole v4 (w.heap.size + 1) 41 [.int .i64 R, .int .i64 C, .slice A5 l.length c5, .int .i64 p, .int .i64 q, .int .i64 bl, .int .i64 rd, .int .i64 nx] := (by rw [hv4]; exact Whole.mset X1 _ _ _ _ _ _ _ _)
  replace o5 : Own v4 A5 104 (flat l) := by rw [hv4]; exact own_mset o5 X1 (by decide)
  replace B0 : Below w.heap.size w v4 := by rw [hv4]; exact below_mset B0 (by omega)
  clear X0k0 X0k1 X0k2 X0k3 X0k4 X0k5 X0k6 X0k7
  clear X1k0 X1k1 X1k2 X1k3 X1k4 X1k5 X1k6 X1k7
  clear X1f0 X1f1 X1f2 X1f3 X1f4 X1f5 X1f6 X1f7
  rewrite [← hv4]
  clear hv4
  have Z1k0 : v4.cell? ⟨w.heap.size + 1, 0, none⟩ = some (.int .i64 R) := (Z1.cell 0).trans rfl; have Z1k1 : v4.cell? ⟨w.heap.size + 1, 1, none⟩ = some (.int .i64 C) := (Z1.cell 1).trans rfl; have Z1k2 : v4.cell? ⟨w.heap.size + 1, 2, none⟩ = some (.slice A5 l.length c5) := (Z1.cell 2).trans rfl; have Z1k3 : v4.cell? ⟨w.heap.size + 1, 3, none⟩ = some (.int .i64 p) := (Z1.cell 3).trans rfl; have Z1k4 : v4.cell? ⟨w.heap.size + 1, 4, none⟩ = some (.int .i64 q) := (Z1.cell 4).trans rfl; have Z1k5 : v4.cell? ⟨w.heap.size + 1, 5, none⟩ = some (.int .i64 bl) := (Z1.cell 5).trans rfl; have Z1k6 : v4.cell? ⟨w.heap.size + 1, 6, none⟩ = some (.int .i64 rd) := (Z1.cell 6).trans rfl; have Z1k7 : v4.cell? ⟨w.heap.size + 1, 7, none⟩ = some (.int .i64 nx) := (Z1.cell 7).trans rfl
  refine bodyPost_ret (v := .agg #[.int .i64 R, .int .i64 C, .slice A5 l.length c5, .int .i64 p, .int .i64 q, .int .i64 bl, .int .i64 rd, .int .i64 nx]) ?_ rfl ?_; (focus (simp [results, Try.results58, go_sem, *]; done))
  exact ⟨A5, c5, rfl, o5, hn0, B0⟩
end Go.Proofs.Ytlambflmabecfaa
namespace Go.Proofs.Ytlambflmabecfaa
open Go.ChangeShapes Go.WideShapes Go.ChangeAt Go.RowKit Go.Joins Go.Deep
set_option linter.unusedSimpArgs false
set_option linter.unusedVariables false
set_option maxRecDepth 100000
set_option maxHeartbeats 4000000
/-- What dropMarble leaves behind: the end, as a value of the interface, and its cells turned. -/
def PostE (w : World) (g5 : Nat) (rest5 : List Value) (F : FlR) (e : Ending) (w' : World) : Prop :=
  e = .returned (endV (F.e, F.row, F.col)) ∧ Whole w' g5 104 (flat F.cells ++ rest5) ∧ w.grownBy w' (some g5)
theorem impl_dropMarble (r c g5 cap : Nat) (l : List (Int × Int)) (rest5 : List Value) (col : Nat) (w : World) (hG : Geo r c l.length) (hgd : goodB (r : Int) (c : Int) l = true) (hcol : col < c) (X7 : Whole w g5 104 (flat l ++ rest5)) :
    Calls Try.prog 70 #[.agg #[.int .i64 (r : Int), .int .i64 (c : Int), .slice (some ⟨g5, 0, none⟩) l.length cap], .int .i64 (col : Int)] w (PostE w g5 rest5 (flG (numL c l) r c r 0 l col 0 [])) := by
  have mk1 : ∀ (x : Value) (w : World), (Instr.makeInterface 118 x).run Try.prog w = .ok (.iface 118 x) w := fun x w => run_makeInterface w _ x (by kernel_rfl)
  have mk2 : ∀ (x : Value) (w : World), (Instr.makeInterface 119 x).run Try.prog w = .ok (.iface 119 x) w := fun x w => run_makeInterface w _ x (by kernel_rfl)
  have hlt := X7.lt
  go_enter Try.func70, Try.ntmps70
  obtain ⟨v0, hv0⟩ : ∃ v, v = w.alloc (.cells #[.int .i64 (r : Int), .int .i64 (c : Int), .slice (some ⟨g5, 0, none⟩) l.length cap] 39) := ⟨_, rfl⟩
  have X0 : Whole v0 w.heap.size 39 [.int .i64 (r : Int), .int .i64 (c : Int), .slice (some ⟨g5, 0, none⟩) l.length cap] := by rw [hv0]; exact heap_alloc_new w _
  have hb : Below w.heap.size w v0 := by rw [hv0]; exact (Below.refl _ _).alloc (Nat.le_refl _) _
  have HV := Lib.hid hv0.symm
  clear hv0
  go_upto_region 1 with (fail)
  rewrite [HV.out]
  clear HV
  replace X7 := X7.below hb hlt
  have gb := gb_below (gb_refl w g5) hb
  have X0k0 : v0.cell? ⟨w.heap.size, 0, none⟩ = some (.int .i64 (r : Int)) := (X0.cell 0).trans rfl; have X0k1 : v0.cell? ⟨w.heap.size, 1, none⟩ = some (.int .i64 (c : Int)) := (X0.cell 1).trans rfl; have X0k2 : v0.cell? ⟨w.heap.size, 2, none⟩ = some (.slice (some ⟨g5, 0, none⟩) l.length cap) := (X0.cell 2).trans rfl
  go_wp2_with fail
  refine (impl_letFall r c g5 cap l rest5 col _ hG hgd hcol X7).mono ?_; rintro e w2 ⟨A, cp, rfl, oA, nA, X7', gb2⟩
  clear X0k0 X0k1 X0k2
  replace gb := gb_same gb gb2
  clear X0 X7 gb2 oA nA hb
  generalize flG (numL c l) r c r 0 l col 0 [] = F at *
  obtain ⟨fe, fr, fc, fl, fw⟩ := F
  by_cases hE : fe = 1
  · subst hE
    go_wp2
    refine bodyPost_ret (v := .iface 118 (.agg #[.int .i64 1, .int .i64 fr, .int .i64 fc])) ?_ rfl ?_; (focus (simp [results, Try.results70, go_sem, *]; done))
    exact ⟨by rw [endV_in rfl], X7'.below (by (repeat' (first | (with_reducible exact Below.refl _ _) | (with_reducible assumption) | (with_reducible refine Below.alloc ?_ ?_ _) | (with_reducible refine Below.setCell ?_ ?_ _) | (with_reducible refine Below.drew ?_) | (with_reducible refine below_drewN ?_ _) | (with_reducible refine Below.trans ?_ (Below.mono (by assumption) ?_)) | (with_reducible exact Nat.le_refl _) | (simp; done) | omega | (simp at *; omega)))) X7'.lt, gb_below gb (by (repeat' (first | (with_reducible exact Below.refl _ _) | (with_reducible assumption) | (with_reducible refine Below.alloc ?_ ?_ _) | (with_reducible refine Below.setCell ?_ ?_ _) | (with_reducible refine Below.drew ?_) | (with_reducible refine below_drewN ?_ _) | (with_reducible refine Below.trans ?_ (Below.mono (by assumption) ?_)) | (with_reducible exact Nat.le_refl _) | (simp; done) | omega | (simp at *; omega))))⟩
  · have hb : (fe == 1) = false := by simpa using hE
    go_wp2
    refine bodyPost_ret (v := .iface 119 (.agg #[.int .i64 fe, .int .i64 fr, .int .i64 fc])) ?_ rfl ?_; (focus (simp [results, Try.results70, go_sem, *]; done))
    exact ⟨by rw [endV_out hE], X7'.below (by (repeat' (first | (with_reducible exact Below.refl _ _) | (with_reducible assumption) | (with_reducible refine Below.alloc ?_ ?_ _) | (with_reducible refine Below.setCell ?_ ?_ _) | (with_reducible refine Below.drew ?_) | (with_reducible refine below_drewN ?_ _) | (with_reducible refine Below.trans ?_ (Below.mono (by assumption) ?_)) | (with_reducible exact Nat.le_refl _) | (simp; done) | omega | (simp at *; omega)))) X7'.lt, gb_below gb (by (repeat' (first | (with_reducible exact Below.refl _ _) | (with_reducible assumption) | (with_reducible refine Below.alloc ?_ ?_ _) | (with_reducible refine Below.setCell ?_ ?_ _) | (with_reducible refine Below.drew ?_) | (with_reducible refine below_drewN ?_ _) | (with_reducible refine Below.trans ?_ (Below.mono (by assumption) ?_)) | (with_reducible exact Nat.le_refl _) | (simp; done) | omega | (simp at *; omega))))⟩
theorem impl_arrivalColumn (f : Int × Int × Int) (w : World) :
    Calls Try.prog 79 #[endV f] w fun e w' => e = .returned (.tuple #[.int .i64 (if f.1 = 1 then f.2.2 else 0), .bool (decide (f.1 = 1))]) ∧ Below w.heap.size w w' := by
  obtain ⟨a, b, c⟩ := f
  have as1 : ∀ (v : Value) (w : World), (Instr.typeAssert (.iface 118 v) 77 118 true).run Try.prog w = .ok (.tuple #[v, .bool true]) w := fun v w => by kernel_rfl
  have as2 : ∀ (v : Value) (w : World), (Instr.typeAssert (.iface 119 v) 77 118 true).run Try.prog w = .ok (.tuple #[.agg #[.int .i64 0, .int .i64 0, .int .i64 0], .bool false]) w := fun v w => by kernel_rfl
  by_cases h : a = 1
  · subst h
    rw [endV_in rfl]
    have e1 : (if ((1, b, c) : Int × Int × Int).1 = 1 then ((1, b, c) : Int × Int × Int).2.2 else 0) = c := if_pos rfl
    have e2 : decide (((1, b, c) : Int × Int × Int).1 = 1) = true := decide_eq_true rfl
    rw [e1, e2]
    clear e1 e2
    go_enter Try.func79, Try.ntmps79
    go_wp2
    refine bodyPost_ret (v := .tuple #[.int .i64 c, .bool true]) ?_ rfl ?_; (focus (simp [results, Try.results79, go_sem, *]; done))
    exact ⟨rfl, by (repeat' (first | (with_reducible exact Below.refl _ _) | (with_reducible assumption) | (with_reducible refine Below.alloc ?_ ?_ _) | (with_reducible refine Below.setCell ?_ ?_ _) | (with_reducible refine Below.drew ?_) | (with_reducible refine below_drewN ?_ _) | (with_reducible refine Below.trans ?_ (Below.mono (by assumption) ?_)) | (with_reducible exact Nat.le_refl _) | (simp; done) | omega | (simp at *; omega)))⟩
  · rw [endV_out h]
    have e1 : (if ((a, b, c) : Int × Int × Int).1 = 1 then ((a, b, c) : Int × Int × Int).2.2 else 0) = 0 := if_neg h
    have e2 : decide (((a, b, c) : Int × Int × Int).1 = 1) = false := decide_eq_false h
    rw [e1, e2]
    clear e1 e2
    clear h
    go_enter Try.func79, Try.ntmps79
    go_wp2
    refine bodyPost_ret (v := .tuple #[.int .i64 0, .bool false]) ?_ rfl ?_; (focus (simp [results, Try.results79, go_sem, *]; done))
    exact ⟨rfl, by (repeat' (first | (with_reducible exact Below.refl _ _) | (with_reducible assumption) | (with_reducible refine Below.alloc ?_ ?_ _) | (with_reducible refine Below.setCell ?_ ?_ _) | (with_reducible refine Below.drew ?_) | (with_reducible refine below_drewN ?_ _) | (with_reducible refine Below.trans ?_ (Below.mono (by assumption) ?_)) | (with_reducible exact Nat.le_refl _) | (simp; done) | omega | (simp at *; omega)))⟩
def nextE (f : Int × Int × Int) (C : Int) : Int := if f.1 = 1 then (if 2 * f.2.2 < C then 0 else 1) else 2
theorem impl_nextBehind (f : Int × Int × Int) (C : Int) (w : World) (hb : f.1 = 1 → 0 ≤ f.2.2 ∧ f.2.2 ≤ 1000) :
    Calls Try.prog 71 #[endV f, .int .i64 C] w fun e w' => e = .returned (.int .i64 (nextE f C)) ∧ Below w.heap.size w w' := by
  unfold nextE
  by_cases h : f.1 = 1
  · obtain ⟨h1, h2⟩ := hb h
    have m1 : IntKind.i64.wrap (2 * f.2.2) = 2 * f.2.2 := IntWalk.i64_in _ (by omega)
    have HC := Lib.hid (impl_arrivalColumn f)
    rw [if_pos h]
    rw [if_pos h, decide_eq_true h] at HC
    by_cases h3 : 2 * f.2.2 < C
    · rw [if_pos h3]
      generalize endV f = ev at *
      generalize f.2.2 = cl at *
      clear h hb
      go_enter Try.func71, Try.ntmps71
      go_wp2_with fail
      refine (HC.out _).mono ?_; rintro e w1 ⟨rfl, b1⟩
      go_wp2
      go_returns
      exact ⟨rfl, by (repeat' (first | (with_reducible exact Below.refl _ _) | (with_reducible assumption) | (with_reducible refine Below.alloc ?_ ?_ _) | (with_reducible refine Below.setCell ?_ ?_ _) | (with_reducible refine Below.drew ?_) | (with_reducible refine below_drewN ?_ _) | (with_reducible refine Below.trans ?_ (Below.mono (by assumption) ?_)) | (with_reducible exact Nat.le_refl _) | (simp; done) | omega | (simp at *; omega)))⟩
    · rw [if_neg h3]
      generalize endV f = ev at *
      generalize f.2.2 = cl at *
      clear h hb
      go_enter Try.func71, Try.ntmps71
      go_wp2_with fail
      refine (HC.out _).mono ?_; rintro e w1 ⟨rfl, b1⟩
      go_wp2
      go_returns
      exact ⟨rfl, by (repeat' (first | (with_reducible exact Below.refl _ _) | (with_reducible assumption) | (with_reducible refine Below.alloc ?_ ?_ _) | (with_reducible refine Below.setCell ?_ ?_ _) | (with_reducible refine Below.drew ?_) | (with_reducible refine below_drewN ?_ _) | (with_reducible refine Below.trans ?_ (Below.mono (by assumption) ?_)) | (with_reducible exact Nat.le_refl _) | (simp; done) | omega | (simp at *; omega)))⟩
  · have HC := Lib.hid (impl_arrivalColumn f)
    rw [if_neg h]
    rw [if_neg h, decide_eq_false h] at HC
    generalize endV f = ev at *
    clear h hb
    go_enter Try.func71, Try.ntmps71
    go_wp2_with fail
    refine (HC.out _).mono ?_; rintro e w1 ⟨rfl, b1⟩
    go_wp2
    go_returns
    exact ⟨rfl, by (repeat' (first | (with_reducible exact Below.refl _ _) | (with_reducible assumption) | (with_reducible refine Below.alloc ?_ ?_ _) | (with_reducible refine Below.setCell ?_ ?_ _) | (with_reducible refine Below.drew ?_) | (with_reducible refine below_drewN ?_ _) | (with_reducible refine Below.trans ?_ (Below.mono (by assumption) ?_)) | (with_reducible exact Nat.le_refl _) | (simp; done) | omega | (simp at *; omega)))⟩
end Go.Proofs.Ytlambflmabecfaa
namespace Go.Proofs.Ytlambflmabecfaa
open Go.ChangeShapes Go.WideShapes Go.ChangeAt Go.RowKit Go.Joins Go.Deep
set_option linter.unusedSimpArgs false
set_option linter.unusedVariables false
set_option maxRecDepth 100000
set_option maxHeartbeats 4000000
/-- What releaseNext leaves behind, where a step is possible. -/
def PostR (w : World) (r c g g5 cap : Nat) (l : List (Int × Int)) (rest5 : List Value) (p q bl rd nx : Int) (e : Ending) (w' : World) : Prop :=
  e = .returned (.tuple #[.agg #[.int .i64 nx, endV ((marO (r : Int) (c : Int) l (colM p q nx)).e, (marO (r : Int) (c : Int) l (colM p q nx)).row, (marO (r : Int) (c : Int) l (colM p q nx)).col)], .bool true]) ∧
  Whole w' g 41 [.int .i64 (r : Int), .int .i64 (c : Int), .slice (some ⟨g5, 0, none⟩) l.length cap, .int .i64 p, .int .i64 q, .int .i64 (if nx = 0 then bl - 1 else bl), .int .i64 (if nx = 0 then rd else rd - 1), .int .i64 (nextM (c : Int) (marO (r : Int) (c : Int) l (colM p q nx)))] ∧
  Whole w' g5 104 (flat (marO (r : Int) (c : Int) l (colM p q nx)).cells ++ rest5) ∧ Gr2 w w' g g5
theorem nextE_M (f : FlR) (C : Int) : nextE (f.e, f.row, f.col) C = nextM C f := rfl
theorem endV_iface (f : Int × Int × Int) : ∃ T v, endV f = .iface T v := ⟨_, _, rfl⟩
theorem gr_far {w v : World} {g k a : Nat} (h : Gr2 w v g k) (ha : w.heap.size ≤ a) (j : Nat) (u : Value) : Gr2 w (v.setCell ⟨a, j, none⟩ u) g k :=
  ⟨h.os, h.tape, h.output, by rw [World.size_setCell]; exact h.size, fun i hi h1 h2 => (Below.heap_setCell _ _ _ _ (by show i ≠ a; omega)).trans (h.block i hi h1 h2)⟩
theorem impl_releaseNext_yes (r c g g5 cap : Nat) (l : List (Int × Int)) (rest5 : List Value) (p q bl rd nx : Int) (col : Nat) (w : World) (hG : Geo r c l.length) (hgd : goodB (r : Int) (c : Int) l = true) (hc : canM bl rd nx = true) (hbl : bl ≤ 30) (hrd : rd ≤ 30) (hcol : colM p q nx = (col : Int)) (hlt : col < c) (hne : g ≠ g5)
    (X0 : Whole w g 41 [.int .i64 (r : Int), .int .i64 (c : Int), .slice (some ⟨g5, 0, none⟩) l.length cap, .int .i64 p, .int .i64 q, .int .i64 bl, .int .i64 rd, .int .i64 nx]) (X7 : Whole w g5 104 (flat l ++ rest5)) :
    Calls Try.prog 59 #[.pointer (some ⟨g, 0, none⟩)] w (PostR w r c g g5 cap l rest5 p q bl rd nx) := by
  have hgw := X0.lt
  have h5w := X7.lt
  have n1 : w.heap.size ≠ g := by omega
  have n2 : w.heap.size ≠ g5 := by omega
  obtain ⟨s1, s2, s3, s4⟩ := sizeB_iff.1 (goodB_iff.1 hgd).1
  rw [canM_iff] at hc
  by_cases h0 : nx = 0
  · have hb : 0 < bl := by omega
    subst h0
    obtain rfl : p = (col : Int) := hcol
    clear hc
    have m1 : IntKind.i64.wrap (bl - 1) = bl - 1 := IntWalk.i64_in _ (by omega)
    go_enter Try.func59, Try.ntmps59
    obtain ⟨v0, hv0⟩ : ∃ v, v = w.alloc (.cells #[.int .i64 0, .nilIface] 79) := ⟨_, rfl⟩
    have XR : Whole v0 w.heap.size 79 [.int .i64 0, .nilIface] := by rw [hv0]; exact heap_alloc_new w _
    have hb0 : Below w.heap.size w v0 := by rw [hv0]; exact (Below.refl _ _).alloc (Nat.le_refl _) _
    have HV := Lib.hid hv0.symm
    clear hv0
    have gr : Gr2 w v0 g g5 := (Gr2.refl w g g5).below hb0
    replace X0 := X0.below hb0 X0.lt
    replace X7 := X7.below hb0 X7.lt
    go_upto_region 1 with (fail)
    rewrite [HV.out]
    clear HV hb0
    have hgl := X0.lt
    have X0k0 : v0.cell? ⟨g, 0, none⟩ = some (.int .i64 (r : Int)) := (X0.cell 0).trans rfl; have X0k1 : v0.cell? ⟨g, 1, none⟩ = some (.int .i64 (c : Int)) := (X0.cell 1).trans rfl; have X0k2 : v0.cell? ⟨g, 2, none⟩ = some (.slice (some ⟨g5, 0, none⟩) l.length cap) := (X0.cell 2).trans rfl; have X0k3 : v0.cell? ⟨g, 3, none⟩ = some (.int .i64 (col : Int)) := (X0.cell 3).trans rfl; have X0k4 : v0.cell? ⟨g, 4, none⟩ = some (.int .i64 q) := (X0.cell 4).trans rfl; have X0k5 : v0.cell? ⟨g, 5, none⟩ = some (.int .i64 bl) := (X0.cell 5).trans rfl
    have X0k6 : v0.cell? ⟨g, 6, none⟩ = some (.int .i64 rd) := (X0.cell 6).trans rfl; have X0k7 : v0.cell? ⟨g, 7, none⟩ = some (.int .i64 0) := (X0.cell 7).trans rfl
    have X0f5 := X0.frozen 5
    have X0f6 := X0.frozen 6
    go_region
    go_upto_region 8 with (fail)
    clear X0k0 X0k1 X0k2 X0k3 X0k4 X0k5 X0k6 X0k7
    obtain ⟨v2, hv2⟩ : ∃ v2, v2 = (v0.setCell ⟨g, 5, none⟩ (.int .i64 (bl - 1))).drew := ⟨_, rfl⟩
    have Y0 : Whole v2 g 41 [.int .i64 (r : Int), .int .i64 (c : Int), .slice (some ⟨g5, 0, none⟩) l.length cap, .int .i64 (col : Int), .int .i64 q, .int .i64 (bl - 1), .int .i64 rd, .int .i64 0] := by rw [hv2]; exact X0.set 5 (.int .i64 (bl - 1))
    replace XR : Whole v2 w.heap.size 79 [.int .i64 0, .nilIface] := by rw [hv2]; exact XR.set_far _ _ n1.symm
    replace X7 : Whole v2 g5 104 (flat l ++ rest5) := by rw [hv2]; exact X7.set_far _ _ hne
    replace gr : Gr2 w v2 g g5 := by rw [hv2]; exact (gr.set 5 _).below ((Below.refl _ _).drew)
    rewrite [← hv2]
    clear hv2 X0 X0f5 X0f6 hgl
    have hgl := Y0.lt
    have Y0k0 : v2.cell? ⟨g, 0, none⟩ = some (.int .i64 (r : Int)) := (Y0.cell 0).trans rfl; have Y0k1 : v2.cell? ⟨g, 1, none⟩ = some (.int .i64 (c : Int)) := (Y0.cell 1).trans rfl; have Y0k2 : v2.cell? ⟨g, 2, none⟩ = some (.slice (some ⟨g5, 0, none⟩) l.length cap) := (Y0.cell 2).trans rfl
    go_wp2_with fail
    refine (impl_dropMarble r c g5 cap l rest5 col _ hG hgd hlt X7).mono ?_; rintro e w3 ⟨rfl, X7', gb⟩
    clear Y0k0 Y0k1 Y0k2
    replace Y0 := Y0.grown gb (fun e => hne (by injection e))
    replace XR := XR.grown gb (fun e => n2 (by injection e))
    replace gr := gr.grown gb
    clear X7 gb hgl
    have hok := flG_okE (numL c l) r c r 0 l col 0 [] hlt
    have HF := Lib.hid (show marO (r : Int) (c : Int) l (colM (col : Int) q 0) = flG (numL c l) r c r 0 l col 0 [] from rfl)
    generalize flG (numL c l) r c r 0 l col 0 [] = F at *
    have HN := Lib.hid (nextE_M F (c : Int))
    have hbd : (F.e, F.row, F.col).1 = 1 → 0 ≤ (F.e, F.row, F.col).2.2 ∧ (F.e, F.row, F.col).2.2 ≤ 1000 := fun h => by
      rcases hok with h1 | h1 | h1
      · have h2 := h1.2.1; have h3 := h1.2.2; exact ⟨h2, by omega⟩
      · have h2 : F.e = 2 := h1; have h3 : F.e = 1 := h; omega
      · have h2 : F.e = 3 := h1; have h3 : F.e = 1 := h; omega
    have HB := Lib.hid hbd
    clear hok hbd
    generalize hev : (F.e, F.row, F.col) = f at *
    have hgl := Y0.lt
    have Y0k0 : w3.cell? ⟨g, 0, none⟩ = some (.int .i64 (r : Int)) := (Y0.cell 0).trans rfl; have Y0k1 : w3.cell? ⟨g, 1, none⟩ = some (.int .i64 (c : Int)) := (Y0.cell 1).trans rfl; have Y0k2 : w3.cell? ⟨g, 2, none⟩ = some (.slice (some ⟨g5, 0, none⟩) l.length cap) := (Y0.cell 2).trans rfl
    go_wp2_with fail
    refine (impl_nextBehind f (c : Int) _ HB.out).mono ?_; rintro e w4 ⟨rfl, b4⟩
    clear Y0k0 Y0k1 Y0k2
    rewrite [HN.out]
    replace Y0 := Y0.below b4 Y0.lt
    replace XR := XR.below b4 XR.lt
    replace X7' := X7'.below b4 X7'.lt
    replace gr := gr.below b4
    clear b4 hgl
    have hgl := Y0.lt
    have hrl := XR.lt
    obtain ⟨T, ev, hE⟩ := endV_iface f
    have HE := Lib.hid hE
    rewrite [hE]
    clear hE
    have Y0f7 := Y0.frozen 7
    have Y0k7 : w4.cell? ⟨g, 7, none⟩ = some (.int .i64 0) := (Y0.cell 7).trans rfl
    have XRk0 : w4.cell? ⟨w.heap.size, 0, none⟩ = some (.int .i64 0) := (XR.cell 0).trans rfl
    have XRk1 : w4.cell? ⟨w.heap.size, 1, none⟩ = some (.nilIface) := (XR.cell 1).trans rfl
    have XRf0 := XR.frozen 0
    have XRf1 := XR.frozen 1
    go_wp2
    refine bodyPost_ret (v := .tuple #[.agg #[.int .i64 0, .iface T ev], .bool true]) ?_ rfl ?_; (focus (simp [results, Try.results59, go_sem, *]; done))
    unfold PostR
    rewrite [HF.out, hev, HE.out]
    refine ⟨rfl, ?_, ?_, ?_⟩
    · exact ((Y0.set 7 (.int .i64 (nextM (c : Int) F))).set_far _ _ n1).set_far _ _ n1
    · exact ((X7'.set_far _ _ hne).set_far _ _ n2).set_far _ _ n2
    · exact gr_far (gr_far (gr.set 7 _) (by omega) _ _) (by omega) _ _
  · have h1 : nx = 1 := by omega
    have hr : 0 < rd := by omega
    subst h1
    obtain rfl : q = (col : Int) := hcol
    clear hc h0
    have m1 : IntKind.i64.wrap (rd - 1) = rd - 1 := IntWalk.i64_in _ (by omega)
    go_enter Try.func59, Try.ntmps59
    obtain ⟨v0, hv0⟩ : ∃ v, v = w.alloc (.cells #[.int .i64 0, .nilIface] 79) := ⟨_, rfl⟩
    have XR : Whole v0 w.heap.size 79 [.int .i64 0, .nilIface] := by rw [hv0]; exact heap_alloc_new w _
    have hb0 : Below w.heap.size w v0 := by rw [hv0]; exact (Below.refl _ _).alloc (Nat.le_refl _) _
    have HV := Lib.hid hv0.symm
    clear hv0
    have gr : Gr2 w v0 g g5 := (Gr2.refl w g g5).below hb0
    replace X0 := X0.below hb0 X0.lt
    replace X7 := X7.below hb0 X7.lt
    go_upto_region 1 with (fail)
    rewrite [HV.out]
    clear HV hb0
    have hgl := X0.lt
    have X0k0 : v0.cell? ⟨g, 0, none⟩ = some (.int .i64 (r : Int)) := (X0.cell 0).trans rfl; have X0k1 : v0.cell? ⟨g, 1, none⟩ = some (.int .i64 (c : Int)) := (X0.cell 1).trans rfl; have X0k2 : v0.cell? ⟨g, 2, none⟩ = some (.slice (some ⟨g5, 0, none⟩) l.length cap) := (X0.cell 2).trans rfl; have X0k3 : v0.cell? ⟨g, 3, none⟩ = some (.int .i64 p) := (X0.cell 3).trans rfl; have X0k4 : v0.cell? ⟨g, 4, none⟩ = some (.int .i64 (col : Int)) := (X0.cell 4).trans rfl; have X0k5 : v0.cell? ⟨g, 5, none⟩ = some (.int .i64 bl) := (X0.cell 5).trans rfl
    have X0k6 : v0.cell? ⟨g, 6, none⟩ = some (.int .i64 rd) := (X0.cell 6).trans rfl; have X0k7 : v0.cell? ⟨g, 7, none⟩ = some (.int .i64 1) := (X0.cell 7).trans rfl
    have X0f5 := X0.frozen 5
    have X0f6 := X0.frozen 6
    go_region
    go_upto_region 8 with (fail)
    clear X0k0 X0k1 X0k2 X0k3 X0k4 X0k5 X0k6 X0k7
    obtain ⟨v2, hv2⟩ : ∃ v2, v2 = (v0.setCell ⟨g, 6, none⟩ (.int .i64 (rd - 1))).drew := ⟨_, rfl⟩
    have Y0 : Whole v2 g 41 [.int .i64 (r : Int), .int .i64 (c : Int), .slice (some ⟨g5, 0, none⟩) l.length cap, .int .i64 p, .int .i64 (col : Int), .int .i64 bl, .int .i64 (rd - 1), .int .i64 1] := by rw [hv2]; exact X0.set 6 (.int .i64 (rd - 1))
    replace XR : Whole v2 w.heap.size 79 [.int .i64 0, .nilIface] := by rw [hv2]; exact XR.set_far _ _ n1.symm
    replace X7 : Whole v2 g5 104 (flat l ++ rest5) := by rw [hv2]; exact X7.set_far _ _ hne
    replace gr : Gr2 w v2 g g5 := by rw [hv2]; exact (gr.set 6 _).below ((Below.refl _ _).drew)
    rewrite [← hv2]
    clear hv2 X0 X0f5 X0f6 hgl
    have hgl := Y0.lt
    have Y0k0 : v2.cell? ⟨g, 0, none⟩ = some (.int .i64 (r : Int)) := (Y0.cell 0).trans rfl; have Y0k1 : v2.cell? ⟨g, 1, none⟩ = some (.int .i64 (c : Int)) := (Y0.cell 1).trans rfl; have Y0k2 : v2.cell? ⟨g, 2, none⟩ = some (.slice (some ⟨g5, 0, none⟩) l.length cap) := (Y0.cell 2).trans rfl
    go_wp2_with fail
    refine (impl_dropMarble r c g5 cap l rest5 col _ hG hgd hlt X7).mono ?_; rintro e w3 ⟨rfl, X7', gb⟩
    clear Y0k0 Y0k1 Y0k2
    replace Y0 := Y0.grown gb (fun e => hne (by injection e))
    replace XR := XR.grown gb (fun e => n2 (by injection e))
    replace gr := gr.grown gb
    clear X7 gb hgl
    have hok := flG_okE (numL c l) r c r 0 l col 0 [] hlt
    have HF := Lib.hid (show marO (r : Int) (c : Int) l (colM p (col : Int) 1) = flG (numL c l) r c r 0 l col 0 [] from rfl)
    generalize flG (numL c l) r c r 0 l col 0 [] = F at *
    have HN := Lib.hid (nextE_M F (c : Int))
    have hbd : (F.e, F.row, F.col).1 = 1 → 0 ≤ (F.e, F.row, F.col).2.2 ∧ (F.e, F.row, F.col).2.2 ≤ 1000 := fun h => by
      rcases hok with h1 | h1 | h1
      · have h2 := h1.2.1; have h3 := h1.2.2; exact ⟨h2, by omega⟩
      · have h2 : F.e = 2 := h1; have h3 : F.e = 1 := h; omega
      · have h2 : F.e = 3 := h1; have h3 : F.e = 1 := h; omega
    have HB := Lib.hid hbd
    clear hok hbd
    generalize hev : (F.e, F.row, F.col) = f at *
    have hgl := Y0.lt
    have Y0k0 : w3.cell? ⟨g, 0, none⟩ = some (.int .i64 (r : Int)) := (Y0.cell 0).trans rfl; have Y0k1 : w3.cell? ⟨g, 1, none⟩ = some (.int .i64 (c : Int)) := (Y0.cell 1).trans rfl; have Y0k2 : w3.cell? ⟨g, 2, none⟩ = some (.slice (some ⟨g5, 0, none⟩) l.length cap) := (Y0.cell 2).trans rfl
    go_wp2_with fail
    refine (impl_nextBehind f (c : Int) _ HB.out).mono ?_; rintro e w4 ⟨rfl, b4⟩
    clear Y0k0 Y0k1 Y0k2
    rewrite [HN.out]
    replace Y0 := Y0.below b4 Y0.lt
    replace XR := XR.below b4 XR.lt
    replace X7' := X7'.below b4 X7'.lt
    replace gr := gr.below b4
    clear b4 hgl
    have hgl := Y0.lt
    have hrl := XR.lt
    obtain ⟨T, ev, hE⟩ := endV_iface f
    have HE := Lib.hid hE
    rewrite [hE]
    clear hE
    have Y0f7 := Y0.frozen 7
    have Y0k7 : w4.cell? ⟨g, 7, none⟩ = some (.int .i64 1) := (Y0.cell 7).trans rfl
    have XRk0 : w4.cell? ⟨w.heap.size, 0, none⟩ = some (.int .i64 0) := (XR.cell 0).trans rfl
    have XRk1 : w4.cell? ⟨w.heap.size, 1, none⟩ = some (.nilIface) := (XR.cell 1).trans rfl
    have XRf0 := XR.frozen 0
    have XRf1 := XR.frozen 1
    go_wp2
    refine bodyPost_ret (v := .tuple #[.agg #[.int .i64 1, .iface T ev], .bool true]) ?_ rfl ?_; (focus (simp [results, Try.results59, go_sem, *]; done))
    unfold PostR
    rewrite [HF.out, hev, HE.out]
    refine ⟨rfl, ?_, ?_, ?_⟩
    · exact ((Y0.set 7 (.int .i64 (nextM (c : Int) F))).set_far _ _ n1).set_far _ _ n1
    · exact ((X7'.set_far _ _ hne).set_far _ _ n2).set_far _ _ n2
    · exact gr_far (gr_far (gr.set 7 _) (by omega) _ _) (by omega) _ _
end Go.Proofs.Ytlambflmabecfaa
namespace Go.Proofs.Ytlambflmabecfaa
open Go.ChangeShapes Go.WideShapes Go.ChangeAt Go.RowKit Go.Joins Go.Deep
set_option linter.unusedSimpArgs false
set_option linter.unusedVariables false
set_option maxRecDepth 100000
set_option maxHeartbeats 4000000
theorem impl_releaseNext_no (R C : Int) (A : Option Addr) (n cap g : Nat) (p q bl rd nx : Int) (w : World) (hc : canM bl rd nx = false)
    (X0 : Whole w g 41 [.int .i64 R, .int .i64 C, .slice A n cap, .int .i64 p, .int .i64 q, .int .i64 bl, .int .i64 rd, .int .i64 nx]) :
    Calls Try.prog 59 #[.pointer (some ⟨g, 0, none⟩)] w fun e w' => e = .returned (.tuple #[.agg #[.int .i64 0, .nilIface], .bool false]) ∧ Below w.heap.size w w' := by
  have hgw := X0.lt
  have hx : ¬(nx = 0 ∧ 0 < bl ∨ nx = 1 ∧ 0 < rd) := fun h => by rw [canM_iff.2 h] at hc; cases hc
  clear hc
  by_cases h0 : nx = 0
  · have hb : ¬ 0 < bl := by omega
    subst h0
    clear hx
    go_enter Try.func59, Try.ntmps59
    obtain ⟨v0, hv0⟩ : ∃ v, v = w.alloc (.cells #[.int .i64 0, .nilIface] 79) := ⟨_, rfl⟩
    have XR : Whole v0 w.heap.size 79 [.int .i64 0, .nilIface] := by rw [hv0]; exact heap_alloc_new w _
    have hb0 : Below w.heap.size w v0 := by rw [hv0]; exact (Below.refl _ _).alloc (Nat.le_refl _) _
    have HV := Lib.hid hv0.symm
    clear hv0
    replace X0 := X0.below hb0 X0.lt
    go_upto_region 1 with (fail)
    rewrite [HV.out]
    clear HV
    have hgl := X0.lt
    have hrl := XR.lt
    have X0k0 : v0.cell? ⟨g, 0, none⟩ = some (.int .i64 R) := (X0.cell 0).trans rfl; have X0k1 : v0.cell? ⟨g, 1, none⟩ = some (.int .i64 C) := (X0.cell 1).trans rfl; have X0k2 : v0.cell? ⟨g, 2, none⟩ = some (.slice A n cap) := (X0.cell 2).trans rfl; have X0k3 : v0.cell? ⟨g, 3, none⟩ = some (.int .i64 p) := (X0.cell 3).trans rfl; have X0k4 : v0.cell? ⟨g, 4, none⟩ = some (.int .i64 q) := (X0.cell 4).trans rfl; have X0k5 : v0.cell? ⟨g, 5, none⟩ = some (.int .i64 bl) := (X0.cell 5).trans rfl
    have X0k6 : v0.cell? ⟨g, 6, none⟩ = some (.int .i64 rd) := (X0.cell 6).trans rfl; have X0k7 : v0.cell? ⟨g, 7, none⟩ = some (.int .i64 0) := (X0.cell 7).trans rfl
    go_region
    have XRk0 : v0.cell? ⟨w.heap.size, 0, none⟩ = some (.int .i64 0) := (XR.cell 0).trans rfl
    have XRk1 : v0.cell? ⟨w.heap.size, 1, none⟩ = some (.nilIface) := (XR.cell 1).trans rfl
    have XRf0 := XR.frozen 0
    have XRf1 := XR.frozen 1
    go_wp2
    refine bodyPost_ret (v := .tuple #[.agg #[.int .i64 0, .nilIface], .bool false]) ?_ rfl ?_; (focus (simp [results, Try.results59, go_sem, *]; done))
    exact ⟨rfl, by (repeat' (first | (with_reducible exact Below.refl _ _) | (with_reducible assumption) | (with_reducible refine Below.alloc ?_ ?_ _) | (with_reducible refine Below.setCell ?_ ?_ _) | (with_reducible refine Below.drew ?_) | (with_reducible refine below_drewN ?_ _) | (with_reducible refine Below.trans ?_ (Below.mono (by assumption) ?_)) | (with_reducible exact Nat.le_refl _) | (simp; done) | omega | (simp at *; omega)))⟩
  · have hb0 : (nx == 0) = false := by simpa using h0
    by_cases h1 : nx = 1
    · have hr : ¬ 0 < rd := by omega
      subst h1
      clear hx h0
      go_enter Try.func59, Try.ntmps59
      obtain ⟨v0, hv0⟩ : ∃ v, v = w.alloc (.cells #[.int .i64 0, .nilIface] 79) := ⟨_, rfl⟩
      have XR : Whole v0 w.heap.size 79 [.int .i64 0, .nilIface] := by rw [hv0]; exact heap_alloc_new w _
      have hb0 : Below w.heap.size w v0 := by rw [hv0]; exact (Below.refl _ _).alloc (Nat.le_refl _) _
      have HV := Lib.hid hv0.symm
      clear hv0
      replace X0 := X0.below hb0 X0.lt
      go_upto_region 1 with (fail)
      rewrite [HV.out]
      clear HV
      have hgl := X0.lt
      have hrl := XR.lt
      have X0k0 : v0.cell? ⟨g, 0, none⟩ = some (.int .i64 R) := (X0.cell 0).trans rfl; have X0k1 : v0.cell? ⟨g, 1, none⟩ = some (.int .i64 C) := (X0.cell 1).trans rfl; have X0k2 : v0.cell? ⟨g, 2, none⟩ = some (.slice A n cap) := (X0.cell 2).trans rfl; have X0k3 : v0.cell? ⟨g, 3, none⟩ = some (.int .i64 p) := (X0.cell 3).trans rfl; have X0k4 : v0.cell? ⟨g, 4, none⟩ = some (.int .i64 q) := (X0.cell 4).trans rfl; have X0k5 : v0.cell? ⟨g, 5, none⟩ = some (.int .i64 bl) := (X0.cell 5).trans rfl
      have X0k6 : v0.cell? ⟨g, 6, none⟩ = some (.int .i64 rd) := (X0.cell 6).trans rfl; have X0k7 : v0.cell? ⟨g, 7, none⟩ = some (.int .i64 1) := (X0.cell 7).trans rfl
      go_region
      have XRk0 : v0.cell? ⟨w.heap.size, 0, none⟩ = some (.int .i64 0) := (XR.cell 0).trans rfl
      have XRk1 : v0.cell? ⟨w.heap.size, 1, none⟩ = some (.nilIface) := (XR.cell 1).trans rfl
      have XRf0 := XR.frozen 0
      have XRf1 := XR.frozen 1
      go_wp2
      refine bodyPost_ret (v := .tuple #[.agg #[.int .i64 0, .nilIface], .bool false]) ?_ rfl ?_; (focus (simp [results, Try.results59, go_sem, *]; done))
      exact ⟨rfl, by (repeat' (first | (with_reducible exact Below.refl _ _) | (with_reducible assumption) | (with_reducible refine Below.alloc ?_ ?_ _) | (with_reducible refine Below.setCell ?_ ?_ _) | (with_reducible refine Below.drew ?_) | (with_reducible refine below_drewN ?_ _) | (with_reducible refine Below.trans ?_ (Below.mono (by assumption) ?_)) | (with_reducible exact Nat.le_refl _) | (simp; done) | omega | (simp at *; omega)))⟩
    · have hb1 : (nx == 1) = false := by simpa using h1
      clear hx h0 h1
      go_enter Try.func59, Try.ntmps59
      obtain ⟨v0, hv0⟩ : ∃ v, v = w.alloc (.cells #[.int .i64 0, .nilIface] 79) := ⟨_, rfl⟩
      have XR : Whole v0 w.heap.size 79 [.int .i64 0, .nilIface] := by rw [hv0]; exact heap_alloc_new w _
      have hb0 : Below w.heap.size w v0 := by rw [hv0]; exact (Below.refl _ _).alloc (Nat.le_refl _) _
      have HV := Lib.hid hv0.symm
      clear hv0
      replace X0 := X0.below hb0 X0.lt
      go_upto_region 1 with (fail)
      rewrite [HV.out]
      clear HV
      have hgl := X0.lt
      have hrl := XR.lt
      have X0k0 : v0.cell? ⟨g, 0, none⟩ = some (.int .i64 R) := (X0.cell 0).trans rfl; have X0k1 : v0.cell? ⟨g, 1, none⟩ = some (.int .i64 C) := (X0.cell 1).trans rfl; have X0k2 : v0.cell? ⟨g, 2, none⟩ = some (.slice A n cap) := (X0.cell 2).trans rfl; have X0k3 : v0.cell? ⟨g, 3, none⟩ = some (.int .i64 p) := (X0.cell 3).trans rfl; have X0k4 : v0.cell? ⟨g, 4, none⟩ = some (.int .i64 q) := (X0.cell 4).trans rfl; have X0k5 : v0.cell? ⟨g, 5, none⟩ = some (.int .i64 bl) := (X0.cell 5).trans rfl
      have X0k6 : v0.cell? ⟨g, 6, none⟩ = some (.int .i64 rd) := (X0.cell 6).trans rfl; have X0k7 : v0.cell? ⟨g, 7, none⟩ = some (.int .i64 nx) := (X0.cell 7).trans rfl
      go_region
      have XRk0 : v0.cell? ⟨w.heap.size, 0, none⟩ = some (.int .i64 0) := (XR.cell 0).trans rfl
      have XRk1 : v0.cell? ⟨w.heap.size, 1, none⟩ = some (.nilIface) := (XR.cell 1).trans rfl
      have XRf0 := XR.frozen 0
      have XRf1 := XR.frozen 1
      go_wp2
      refine bodyPost_ret (v := .tuple #[.agg #[.int .i64 0, .nilIface], .bool false]) ?_ rfl ?_; (focus (simp [results, Try.results59, go_sem, *]; done))
      exact ⟨rfl, by (repeat' (first | (with_reducible exact Below.refl _ _) | (with_reducible assumption) | (with_reducible refine Below.alloc ?_ ?_ _) | (with_reducible refine Below.setCell ?_ ?_ _) | (with_reducible refine Below.drew ?_) | (with_reducible refine below_drewN ?_ _) | (with_reducible refine Below.trans ?_ (Below.mono (by assumption) ?_)) | (with_reducible exact Nat.le_refl _) | (simp; done) | omega | (simp at *; omega)))⟩
theorem releaseInfo : (Try.prog.info? 79).map (fun i => (i.zero, i.size, i.bytes)) = some (some (.agg #[.int .i64 0, .nilIface]), 2, 24) := by kernel_rfl
theorem two_cellsR {w : World} {o : Obj} {x y : Value} {t : TypeId} : ∀ j u, [x, y][j]? = some u → ((w.alloc o).alloc (.cells #[x, y] t)).cell? ((⟨w.heap.size + 1, 0, none⟩ : Addr).add j) = some u := by
  intro j u h
  have hn := heap_alloc_new (w.alloc o) (.cells #[x, y] t)
  rw [World.size_alloc] at hn
  have hw : Whole ((w.alloc o).alloc (.cells #[x, y] t)) (w.heap.size + 1) t [x, y] := hn
  have hj := hw.cell j
  rw [h] at hj
  rw [← hj]
  by_cases h0 : j = 0
  · subst h0; simp [Addr.add]
  · simp [Addr.add, h0]
theorem two_oneR {a : Int} {T : TypeId} {v : Value} : ∀ u ∈ [Value.int .i64 a, Value.iface T v], u.oneCell' = true := by
  intro u hu
  simp only [List.mem_cons, List.not_mem_nil, or_false] at hu
  rcases hu with rfl | rfl <;> rfl
/-- What runSteps hands back for a valid machine: the machine behind its steps, and what each of them released. -/
def PostS (w : World) (r c : Nat) (p q : Int) (s : MSt) (e : Ending) (w' : World) : Prop :=
  ∃ A5 c5 v, e = .returned (.tuple #[.agg #[.int .i64 (r : Int), .int .i64 (c : Int), .slice A5 s.l.length c5, .int .i64 p, .int .i64 q, .int .i64 s.bl, .int .i64 s.rd, .int .i64 s.nx], v, .bool true]) ∧ Own w' A5 104 (flat s.l) ∧ New w A5 ∧ w'.ownsRow w.heap.size 79 2 v (relS s).length (flatR (relS s)) ∧ Below w.heap.size w w'
theorem PostS.drew {w w' : World} {r c : Nat} {p q : Int} {s : MSt} {e : Ending} (h : PostS w r c p q s e w') : PostS w r c p q s e w'.drew := by
  obtain ⟨A5, c5, v, h1, h2, h3, h4, h5⟩ := h
  exact ⟨A5, c5, v, h1, h2.keep ((Below.refl _ _).drew), h3, row_keep h4 ((Below.refl _ _).drew), h5.trans ((Below.refl _ _).drew)⟩
theorem impl_runSteps_no (R C : Int) (A : Option Addr) (cap : Nat) (l : List (Int × Int)) (p q bl rd nx n : Int) (w : World) (hok : okM R C l p q bl rd nx = false) (hn : l.length ≤ 1048576) (hr : Rd w w.heap.size A (flat l)) :
    Calls Try.prog 44 #[.agg #[.int .i64 R, .int .i64 C, .slice A l.length cap, .int .i64 p, .int .i64 q, .int .i64 bl, .int .i64 rd, .int .i64 nx], .int .i64 n] w fun e w' => e = .returned (.tuple #[.agg #[.int .i64 0, .int .i64 0, .slice none 0 0, .int .i64 0, .int .i64 0, .int .i64 0, .int .i64 0, .int .i64 0], .slice none 0 0, .bool false]) ∧ Below w.heap.size w w' := by
  have HO := Lib.hid hok
  clear hok
  go_enter Try.func44, Try.ntmps44
  obtain ⟨v0, hv0, X0, X1, B0, hz0⟩ := two_boxes w [.int .i64 R, .int .i64 C, .slice A l.length cap, .int .i64 p, .int .i64 q, .int .i64 bl, .int .i64 rd, .int .i64 nx] 41 [.int .i64 0, .int .i64 0, .slice none 0 0, .int .i64 0, .int .i64 0, .int .i64 0, .int .i64 0, .int .i64 0] 41; have HV := Lib.hid hv0; have hz : w.heap.size + 1 < v0.heap.size := (by omega); have hy : w.heap.size < v0.heap.size := (by omega); have hb0 := B0.size; clear hv0 hz0; go_wp2_with fail; rewrite [show (w.alloc (.cells ([.int .i64 R, .int .i64 C, .slice A l.length cap, .int .i64 p, .int .i64 q, .int .i64 bl, .int .i64 rd, .int .i64 nx] : List Value).toArray 41)).alloc (.cells ([.int .i64 0, .int .i64 0, .slice none 0 0, .int .i64 0, .int .i64 0, .int .i64 0, .int .i64 0, .int .i64 0] : List Value).toArray 41) = v0 from HV.out]; clear HV
  have X0k0 : v0.cell? ⟨w.heap.size, 0, none⟩ = some (.int .i64 R) := (X0.cell 0).trans rfl; have X0k1 : v0.cell? ⟨w.heap.size, 1, none⟩ = some (.int .i64 C) := (X0.cell 1).trans rfl; have X0k2 : v0.cell? ⟨w.heap.size, 2, none⟩ = some (.slice A l.length cap) := (X0.cell 2).trans rfl; have X0k3 : v0.cell? ⟨w.heap.size, 3, none⟩ = some (.int .i64 p) := (X0.cell 3).trans rfl; have X0k4 : v0.cell? ⟨w.heap.size, 4, none⟩ = some (.int .i64 q) := (X0.cell 4).trans rfl; have X0k5 : v0.cell? ⟨w.heap.size, 5, none⟩ = some (.int .i64 bl) := (X0.cell 5).trans rfl
  have X0k6 : v0.cell? ⟨w.heap.size, 6, none⟩ = some (.int .i64 rd) := (X0.cell 6).trans rfl; have X0k7 : v0.cell? ⟨w.heap.size, 7, none⟩ = some (.int .i64 nx) := (X0.cell 7).trans rfl
  go_wp2_with fail
  refine (impl_IsMachine _ _ _ _ l _ _ _ _ _ _ hn ((hr.below B0).mono B0.size)).mono ?_; rintro e w1 ⟨rfl, b1⟩
  clear X0k0 X0k1 X0k2 X0k3 X0k4 X0k5 X0k6 X0k7
  rewrite [HO.out]
  replace X0 := X0.below b1 X0.lt; replace X1 := X1.below b1 X1.lt; replace B0 := B0.trans (b1.mono B0.size); have hy := X0.lt; have hz := X1.lt; have hb0 := B0.size; clear b1
  have X1k0 : w1.cell? ⟨w.heap.size + 1, 0, none⟩ = some (.int .i64 0) := (X1.cell 0).trans rfl; have X1k1 : w1.cell? ⟨w.heap.size + 1, 1, none⟩ = some (.int .i64 0) := (X1.cell 1).trans rfl; have X1k2 : w1.cell? ⟨w.heap.size + 1, 2, none⟩ = some (.slice none 0 0) := (X1.cell 2).trans rfl; have X1k3 : w1.cell? ⟨w.heap.size + 1, 3, none⟩ = some (.int .i64 0) := (X1.cell 3).trans rfl; have X1k4 : w1.cell? ⟨w.heap.size + 1, 4, none⟩ = some (.int .i64 0) := (X1.cell 4).trans rfl; have X1k5 : w1.cell? ⟨w.heap.size + 1, 5, none⟩ = some (.int .i64 0) := (X1.cell 5).trans rfl
  have X1k6 : w1.cell? ⟨w.heap.size + 1, 6, none⟩ = some (.int .i64 0) := (X1.cell 6).trans rfl; have X1k7 : w1.cell? ⟨w.heap.size + 1, 7, none⟩ = some (.int .i64 0) := (X1.cell 7).trans rfl
  have X1f0 := X1.frozen 0; have X1f1 := X1.frozen 1; have X1f2 := X1.frozen 2; have X1f3 := X1.frozen 3; have X1f4 := X1.frozen 4; have X1f5 := X1.frozen 5; have X1f6 := X1.frozen 6; have X1f7 := X1.frozen 7
  go_wp2
  rewrite [mset_fold]
  obtain ⟨v4, hv4⟩ : ∃ v4, v4 = mset w1 (w.heap.size + 1) (.int .i64 0) (.int .i64 0) (.slice none 0 0) (.int .i64 0) (.int .i64 0) (.int .i64 0) (.int .i64 0) (.int .i64 0) := ⟨_, rfl⟩
  have Z1 : Whole v4 (w.heap.size + 1) 41 [.int .i64 0, .int .i64 0, .slice none 0 0, .int .i64 0, .int .i64 0, .int .i64 0, .int .i64 0, .int .i64 0] := by rw [hv4]; exact X1.mset _ _ _ _ _ _ _ _
  replace B0 : Below w.heap.size w v4 := by rw [hv4]; exact below_mset B0 (by omega)
  clear X1k0 X1k1 X1k2 X1k3 X1k4 X1k5 X1k6 X1k7
  clear X1f0 X1f1 X1f2 X1f3 X1f4 X1f5 X1f6 X1f7
  rewrite [← hv4]
  clear hv4
  have Z1k0 : v4.cell? ⟨w.heap.size + 1, 0, none⟩ = some (.int .i64 0) := (Z1.cell 0).trans rfl; have Z1k1 : v4.cell? ⟨w.heap.size + 1, 1, none⟩ = some (.int .i64 0) := (Z1.cell 1).trans rfl; have Z1k2 : v4.cell? ⟨w.heap.size + 1, 2, none⟩ = some (.slice none 0 0) := (Z1.cell 2).trans rfl; have Z1k3 : v4.cell? ⟨w.heap.size + 1, 3, none⟩ = some (.int .i64 0) := (Z1.cell 3).trans rfl; have Z1k4 : v4.cell? ⟨w.heap.size + 1, 4, none⟩ = some (.int .i64 0) := (Z1.cell 4).trans rfl; have Z1k5 : v4.cell? ⟨w.heap.size + 1, 5, none⟩ = some (.int .i64 0) := (Z1.cell 5).trans rfl
  have Z1k6 : v4.cell? ⟨w.heap.size + 1, 6, none⟩ = some (.int .i64 0) := (Z1.cell 6).trans rfl; have Z1k7 : v4.cell? ⟨w.heap.size + 1, 7, none⟩ = some (.int .i64 0) := (Z1.cell 7).trans rfl
  refine bodyPost_ret (v := .tuple #[.agg #[.int .i64 0, .int .i64 0, .slice none 0 0, .int .i64 0, .int .i64 0, .int .i64 0, .int .i64 0, .int .i64 0], .slice none 0 0, .bool false]) ?_ rfl ?_; (focus (simp [results, Try.results44, go_sem, *]; done))
  exact ⟨rfl, B0⟩
end Go.Proofs.Ytlambflmabecfaa
