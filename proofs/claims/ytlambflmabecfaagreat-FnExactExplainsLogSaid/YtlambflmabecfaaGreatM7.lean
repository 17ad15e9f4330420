/- Contracts of the program and of the model, walked, part 7 of 9. No condition but what each says. -/
import Derived.Test.YtlambflmabecfaaGreatM6
namespace Go.Proofs.YtlambflmabecfaaGreat
open Go.ChangeShapes Go.WideShapes Go.ChangeAt Go.RowKit Go.Joins Go.Deep
set_option linter.unusedSimpArgs false
set_option linter.unusedVariables false
set_option maxRecDepth 100000
set_option maxHeartbeats 4000000
theorem whole_drew {w : World} {g : Nat} {t : TypeId} {xs : List Value} (h : Whole w g t xs) : Whole w.drew g t xs := h.below ((Below.refl _ _).drew) h.lt
theorem own_drew {w : World} {A : Option Addr} {t : TypeId} {xs : List Value} (h : Own w A t xs) : Own w.drew A t xs := h.keep ((Below.refl _ _).drew)
/-- The machine behind a step, and the end of its marble. -/
def PostT (w : World) (r c n : Nat) (p q bl rd nx : Int) (F : FlR) (e : Ending) (w' : World) : Prop :=
  ∃ A5 c5, e = .returned (.tuple #[.agg #[.int .i64 (r : Int), .int .i64 (c : Int), .slice A5 n c5, .int .i64 p, .int .i64 q, .int .i64 bl, .int .i64 rd, .int .i64 nx], .agg #[.int .i64 F.e, .int .i64 F.row, .int .i64 F.col]]) ∧ Own w' A5 95 (flat F.cells) ∧ New w A5 ∧ Below w.heap.size w w'
theorem spec_maStep (r c b o cap : Nat) (l : List (Int × Int)) (p q bl rd nx : Int) (col : Nat) (w : World) (hgd : goodB (r : Int) (c : Int) l = true) (hr : Rd w w.heap.size (some ⟨b, o, none⟩) (flat l)) (hc : canM bl rd nx = true) (hbl : bl ≤ 30) (hrd : rd ≤ 30) (hcol : colM p q nx = (col : Int)) (hlt : col < c) :
    Calls Tryz.prog 49 #[.agg #[.int .i64 (r : Int), .int .i64 (c : Int), .slice (some ⟨b, o, none⟩) l.length cap, .int .i64 p, .int .i64 q, .int .i64 bl, .int .i64 rd, .int .i64 nx]] w
      (PostT w r c l.length p q (if nx = 0 then bl - 1 else bl) (if nx = 0 then rd else rd - 1) (nextM (c : Int) (marO (r : Int) (c : Int) l (colM p q nx))) (marO (r : Int) (c : Int) l (colM p q nx))) := by
  obtain ⟨s1, s2, s3, s4⟩ := sizeB_iff.1 (goodB_iff.1 hgd).1
  rw [canM_iff] at hc
  by_cases h0 : nx = 0
  · have hb : 0 < bl := by omega
    subst h0
    obtain rfl : p = (col : Int) := hcol
    clear hc
    have m1 : IntKind.i64.wrap (bl - 1) = bl - 1 := IntWalk.i64_in _ (by omega)
    go_enter Tryz.func49, Tryz.ntmps49
    obtain ⟨v0, hv0, X0, X1, X2, B0, hz0⟩ := three_boxes w [.int .i64 (r : Int), .int .i64 (c : Int), .slice (some ⟨b, o, none⟩) l.length cap, .int .i64 (col : Int), .int .i64 q, .int .i64 bl, .int .i64 rd, .int .i64 0] 36 [.int .i64 0, .int .i64 0, .slice none 0 0, .int .i64 0, .int .i64 0, .int .i64 0, .int .i64 0, .int .i64 0] 36 [.int .i64 0, .int .i64 0, .int .i64 0] 55
    have HV := Lib.hid hv0
    have HZ := Lib.hid hz0
    clear hv0 hz0
    go_upto_region 1 with (fail)
    rewrite [show ((w.alloc (.cells ([.int .i64 (r : Int), .int .i64 (c : Int), .slice (some ⟨b, o, none⟩) l.length cap, .int .i64 (col : Int), .int .i64 q, .int .i64 bl, .int .i64 rd, .int .i64 0] : List Value).toArray 36)).alloc (.cells ([.int .i64 0, .int .i64 0, .slice none 0 0, .int .i64 0, .int .i64 0, .int .i64 0, .int .i64 0, .int .i64 0] : List Value).toArray 36)).alloc (.cells ([.int .i64 0, .int .i64 0, .int .i64 0] : List Value).toArray 55) = v0 from HV.out]
    clear HV
    have hy := X0.lt
    have X0k0 : v0.cell? ⟨w.heap.size, 0, none⟩ = some (.int .i64 (r : Int)) := (X0.cell 0).trans rfl; have X0k1 : v0.cell? ⟨w.heap.size, 1, none⟩ = some (.int .i64 (c : Int)) := (X0.cell 1).trans rfl; have X0k2 : v0.cell? ⟨w.heap.size, 2, none⟩ = some (.slice (some ⟨b, o, none⟩) l.length cap) := (X0.cell 2).trans rfl; have X0k3 : v0.cell? ⟨w.heap.size, 3, none⟩ = some (.int .i64 (col : Int)) := (X0.cell 3).trans rfl; have X0k4 : v0.cell? ⟨w.heap.size, 4, none⟩ = some (.int .i64 q) := (X0.cell 4).trans rfl; have X0k5 : v0.cell? ⟨w.heap.size, 5, none⟩ = some (.int .i64 bl) := (X0.cell 5).trans rfl
    have X0k6 : v0.cell? ⟨w.heap.size, 6, none⟩ = some (.int .i64 rd) := (X0.cell 6).trans rfl; have X0k7 : v0.cell? ⟨w.heap.size, 7, none⟩ = some (.int .i64 0) := (X0.cell 7).trans rfl
    go_wp2_with fail
    clear X0k0 X0k1 X0k2 X0k3 X0k4 X0k5 X0k6 X0k7
    obtain ⟨v5, hv5⟩ : ∃ v5, v5 = v0.alloc (.cells #[.int .i64 (r : Int), .int .i64 (c : Int), .slice (some ⟨b, o, none⟩) l.length cap, .int .i64 (col : Int), .int .i64 q, .int .i64 (bl - 1), .int .i64 rd, .int .i64 0] 36) := ⟨_, rfl⟩
    obtain ⟨g4, hg4⟩ : ∃ g4, g4 = v0.heap.size := ⟨_, rfl⟩
    have Y4 : Whole v5 g4 36 [.int .i64 (r : Int), .int .i64 (c : Int), .slice (some ⟨b, o, none⟩) l.length cap, .int .i64 (col : Int), .int .i64 q, .int .i64 (bl - 1), .int .i64 rd, .int .i64 0] := by rw [hv5, hg4]; exact newW
    have b5 : Below v0.heap.size v0 v5 := by rw [hv5]; exact (Below.refl _ _).alloc (Nat.le_refl _) _
    have n21 : w.heap.size + 1 + 1 ≠ w.heap.size + 1 := by omega
    have n12 : w.heap.size + 1 ≠ w.heap.size + 1 + 1 := by omega
    have hx0 : w.heap.size + 1 + 1 < g4 := by rw [hg4, HZ.out]; omega
    replace X0 := X0.below b5 X0.lt
    replace X1 := X1.below b5 X1.lt
    replace X2 := X2.below b5 X2.lt
    replace B0 := B0.trans (b5.mono B0.size)
    rewrite [← hv5]
    rewrite [← hg4]
    clear hv5 b5 HZ hg4
    have hy := X0.lt
    have X0k0 : v5.cell? ⟨w.heap.size, 0, none⟩ = some (.int .i64 (r : Int)) := (X0.cell 0).trans rfl; have X0k1 : v5.cell? ⟨w.heap.size, 1, none⟩ = some (.int .i64 (c : Int)) := (X0.cell 1).trans rfl; have X0k2 : v5.cell? ⟨w.heap.size, 2, none⟩ = some (.slice (some ⟨b, o, none⟩) l.length cap) := (X0.cell 2).trans rfl
    have hs := B0.size
    refine (spec_flRun r c b o cap l col _ hgd ((hr.below B0).mono hs) hlt).mono ?_; rintro e w3 ⟨A5, c5, rfl, O5, N5, b3⟩
    have HF := Lib.hid (show marO (r : Int) (c : Int) l (colM (col : Int) q 0) = marO (r : Int) (c : Int) l (col : Int) from rfl)
    have hok := flG_okE (numL c l) r c r 0 l col 0 [] hlt
    have hok' : okE c ((marO (r : Int) (c : Int) l (col : Int)).e, (marO (r : Int) (c : Int) l (col : Int)).row, (marO (r : Int) (c : Int) l (col : Int)).col) := hok
    clear hok
    generalize marO (r : Int) (c : Int) l (col : Int) = F at *
    clear X0k0 X0k1 X0k2
    have hn0 : New w A5 := fun a ha => Nat.le_trans hs (N5 a ha)
    have h4l := Y4.lt
    replace X0 := X0.below b3 X0.lt
    replace X1 := X1.below b3 X1.lt
    replace X2 := X2.below b3 X2.lt
    replace Y4 := Y4.below b3 Y4.lt
    replace B0 := B0.trans (b3.mono hs)
    have hs3 := b3.size
    clear b3 N5 hs
    obtain ⟨fe, fr, fc, fl, fw⟩ := F
    go_upto_region 8 with (fail)
    obtain ⟨v6, hv6⟩ : ∃ v6, v6 = (w3.alloc (.cells #[.int .i64 fe, .int .i64 fr, .int .i64 fc] 55)).alloc (.cells #[.int .i64 (r : Int), .int .i64 (c : Int), .slice A5 l.length c5] 34) := ⟨_, rfl⟩
    have Xf : Whole v6 w3.heap.size 55 [.int .i64 fe, .int .i64 fr, .int .i64 fc] := by rw [hv6]; exact newW.alloc _
    have Xb : Whole v6 (w3.heap.size + 1) 34 [.int .i64 (r : Int), .int .i64 (c : Int), .slice A5 l.length c5] := by rw [hv6]; exact newW1
    have b6 : Below w3.heap.size w3 v6 := by rw [hv6]; exact ((Below.refl _ _).alloc (Nat.le_refl _) _).alloc (by rw [World.size_alloc]; omega) _
    rewrite [← hv6]
    clear hv6
    have h4l3 := Y4.lt
    replace X0 := X0.below b6 X0.lt
    replace X1 := X1.below b6 X1.lt
    replace X2 := X2.below b6 X2.lt
    replace Y4 := Y4.below b6 Y4.lt
    replace O5 := O5.keep b6
    replace B0 := B0.trans (b6.mono B0.size)
    clear b6
    generalize w3.heap.size = gf at *
    have h4l := Y4.lt
    have hfl := Xf.lt
    have hbl2 := Xb.lt
    have hy := X0.lt
    have Xbk0 : v6.cell? ⟨gf + 1, 0, none⟩ = some (.int .i64 (r : Int)) := (Xb.cell 0).trans rfl; have Xbk1 : v6.cell? ⟨gf + 1, 1, none⟩ = some (.int .i64 (c : Int)) := (Xb.cell 1).trans rfl; have Xbk2 : v6.cell? ⟨gf + 1, 2, none⟩ = some (.slice A5 l.length c5) := (Xb.cell 2).trans rfl
    have Y4k0 : v6.cell? ⟨g4, 0, none⟩ = some (.int .i64 (r : Int)) := (Y4.cell 0).trans rfl; have Y4k1 : v6.cell? ⟨g4, 1, none⟩ = some (.int .i64 (c : Int)) := (Y4.cell 1).trans rfl; have Y4k2 : v6.cell? ⟨g4, 2, none⟩ = some (.slice (some ⟨b, o, none⟩) l.length cap) := (Y4.cell 2).trans rfl; have Y4k3 : v6.cell? ⟨g4, 3, none⟩ = some (.int .i64 (col : Int)) := (Y4.cell 3).trans rfl; have Y4k4 : v6.cell? ⟨g4, 4, none⟩ = some (.int .i64 q) := (Y4.cell 4).trans rfl; have Y4k5 : v6.cell? ⟨g4, 5, none⟩ = some (.int .i64 (bl - 1)) := (Y4.cell 5).trans rfl
    have Y4k6 : v6.cell? ⟨g4, 6, none⟩ = some (.int .i64 rd) := (Y4.cell 6).trans rfl; have Y4k7 : v6.cell? ⟨g4, 7, none⟩ = some (.int .i64 0) := (Y4.cell 7).trans rfl
    have Y4f0 := Y4.frozen 0; have Y4f1 := Y4.frozen 1; have Y4f2 := Y4.frozen 2; have Y4f3 := Y4.frozen 3; have Y4f4 := Y4.frozen 4; have Y4f5 := Y4.frozen 5; have Y4f6 := Y4.frozen 6; have Y4f7 := Y4.frozen 7
    have n4b : g4 ≠ gf + 1 := by omega
    have n4f : g4 ≠ gf := by omega
    have n40 : g4 ≠ w.heap.size := by omega
    have n41 : g4 ≠ w.heap.size + 1 := by omega
    have n42 : g4 ≠ w.heap.size + 1 + 1 := by omega
    go_upto_region 10 with (fail)
    obtain ⟨v7, hv7⟩ : ∃ v7, v7 = (((v6.setCell ⟨g4, 0, none⟩ (.int .i64 (r : Int))).setCell ⟨g4, 1, none⟩ (.int .i64 (c : Int))).setCell ⟨g4, 2, none⟩ (.slice A5 l.length c5)).setCell ⟨g4, 7, none⟩ (.int .i64 2) := ⟨_, rfl⟩
    have Z4 : Whole v7 g4 36 [.int .i64 (r : Int), .int .i64 (c : Int), .slice A5 l.length c5, .int .i64 (col : Int), .int .i64 q, .int .i64 (bl - 1), .int .i64 rd, .int .i64 2] := by rw [hv7]; exact (((Y4.set 0 (.int .i64 (r : Int))).set 1 (.int .i64 (c : Int))).set 2 (.slice A5 l.length c5)).set 7 (.int .i64 2)
    replace X0 : Whole v7 w.heap.size 36 [.int .i64 (r : Int), .int .i64 (c : Int), .slice (some ⟨b, o, none⟩) l.length cap, .int .i64 (col : Int), .int .i64 q, .int .i64 bl, .int .i64 rd, .int .i64 0] := by rw [hv7]; exact (three_far X0 n40).set_far _ _ n40
    replace X1 : Whole v7 (w.heap.size + 1) 36 [.int .i64 0, .int .i64 0, .slice none 0 0, .int .i64 0, .int .i64 0, .int .i64 0, .int .i64 0, .int .i64 0] := by rw [hv7]; exact (three_far X1 n41).set_far _ _ n41
    replace X2 : Whole v7 (w.heap.size + 1 + 1) 55 [.int .i64 0, .int .i64 0, .int .i64 0] := by rw [hv7]; exact (three_far X2 n42).set_far _ _ n42
    replace Xf : Whole v7 gf 55 [.int .i64 fe, .int .i64 fr, .int .i64 fc] := by rw [hv7]; exact (three_far Xf n4f).set_far _ _ n4f
    replace O5 : Own v7 A5 95 (flat fl) := by
      rw [hv7]
      exact ((((O5.set_far2 _ _ (fun hx a ha => (own_apart O5 Y4 (by decide) hx ha).symm)).set_far2 _ _ (fun hx a ha => (own_apart O5 Y4 (by decide) hx ha).symm)).set_far2 _ _ (fun hx a ha => (own_apart O5 Y4 (by decide) hx ha).symm)).set_far2 _ _ (fun hx a ha => (own_apart O5 Y4 (by decide) hx ha).symm))
    replace B0 : Below w.heap.size w v7 := by rw [hv7]; exact (((B0.setCell (p := ⟨g4, 0, none⟩) (by show w.heap.size ≤ g4; omega) _).setCell (p := ⟨g4, 1, none⟩) (by show w.heap.size ≤ g4; omega) _).setCell (p := ⟨g4, 2, none⟩) (by show w.heap.size ≤ g4; omega) _).setCell (p := ⟨g4, 7, none⟩) (by show w.heap.size ≤ g4; omega) _
    clear Xbk0 Xbk1 Xbk2
    clear Y4k0 Y4k1 Y4k2 Y4k3 Y4k4 Y4k5 Y4k6 Y4k7
    clear Y4f0 Y4f1 Y4f2 Y4f3 Y4f4 Y4f5 Y4f6 Y4f7
    rewrite [← hv7]
    clear hv7 Y4 Xb hbl2 n4b h4l hfl hy
    have h4l := Z4.lt
    have hfl := Xf.lt
    have hy := X0.lt
    by_cases hE : fe = 1
    · subst hE
      obtain ⟨hcb1, hcb2⟩ : 0 ≤ fc ∧ fc < (c : Int) := by
        rcases hok' with h | h | h
        · exact h.2
        · have h2 : (1 : Int) = 2 := h; omega
        · have h2 : (1 : Int) = 3 := h; omega
      have m2 : IntKind.i64.wrap (2 * fc) = 2 * fc := IntWalk.i64_in _ (by omega)
      clear hok'
      have Xfk0 : v7.cell? ⟨gf, 0, none⟩ = some (.int .i64 1) := (Xf.cell 0).trans rfl
      have Xfk2 : v7.cell? ⟨gf, 2, none⟩ = some (.int .i64 fc) := (Xf.cell 2).trans rfl
      have X0k1 : v7.cell? ⟨w.heap.size, 1, none⟩ = some (.int .i64 (c : Int)) := (X0.cell 1).trans rfl
      have Z4f7 := Z4.frozen 7
      have Z4k7 : v7.cell? ⟨g4, 7, none⟩ = some (.int .i64 2) := (Z4.cell 7).trans rfl
      by_cases hh : 2 * fc < (c : Int)
      · have HN := Lib.hid (show nextM (c : Int) ⟨1, fr, fc, fl, fw⟩ = 0 by unfold nextM; rw [if_pos rfl, if_pos hh])
        go_upto_region 14 with (fail)
        have ZW : Whole ((v7.setCell ⟨g4, 7, none⟩ (.int .i64 1)).setCell ⟨g4, 7, none⟩ (.int .i64 0)) g4 36 [.int .i64 (r : Int), .int .i64 (c : Int), .slice A5 l.length c5, .int .i64 (col : Int), .int .i64 q, .int .i64 (bl - 1), .int .i64 rd, .int .i64 0] := (Z4.set 7 (.int .i64 1)).set 7 (.int .i64 0)
        obtain ⟨v8, hv8⟩ : ∃ v8, v8 = (v7.setCell ⟨g4, 7, none⟩ (.int .i64 1)).setCell ⟨g4, 7, none⟩ (.int .i64 0) := ⟨_, rfl⟩
        rw [← hv8] at ZW
        replace X1 : Whole v8 (w.heap.size + 1) 36 [.int .i64 0, .int .i64 0, .slice none 0 0, .int .i64 0, .int .i64 0, .int .i64 0, .int .i64 0, .int .i64 0] := by rw [hv8]; exact ((X1).set_far _ _ n41).set_far _ _ n41
        replace X2 : Whole v8 (w.heap.size + 1 + 1) 55 [.int .i64 0, .int .i64 0, .int .i64 0] := by rw [hv8]; exact ((X2).set_far _ _ n42).set_far _ _ n42
        replace Xf : Whole v8 gf 55 [.int .i64 1, .int .i64 fr, .int .i64 fc] := by rw [hv8]; exact ((Xf).set_far _ _ n4f).set_far _ _ n4f
        replace O5 : Own v8 A5 95 (flat fl) := by rw [hv8]; exact ((O5.set_far2 _ _ (fun hx a ha => (own_apart O5 Z4 (by decide) hx ha).symm)).set_far2 _ _ (fun hx a ha => (own_apart O5 Z4 (by decide) hx ha).symm))
        replace B0 : Below w.heap.size w v8 := by rw [hv8]; exact ((B0.setCell (p := ⟨g4, 7, none⟩) (by show w.heap.size ≤ g4; omega) _).setCell (p := ⟨g4, 7, none⟩) (by show w.heap.size ≤ g4; omega) _)
        clear Xfk0 Xfk2 X0k1 Z4f7 Z4k7
        rewrite [← hv8]
        clear hv8 Z4 X0 h4l hfl hy
        have h4l := ZW.lt
        have hfl := Xf.lt
        have h1l := X1.lt
        have h2l := X2.lt
        have ZWk0 : v8.cell? ⟨g4, 0, none⟩ = some (.int .i64 (r : Int)) := (ZW.cell 0).trans rfl; have ZWk1 : v8.cell? ⟨g4, 1, none⟩ = some (.int .i64 (c : Int)) := (ZW.cell 1).trans rfl; have ZWk2 : v8.cell? ⟨g4, 2, none⟩ = some (.slice A5 l.length c5) := (ZW.cell 2).trans rfl; have ZWk3 : v8.cell? ⟨g4, 3, none⟩ = some (.int .i64 (col : Int)) := (ZW.cell 3).trans rfl; have ZWk4 : v8.cell? ⟨g4, 4, none⟩ = some (.int .i64 q) := (ZW.cell 4).trans rfl; have ZWk5 : v8.cell? ⟨g4, 5, none⟩ = some (.int .i64 (bl - 1)) := (ZW.cell 5).trans rfl
        have ZWk6 : v8.cell? ⟨g4, 6, none⟩ = some (.int .i64 rd) := (ZW.cell 6).trans rfl; have ZWk7 : v8.cell? ⟨g4, 7, none⟩ = some (.int .i64 0) := (ZW.cell 7).trans rfl
        have X1k0 : v8.cell? ⟨w.heap.size + 1, 0, none⟩ = some (.int .i64 0) := (X1.cell 0).trans rfl; have X1k1 : v8.cell? ⟨w.heap.size + 1, 1, none⟩ = some (.int .i64 0) := (X1.cell 1).trans rfl; have X1k2 : v8.cell? ⟨w.heap.size + 1, 2, none⟩ = some (.slice none 0 0) := (X1.cell 2).trans rfl; have X1k3 : v8.cell? ⟨w.heap.size + 1, 3, none⟩ = some (.int .i64 0) := (X1.cell 3).trans rfl; have X1k4 : v8.cell? ⟨w.heap.size + 1, 4, none⟩ = some (.int .i64 0) := (X1.cell 4).trans rfl; have X1k5 : v8.cell? ⟨w.heap.size + 1, 5, none⟩ = some (.int .i64 0) := (X1.cell 5).trans rfl
        have X1k6 : v8.cell? ⟨w.heap.size + 1, 6, none⟩ = some (.int .i64 0) := (X1.cell 6).trans rfl; have X1k7 : v8.cell? ⟨w.heap.size + 1, 7, none⟩ = some (.int .i64 0) := (X1.cell 7).trans rfl
        have X1f0 := X1.frozen 0; have X1f1 := X1.frozen 1; have X1f2 := X1.frozen 2; have X1f3 := X1.frozen 3; have X1f4 := X1.frozen 4; have X1f5 := X1.frozen 5; have X1f6 := X1.frozen 6; have X1f7 := X1.frozen 7
        have X2k0 : v8.cell? ⟨w.heap.size + 1 + 1, 0, none⟩ = some (.int .i64 0) := (X2.cell 0).trans rfl; have X2k1 : v8.cell? ⟨w.heap.size + 1 + 1, 1, none⟩ = some (.int .i64 0) := (X2.cell 1).trans rfl; have X2k2 : v8.cell? ⟨w.heap.size + 1 + 1, 2, none⟩ = some (.int .i64 0) := (X2.cell 2).trans rfl
        have X2f0 := X2.frozen 0; have X2f1 := X2.frozen 1; have X2f2 := X2.frozen 2
        have Xfk0 : v8.cell? ⟨gf, 0, none⟩ = some (.int .i64 1) := (Xf.cell 0).trans rfl; have Xfk1 : v8.cell? ⟨gf, 1, none⟩ = some (.int .i64 fr) := (Xf.cell 1).trans rfl; have Xfk2 : v8.cell? ⟨gf, 2, none⟩ = some (.int .i64 fc) := (Xf.cell 2).trans rfl
        go_region
        go_wp2
        rewrite [mset_fold]
        obtain ⟨v9, hv9⟩ : ∃ v9, v9 = ((((mset v8 (w.heap.size + 1) (.int .i64 (r : Int)) (.int .i64 (c : Int)) (.slice A5 l.length c5) (.int .i64 (col : Int)) (.int .i64 q) (.int .i64 (bl - 1)) (.int .i64 rd) (.int .i64 0)).setCell ⟨w.heap.size + 1 + 1, 0, none⟩ (.int .i64 1)).setCell ⟨w.heap.size + 1 + 1, 1, none⟩ (.int .i64 fr)).setCell ⟨w.heap.size + 1 + 1, 2, none⟩ (.int .i64 fc)).drew := ⟨_, rfl⟩
        have Z1 : Whole v9 (w.heap.size + 1) 36 [.int .i64 (r : Int), .int .i64 (c : Int), .slice A5 l.length c5, .int .i64 (col : Int), .int .i64 q, .int .i64 (bl - 1), .int .i64 rd, .int .i64 0] := by rw [hv9]; exact whole_drew (three_far (X1.mset _ _ _ _ _ _ _ _) n21)
        have Z2 : Whole v9 (w.heap.size + 1 + 1) 55 [.int .i64 1, .int .i64 fr, .int .i64 fc] := by rw [hv9]; exact whole_drew (whole_three (X2.mset_far n12))
        have O9 : Own v9 A5 95 (flat fl) := by rw [hv9]; exact own_drew (own_three (own_mset O5 X1 (by decide)) (X2.mset_far n12) (by decide))
        have B9 : Below w.heap.size w v9 := by rw [hv9]; exact ((((below_mset B0 (by omega)).setCell (p := ⟨w.heap.size + 1 + 1, 0, none⟩) (by show w.heap.size ≤ w.heap.size + 1 + 1; omega) _).setCell (p := ⟨w.heap.size + 1 + 1, 1, none⟩) (by show w.heap.size ≤ w.heap.size + 1 + 1; omega) _).setCell (p := ⟨w.heap.size + 1 + 1, 2, none⟩) (by show w.heap.size ≤ w.heap.size + 1 + 1; omega) _).drew
        rewrite [← hv9]
        clear ZWk0 ZWk1 ZWk2 ZWk3 ZWk4 ZWk5 ZWk6 ZWk7
        clear X1k0 X1k1 X1k2 X1k3 X1k4 X1k5 X1k6 X1k7
        clear X2k0 X2k1 X2k2
        clear X1f0 X1f1 X1f2 X1f3 X1f4 X1f5 X1f6 X1f7 X2f0 X2f1 X2f2 Xfk0 Xfk1 Xfk2 hv9 X1 X2 O5 B0 Xf ZW
        have Z1k0 : v9.cell? ⟨w.heap.size + 1, 0, none⟩ = some (.int .i64 (r : Int)) := (Z1.cell 0).trans rfl; have Z1k1 : v9.cell? ⟨w.heap.size + 1, 1, none⟩ = some (.int .i64 (c : Int)) := (Z1.cell 1).trans rfl; have Z1k2 : v9.cell? ⟨w.heap.size + 1, 2, none⟩ = some (.slice A5 l.length c5) := (Z1.cell 2).trans rfl; have Z1k3 : v9.cell? ⟨w.heap.size + 1, 3, none⟩ = some (.int .i64 (col : Int)) := (Z1.cell 3).trans rfl; have Z1k4 : v9.cell? ⟨w.heap.size + 1, 4, none⟩ = some (.int .i64 q) := (Z1.cell 4).trans rfl; have Z1k5 : v9.cell? ⟨w.heap.size + 1, 5, none⟩ = some (.int .i64 (bl - 1)) := (Z1.cell 5).trans rfl
        have Z1k6 : v9.cell? ⟨w.heap.size + 1, 6, none⟩ = some (.int .i64 rd) := (Z1.cell 6).trans rfl; have Z1k7 : v9.cell? ⟨w.heap.size + 1, 7, none⟩ = some (.int .i64 0) := (Z1.cell 7).trans rfl
        have Z2k0 : v9.cell? ⟨w.heap.size + 1 + 1, 0, none⟩ = some (.int .i64 1) := (Z2.cell 0).trans rfl; have Z2k1 : v9.cell? ⟨w.heap.size + 1 + 1, 1, none⟩ = some (.int .i64 fr) := (Z2.cell 1).trans rfl; have Z2k2 : v9.cell? ⟨w.heap.size + 1 + 1, 2, none⟩ = some (.int .i64 fc) := (Z2.cell 2).trans rfl
        refine bodyPost_ret (v := .tuple #[.agg #[.int .i64 (r : Int), .int .i64 (c : Int), .slice A5 l.length c5, .int .i64 (col : Int), .int .i64 q, .int .i64 (bl - 1), .int .i64 rd, .int .i64 0], .agg #[.int .i64 1, .int .i64 fr, .int .i64 fc]]) ?_ rfl ?_; (focus (simp [results, Tryz.results49, go_sem, *]; done))
        rewrite [HF.out, HN.out]
        exact ⟨A5, c5, rfl, O9, hn0, B9⟩
      · have HN := Lib.hid (show nextM (c : Int) ⟨1, fr, fc, fl, fw⟩ = 1 by unfold nextM; rw [if_pos rfl, if_neg hh])
        go_upto_region 14 with (fail)
        have ZW : Whole (v7.setCell ⟨g4, 7, none⟩ (.int .i64 1)) g4 36 [.int .i64 (r : Int), .int .i64 (c : Int), .slice A5 l.length c5, .int .i64 (col : Int), .int .i64 q, .int .i64 (bl - 1), .int .i64 rd, .int .i64 1] := Z4.set 7 (.int .i64 1)
        obtain ⟨v8, hv8⟩ : ∃ v8, v8 = v7.setCell ⟨g4, 7, none⟩ (.int .i64 1) := ⟨_, rfl⟩
        rw [← hv8] at ZW
        replace X1 : Whole v8 (w.heap.size + 1) 36 [.int .i64 0, .int .i64 0, .slice none 0 0, .int .i64 0, .int .i64 0, .int .i64 0, .int .i64 0, .int .i64 0] := by rw [hv8]; exact (X1).set_far _ _ n41
        replace X2 : Whole v8 (w.heap.size + 1 + 1) 55 [.int .i64 0, .int .i64 0, .int .i64 0] := by rw [hv8]; exact (X2).set_far _ _ n42
        replace Xf : Whole v8 gf 55 [.int .i64 1, .int .i64 fr, .int .i64 fc] := by rw [hv8]; exact (Xf).set_far _ _ n4f
        replace O5 : Own v8 A5 95 (flat fl) := by rw [hv8]; exact (O5.set_far2 _ _ (fun hx a ha => (own_apart O5 Z4 (by decide) hx ha).symm))
        replace B0 : Below w.heap.size w v8 := by rw [hv8]; exact (B0.setCell (p := ⟨g4, 7, none⟩) (by show w.heap.size ≤ g4; omega) _)
        clear Xfk0 Xfk2 X0k1 Z4f7 Z4k7
        rewrite [← hv8]
        clear hv8 Z4 X0 h4l hfl hy
        have h4l := ZW.lt
        have hfl := Xf.lt
        have h1l := X1.lt
        have h2l := X2.lt
        have ZWk0 : v8.cell? ⟨g4, 0, none⟩ = some (.int .i64 (r : Int)) := (ZW.cell 0).trans rfl; have ZWk1 : v8.cell? ⟨g4, 1, none⟩ = some (.int .i64 (c : Int)) := (ZW.cell 1).trans rfl; have ZWk2 : v8.cell? ⟨g4, 2, none⟩ = some (.slice A5 l.length c5) := (ZW.cell 2).trans rfl; have ZWk3 : v8.cell? ⟨g4, 3, none⟩ = some (.int .i64 (col : Int)) := (ZW.cell 3).trans rfl; have ZWk4 : v8.cell? ⟨g4, 4, none⟩ = some (.int .i64 q) := (ZW.cell 4).trans rfl; have ZWk5 : v8.cell? ⟨g4, 5, none⟩ = some (.int .i64 (bl - 1)) := (ZW.cell 5).trans rfl
        have ZWk6 : v8.cell? ⟨g4, 6, none⟩ = some (.int .i64 rd) := (ZW.cell 6).trans rfl; have ZWk7 : v8.cell? ⟨g4, 7, none⟩ = some (.int .i64 1) := (ZW.cell 7).trans rfl
        have X1k0 : v8.cell? ⟨w.heap.size + 1, 0, none⟩ = some (.int .i64 0) := (X1.cell 0).trans rfl; have X1k1 : v8.cell? ⟨w.heap.size + 1, 1, none⟩ = some (.int .i64 0) := (X1.cell 1).trans rfl; have X1k2 : v8.cell? ⟨w.heap.size + 1, 2, none⟩ = some (.slice none 0 0) := (X1.cell 2).trans rfl; have X1k3 : v8.cell? ⟨w.heap.size + 1, 3, none⟩ = some (.int .i64 0) := (X1.cell 3).trans rfl; have X1k4 : v8.cell? ⟨w.heap.size + 1, 4, none⟩ = some (.int .i64 0) := (X1.cell 4).trans rfl; have X1k5 : v8.cell? ⟨w.heap.size + 1, 5, none⟩ = some (.int .i64 0) := (X1.cell 5).trans rfl
        have X1k6 : v8.cell? ⟨w.heap.size + 1, 6, none⟩ = some (.int .i64 0) := (X1.cell 6).trans rfl; have X1k7 : v8.cell? ⟨w.heap.size + 1, 7, none⟩ = some (.int .i64 0) := (X1.cell 7).trans rfl
        have X1f0 := X1.frozen 0; have X1f1 := X1.frozen 1; have X1f2 := X1.frozen 2; have X1f3 := X1.frozen 3; have X1f4 := X1.frozen 4; have X1f5 := X1.frozen 5; have X1f6 := X1.frozen 6; have X1f7 := X1.frozen 7
        have X2k0 : v8.cell? ⟨w.heap.size + 1 + 1, 0, none⟩ = some (.int .i64 0) := (X2.cell 0).trans rfl; have X2k1 : v8.cell? ⟨w.heap.size + 1 + 1, 1, none⟩ = some (.int .i64 0) := (X2.cell 1).trans rfl; have X2k2 : v8.cell? ⟨w.heap.size + 1 + 1, 2, none⟩ = some (.int .i64 0) := (X2.cell 2).trans rfl
        have X2f0 := X2.frozen 0; have X2f1 := X2.frozen 1; have X2f2 := X2.frozen 2
        have Xfk0 : v8.cell? ⟨gf, 0, none⟩ = some (.int .i64 1) := (Xf.cell 0).trans rfl; have Xfk1 : v8.cell? ⟨gf, 1, none⟩ = some (.int .i64 fr) := (Xf.cell 1).trans rfl; have Xfk2 : v8.cell? ⟨gf, 2, none⟩ = some (.int .i64 fc) := (Xf.cell 2).trans rfl
        go_region
        go_wp2
        rewrite [mset_fold]
        obtain ⟨v9, hv9⟩ : ∃ v9, v9 = ((((mset v8 (w.heap.size + 1) (.int .i64 (r : Int)) (.int .i64 (c : Int)) (.slice A5 l.length c5) (.int .i64 (col : Int)) (.int .i64 q) (.int .i64 (bl - 1)) (.int .i64 rd) (.int .i64 1)).setCell ⟨w.heap.size + 1 + 1, 0, none⟩ (.int .i64 1)).setCell ⟨w.heap.size + 1 + 1, 1, none⟩ (.int .i64 fr)).setCell ⟨w.heap.size + 1 + 1, 2, none⟩ (.int .i64 fc)).drew := ⟨_, rfl⟩
        have Z1 : Whole v9 (w.heap.size + 1) 36 [.int .i64 (r : Int), .int .i64 (c : Int), .slice A5 l.length c5, .int .i64 (col : Int), .int .i64 q, .int .i64 (bl - 1), .int .i64 rd, .int .i64 1] := by rw [hv9]; exact whole_drew (three_far (X1.mset _ _ _ _ _ _ _ _) n21)
        have Z2 : Whole v9 (w.heap.size + 1 + 1) 55 [.int .i64 1, .int .i64 fr, .int .i64 fc] := by rw [hv9]; exact whole_drew (whole_three (X2.mset_far n12))
        have O9 : Own v9 A5 95 (flat fl) := by rw [hv9]; exact own_drew (own_three (own_mset O5 X1 (by decide)) (X2.mset_far n12) (by decide))
        have B9 : Below w.heap.size w v9 := by rw [hv9]; exact ((((below_mset B0 (by omega)).setCell (p := ⟨w.heap.size + 1 + 1, 0, none⟩) (by show w.heap.size ≤ w.heap.size + 1 + 1; omega) _).setCell (p := ⟨w.heap.size + 1 + 1, 1, none⟩) (by show w.heap.size ≤ w.heap.size + 1 + 1; omega) _).setCell (p := ⟨w.heap.size + 1 + 1, 2, none⟩) (by show w.heap.size ≤ w.heap.size + 1 + 1; omega) _).drew
        rewrite [← hv9]
        clear ZWk0 ZWk1 ZWk2 ZWk3 ZWk4 ZWk5 ZWk6 ZWk7
        clear X1k0 X1k1 X1k2 X1k3 X1k4 X1k5 X1k6 X1k7
        clear X2k0 X2k1 X2k2
        clear X1f0 X1f1 X1f2 X1f3 X1f4 X1f5 X1f6 X1f7 X2f0 X2f1 X2f2 Xfk0 Xfk1 Xfk2 hv9 X1 X2 O5 B0 Xf ZW
        have Z1k0 : v9.cell? ⟨w.heap.size + 1, 0, none⟩ = some (.int .i64 (r : Int)) := (Z1.cell 0).trans rfl; have Z1k1 : v9.cell? ⟨w.heap.size + 1, 1, none⟩ = some (.int .i64 (c : Int)) := (Z1.cell 1).trans rfl; have Z1k2 : v9.cell? ⟨w.heap.size + 1, 2, none⟩ = some (.slice A5 l.length c5) := (Z1.cell 2).trans rfl; have Z1k3 : v9.cell? ⟨w.heap.size + 1, 3, none⟩ = some (.int .i64 (col : Int)) := (Z1.cell 3).trans rfl; have Z1k4 : v9.cell? ⟨w.heap.size + 1, 4, none⟩ = some (.int .i64 q) := (Z1.cell 4).trans rfl; have Z1k5 : v9.cell? ⟨w.heap.size + 1, 5, none⟩ = some (.int .i64 (bl - 1)) := (Z1.cell 5).trans rfl
        have Z1k6 : v9.cell? ⟨w.heap.size + 1, 6, none⟩ = some (.int .i64 rd) := (Z1.cell 6).trans rfl; have Z1k7 : v9.cell? ⟨w.heap.size + 1, 7, none⟩ = some (.int .i64 1) := (Z1.cell 7).trans rfl
        have Z2k0 : v9.cell? ⟨w.heap.size + 1 + 1, 0, none⟩ = some (.int .i64 1) := (Z2.cell 0).trans rfl; have Z2k1 : v9.cell? ⟨w.heap.size + 1 + 1, 1, none⟩ = some (.int .i64 fr) := (Z2.cell 1).trans rfl; have Z2k2 : v9.cell? ⟨w.heap.size + 1 + 1, 2, none⟩ = some (.int .i64 fc) := (Z2.cell 2).trans rfl
        refine bodyPost_ret (v := .tuple #[.agg #[.int .i64 (r : Int), .int .i64 (c : Int), .slice A5 l.length c5, .int .i64 (col : Int), .int .i64 q, .int .i64 (bl - 1), .int .i64 rd, .int .i64 1], .agg #[.int .i64 1, .int .i64 fr, .int .i64 fc]]) ?_ rfl ?_; (focus (simp [results, Tryz.results49, go_sem, *]; done))
        rewrite [HF.out, HN.out]
        exact ⟨A5, c5, rfl, O9, hn0, B9⟩
    · have hb1 : (fe == 1) = false := by simpa using hE
      have HN := Lib.hid (show nextM (c : Int) ⟨fe, fr, fc, fl, fw⟩ = 2 by unfold nextM; rw [if_neg hE])
      clear hok'
      have Xfk0 : v7.cell? ⟨gf, 0, none⟩ = some (.int .i64 fe) := (Xf.cell 0).trans rfl
      go_upto_region 14 with (fail)
      have ZW := Z4
      obtain ⟨v8, hv8⟩ : ∃ v8, v8 = v7 := ⟨_, rfl⟩
      rw [← hv8] at ZW
      replace X1 : Whole v8 (w.heap.size + 1) 36 [.int .i64 0, .int .i64 0, .slice none 0 0, .int .i64 0, .int .i64 0, .int .i64 0, .int .i64 0, .int .i64 0] := by rw [hv8]; exact X1
      replace X2 : Whole v8 (w.heap.size + 1 + 1) 55 [.int .i64 0, .int .i64 0, .int .i64 0] := by rw [hv8]; exact X2
      replace Xf : Whole v8 gf 55 [.int .i64 fe, .int .i64 fr, .int .i64 fc] := by rw [hv8]; exact Xf
      replace O5 : Own v8 A5 95 (flat fl) := by rw [hv8]; exact O5
      replace B0 : Below w.heap.size w v8 := by rw [hv8]; exact B0
      clear Xfk0 
      rewrite [show v7 = v8 from hv8.symm]
      clear hv8 Z4 X0 h4l hfl hy
      have h4l := ZW.lt
      have hfl := Xf.lt
      have h1l := X1.lt
      have h2l := X2.lt
      have ZWk0 : v8.cell? ⟨g4, 0, none⟩ = some (.int .i64 (r : Int)) := (ZW.cell 0).trans rfl; have ZWk1 : v8.cell? ⟨g4, 1, none⟩ = some (.int .i64 (c : Int)) := (ZW.cell 1).trans rfl; have ZWk2 : v8.cell? ⟨g4, 2, none⟩ = some (.slice A5 l.length c5) := (ZW.cell 2).trans rfl; have ZWk3 : v8.cell? ⟨g4, 3, none⟩ = some (.int .i64 (col : Int)) := (ZW.cell 3).trans rfl; have ZWk4 : v8.cell? ⟨g4, 4, none⟩ = some (.int .i64 q) := (ZW.cell 4).trans rfl; have ZWk5 : v8.cell? ⟨g4, 5, none⟩ = some (.int .i64 (bl - 1)) := (ZW.cell 5).trans rfl
      have ZWk6 : v8.cell? ⟨g4, 6, none⟩ = some (.int .i64 rd) := (ZW.cell 6).trans rfl; have ZWk7 : v8.cell? ⟨g4, 7, none⟩ = some (.int .i64 2) := (ZW.cell 7).trans rfl
      have X1k0 : v8.cell? ⟨w.heap.size + 1, 0, none⟩ = some (.int .i64 0) := (X1.cell 0).trans rfl; have X1k1 : v8.cell? ⟨w.heap.size + 1, 1, none⟩ = some (.int .i64 0) := (X1.cell 1).trans rfl; have X1k2 : v8.cell? ⟨w.heap.size + 1, 2, none⟩ = some (.slice none 0 0) := (X1.cell 2).trans rfl; have X1k3 : v8.cell? ⟨w.heap.size + 1, 3, none⟩ = some (.int .i64 0) := (X1.cell 3).trans rfl; have X1k4 : v8.cell? ⟨w.heap.size + 1, 4, none⟩ = some (.int .i64 0) := (X1.cell 4).trans rfl; have X1k5 : v8.cell? ⟨w.heap.size + 1, 5, none⟩ = some (.int .i64 0) := (X1.cell 5).trans rfl
      have X1k6 : v8.cell? ⟨w.heap.size + 1, 6, none⟩ = some (.int .i64 0) := (X1.cell 6).trans rfl; have X1k7 : v8.cell? ⟨w.heap.size + 1, 7, none⟩ = some (.int .i64 0) := (X1.cell 7).trans rfl
      have X1f0 := X1.frozen 0; have X1f1 := X1.frozen 1; have X1f2 := X1.frozen 2; have X1f3 := X1.frozen 3; have X1f4 := X1.frozen 4; have X1f5 := X1.frozen 5; have X1f6 := X1.frozen 6; have X1f7 := X1.frozen 7
      have X2k0 : v8.cell? ⟨w.heap.size + 1 + 1, 0, none⟩ = some (.int .i64 0) := (X2.cell 0).trans rfl; have X2k1 : v8.cell? ⟨w.heap.size + 1 + 1, 1, none⟩ = some (.int .i64 0) := (X2.cell 1).trans rfl; have X2k2 : v8.cell? ⟨w.heap.size + 1 + 1, 2, none⟩ = some (.int .i64 0) := (X2.cell 2).trans rfl
      have X2f0 := X2.frozen 0; have X2f1 := X2.frozen 1; have X2f2 := X2.frozen 2
      have Xfk0 : v8.cell? ⟨gf, 0, none⟩ = some (.int .i64 fe) := (Xf.cell 0).trans rfl; have Xfk1 : v8.cell? ⟨gf, 1, none⟩ = some (.int .i64 fr) := (Xf.cell 1).trans rfl; have Xfk2 : v8.cell? ⟨gf, 2, none⟩ = some (.int .i64 fc) := (Xf.cell 2).trans rfl
      go_region
      go_wp2
      rewrite [mset_fold]
      obtain ⟨v9, hv9⟩ : ∃ v9, v9 = ((((mset v8 (w.heap.size + 1) (.int .i64 (r : Int)) (.int .i64 (c : Int)) (.slice A5 l.length c5) (.int .i64 (col : Int)) (.int .i64 q) (.int .i64 (bl - 1)) (.int .i64 rd) (.int .i64 2)).setCell ⟨w.heap.size + 1 + 1, 0, none⟩ (.int .i64 fe)).setCell ⟨w.heap.size + 1 + 1, 1, none⟩ (.int .i64 fr)).setCell ⟨w.heap.size + 1 + 1, 2, none⟩ (.int .i64 fc)).drew := ⟨_, rfl⟩
      have Z1 : Whole v9 (w.heap.size + 1) 36 [.int .i64 (r : Int), .int .i64 (c : Int), .slice A5 l.length c5, .int .i64 (col : Int), .int .i64 q, .int .i64 (bl - 1), .int .i64 rd, .int .i64 2] := by rw [hv9]; exact whole_drew (three_far (X1.mset _ _ _ _ _ _ _ _) n21)
      have Z2 : Whole v9 (w.heap.size + 1 + 1) 55 [.int .i64 fe, .int .i64 fr, .int .i64 fc] := by rw [hv9]; exact whole_drew (whole_three (X2.mset_far n12))
      have O9 : Own v9 A5 95 (flat fl) := by rw [hv9]; exact own_drew (own_three (own_mset O5 X1 (by decide)) (X2.mset_far n12) (by decide))
      have B9 : Below w.heap.size w v9 := by rw [hv9]; exact ((((below_mset B0 (by omega)).setCell (p := ⟨w.heap.size + 1 + 1, 0, none⟩) (by show w.heap.size ≤ w.heap.size + 1 + 1; omega) _).setCell (p := ⟨w.heap.size + 1 + 1, 1, none⟩) (by show w.heap.size ≤ w.heap.size + 1 + 1; omega) _).setCell (p := ⟨w.heap.size + 1 + 1, 2, none⟩) (by show w.heap.size ≤ w.heap.size + 1 + 1; omega) _).drew
      rewrite [← hv9]
      clear ZWk0 ZWk1 ZWk2 ZWk3 ZWk4 ZWk5 ZWk6 ZWk7
      clear X1k0 X1k1 X1k2 X1k3 X1k4 X1k5 X1k6 X1k7
      clear X2k0 X2k1 X2k2
      clear X1f0 X1f1 X1f2 X1f3 X1f4 X1f5 X1f6 X1f7 X2f0 X2f1 X2f2 Xfk0 Xfk1 Xfk2 hv9 X1 X2 O5 B0 Xf ZW
      have Z1k0 : v9.cell? ⟨w.heap.size + 1, 0, none⟩ = some (.int .i64 (r : Int)) := (Z1.cell 0).trans rfl; have Z1k1 : v9.cell? ⟨w.heap.size + 1, 1, none⟩ = some (.int .i64 (c : Int)) := (Z1.cell 1).trans rfl; have Z1k2 : v9.cell? ⟨w.heap.size + 1, 2, none⟩ = some (.slice A5 l.length c5) := (Z1.cell 2).trans rfl; have Z1k3 : v9.cell? ⟨w.heap.size + 1, 3, none⟩ = some (.int .i64 (col : Int)) := (Z1.cell 3).trans rfl; have Z1k4 : v9.cell? ⟨w.heap.size + 1, 4, none⟩ = some (.int .i64 q) := (Z1.cell 4).trans rfl; have Z1k5 : v9.cell? ⟨w.heap.size + 1, 5, none⟩ = some (.int .i64 (bl - 1)) := (Z1.cell 5).trans rfl
      have Z1k6 : v9.cell? ⟨w.heap.size + 1, 6, none⟩ = some (.int .i64 rd) := (Z1.cell 6).trans rfl; have Z1k7 : v9.cell? ⟨w.heap.size + 1, 7, none⟩ = some (.int .i64 2) := (Z1.cell 7).trans rfl
      have Z2k0 : v9.cell? ⟨w.heap.size + 1 + 1, 0, none⟩ = some (.int .i64 fe) := (Z2.cell 0).trans rfl; have Z2k1 : v9.cell? ⟨w.heap.size + 1 + 1, 1, none⟩ = some (.int .i64 fr) := (Z2.cell 1).trans rfl; have Z2k2 : v9.cell? ⟨w.heap.size + 1 + 1, 2, none⟩ = some (.int .i64 fc) := (Z2.cell 2).trans rfl
      refine bodyPost_ret (v := .tuple #[.agg #[.int .i64 (r : Int), .int .i64 (c : Int), .slice A5 l.length c5, .int .i64 (col : Int), .int .i64 q, .int .i64 (bl - 1), .int .i64 rd, .int .i64 2], .agg #[.int .i64 fe, .int .i64 fr, .int .i64 fc]]) ?_ rfl ?_; (focus (simp [results, Tryz.results49, go_sem, *]; done))
      rewrite [HF.out, HN.out]
      exact ⟨A5, c5, rfl, O9, hn0, B9⟩
  · have h1 : nx = 1 := by omega
    have hrr : 0 < rd := by omega
    subst h1
    obtain rfl : q = (col : Int) := hcol
    clear hc h0
    have m1 : IntKind.i64.wrap (rd - 1) = rd - 1 := IntWalk.i64_in _ (by omega)
    go_enter Tryz.func49, Tryz.ntmps49
    obtain ⟨v0, hv0, X0, X1, X2, B0, hz0⟩ := three_boxes w [.int .i64 (r : Int), .int .i64 (c : Int), .slice (some ⟨b, o, none⟩) l.length cap, .int .i64 p, .int .i64 (col : Int), .int .i64 bl, .int .i64 rd, .int .i64 1] 36 [.int .i64 0, .int .i64 0, .slice none 0 0, .int .i64 0, .int .i64 0, .int .i64 0, .int .i64 0, .int .i64 0] 36 [.int .i64 0, .int .i64 0, .int .i64 0] 55
    have HV := Lib.hid hv0
    have HZ := Lib.hid hz0
    clear hv0 hz0
    go_upto_region 1 with (fail)
    rewrite [show ((w.alloc (.cells ([.int .i64 (r : Int), .int .i64 (c : Int), .slice (some ⟨b, o, none⟩) l.length cap, .int .i64 p, .int .i64 (col : Int), .int .i64 bl, .int .i64 rd, .int .i64 1] : List Value).toArray 36)).alloc (.cells ([.int .i64 0, .int .i64 0, .slice none 0 0, .int .i64 0, .int .i64 0, .int .i64 0, .int .i64 0, .int .i64 0] : List Value).toArray 36)).alloc (.cells ([.int .i64 0, .int .i64 0, .int .i64 0] : List Value).toArray 55) = v0 from HV.out]
    clear HV
    have hy := X0.lt
    have X0k0 : v0.cell? ⟨w.heap.size, 0, none⟩ = some (.int .i64 (r : Int)) := (X0.cell 0).trans rfl; have X0k1 : v0.cell? ⟨w.heap.size, 1, none⟩ = some (.int .i64 (c : Int)) := (X0.cell 1).trans rfl; have X0k2 : v0.cell? ⟨w.heap.size, 2, none⟩ = some (.slice (some ⟨b, o, none⟩) l.length cap) := (X0.cell 2).trans rfl; have X0k3 : v0.cell? ⟨w.heap.size, 3, none⟩ = some (.int .i64 p) := (X0.cell 3).trans rfl; have X0k4 : v0.cell? ⟨w.heap.size, 4, none⟩ = some (.int .i64 (col : Int)) := (X0.cell 4).trans rfl; have X0k5 : v0.cell? ⟨w.heap.size, 5, none⟩ = some (.int .i64 bl) := (X0.cell 5).trans rfl
    have X0k6 : v0.cell? ⟨w.heap.size, 6, none⟩ = some (.int .i64 rd) := (X0.cell 6).trans rfl; have X0k7 : v0.cell? ⟨w.heap.size, 7, none⟩ = some (.int .i64 1) := (X0.cell 7).trans rfl
    go_wp2_with fail
    clear X0k0 X0k1 X0k2 X0k3 X0k4 X0k5 X0k6 X0k7
    obtain ⟨v5, hv5⟩ : ∃ v5, v5 = v0.alloc (.cells #[.int .i64 (r : Int), .int .i64 (c : Int), .slice (some ⟨b, o, none⟩) l.length cap, .int .i64 p, .int .i64 (col : Int), .int .i64 bl, .int .i64 (rd - 1), .int .i64 1] 36) := ⟨_, rfl⟩
    obtain ⟨g4, hg4⟩ : ∃ g4, g4 = v0.heap.size := ⟨_, rfl⟩
    have Y4 : Whole v5 g4 36 [.int .i64 (r : Int), .int .i64 (c : Int), .slice (some ⟨b, o, none⟩) l.length cap, .int .i64 p, .int .i64 (col : Int), .int .i64 bl, .int .i64 (rd - 1), .int .i64 1] := by rw [hv5, hg4]; exact newW
    have b5 : Below v0.heap.size v0 v5 := by rw [hv5]; exact (Below.refl _ _).alloc (Nat.le_refl _) _
    have n21 : w.heap.size + 1 + 1 ≠ w.heap.size + 1 := by omega
    have n12 : w.heap.size + 1 ≠ w.heap.size + 1 + 1 := by omega
    have hx0 : w.heap.size + 1 + 1 < g4 := by rw [hg4, HZ.out]; omega
    replace X0 := X0.below b5 X0.lt
    replace X1 := X1.below b5 X1.lt
    replace X2 := X2.below b5 X2.lt
    replace B0 := B0.trans (b5.mono B0.size)
    rewrite [← hv5]
    rewrite [← hg4]
    clear hv5 b5 HZ hg4
    have hy := X0.lt
    have X0k0 : v5.cell? ⟨w.heap.size, 0, none⟩ = some (.int .i64 (r : Int)) := (X0.cell 0).trans rfl; have X0k1 : v5.cell? ⟨w.heap.size, 1, none⟩ = some (.int .i64 (c : Int)) := (X0.cell 1).trans rfl; have X0k2 : v5.cell? ⟨w.heap.size, 2, none⟩ = some (.slice (some ⟨b, o, none⟩) l.length cap) := (X0.cell 2).trans rfl
    have hs := B0.size
    refine (spec_flRun r c b o cap l col _ hgd ((hr.below B0).mono hs) hlt).mono ?_; rintro e w3 ⟨A5, c5, rfl, O5, N5, b3⟩
    have HF := Lib.hid (show marO (r : Int) (c : Int) l (colM p (col : Int) 1) = marO (r : Int) (c : Int) l (col : Int) from rfl)
    have hok := flG_okE (numL c l) r c r 0 l col 0 [] hlt
    have hok' : okE c ((marO (r : Int) (c : Int) l (col : Int)).e, (marO (r : Int) (c : Int) l (col : Int)).row, (marO (r : Int) (c : Int) l (col : Int)).col) := hok
    clear hok
    generalize marO (r : Int) (c : Int) l (col : Int) = F at *
    clear X0k0 X0k1 X0k2
    have hn0 : New w A5 := fun a ha => Nat.le_trans hs (N5 a ha)
    have h4l := Y4.lt
    replace X0 := X0.below b3 X0.lt
    replace X1 := X1.below b3 X1.lt
    replace X2 := X2.below b3 X2.lt
    replace Y4 := Y4.below b3 Y4.lt
    replace B0 := B0.trans (b3.mono hs)
    have hs3 := b3.size
    clear b3 N5 hs
    obtain ⟨fe, fr, fc, fl, fw⟩ := F
    go_upto_region 8 with (fail)
    obtain ⟨v6, hv6⟩ : ∃ v6, v6 = (w3.alloc (.cells #[.int .i64 fe, .int .i64 fr, .int .i64 fc] 55)).alloc (.cells #[.int .i64 (r : Int), .int .i64 (c : Int), .slice A5 l.length c5] 34) := ⟨_, rfl⟩
    have Xf : Whole v6 w3.heap.size 55 [.int .i64 fe, .int .i64 fr, .int .i64 fc] := by rw [hv6]; exact newW.alloc _
    have Xb : Whole v6 (w3.heap.size + 1) 34 [.int .i64 (r : Int), .int .i64 (c : Int), .slice A5 l.length c5] := by rw [hv6]; exact newW1
    have b6 : Below w3.heap.size w3 v6 := by rw [hv6]; exact ((Below.refl _ _).alloc (Nat.le_refl _) _).alloc (by rw [World.size_alloc]; omega) _
    rewrite [← hv6]
    clear hv6
    have h4l3 := Y4.lt
    replace X0 := X0.below b6 X0.lt
    replace X1 := X1.below b6 X1.lt
    replace X2 := X2.below b6 X2.lt
    replace Y4 := Y4.below b6 Y4.lt
    replace O5 := O5.keep b6
    replace B0 := B0.trans (b6.mono B0.size)
    clear b6
    generalize w3.heap.size = gf at *
    have h4l := Y4.lt
    have hfl := Xf.lt
    have hbl2 := Xb.lt
    have hy := X0.lt
    have Xbk0 : v6.cell? ⟨gf + 1, 0, none⟩ = some (.int .i64 (r : Int)) := (Xb.cell 0).trans rfl; have Xbk1 : v6.cell? ⟨gf + 1, 1, none⟩ = some (.int .i64 (c : Int)) := (Xb.cell 1).trans rfl; have Xbk2 : v6.cell? ⟨gf + 1, 2, none⟩ = some (.slice A5 l.length c5) := (Xb.cell 2).trans rfl
    have Y4k0 : v6.cell? ⟨g4, 0, none⟩ = some (.int .i64 (r : Int)) := (Y4.cell 0).trans rfl; have Y4k1 : v6.cell? ⟨g4, 1, none⟩ = some (.int .i64 (c : Int)) := (Y4.cell 1).trans rfl; have Y4k2 : v6.cell? ⟨g4, 2, none⟩ = some (.slice (some ⟨b, o, none⟩) l.length cap) := (Y4.cell 2).trans rfl; have Y4k3 : v6.cell? ⟨g4, 3, none⟩ = some (.int .i64 p) := (Y4.cell 3).trans rfl; have Y4k4 : v6.cell? ⟨g4, 4, none⟩ = some (.int .i64 (col : Int)) := (Y4.cell 4).trans rfl; have Y4k5 : v6.cell? ⟨g4, 5, none⟩ = some (.int .i64 bl) := (Y4.cell 5).trans rfl
    have Y4k6 : v6.cell? ⟨g4, 6, none⟩ = some (.int .i64 (rd - 1)) := (Y4.cell 6).trans rfl; have Y4k7 : v6.cell? ⟨g4, 7, none⟩ = some (.int .i64 1) := (Y4.cell 7).trans rfl
    have Y4f0 := Y4.frozen 0; have Y4f1 := Y4.frozen 1; have Y4f2 := Y4.frozen 2; have Y4f3 := Y4.frozen 3; have Y4f4 := Y4.frozen 4; have Y4f5 := Y4.frozen 5; have Y4f6 := Y4.frozen 6; have Y4f7 := Y4.frozen 7
    have n4b : g4 ≠ gf + 1 := by omega
    have n4f : g4 ≠ gf := by omega
    have n40 : g4 ≠ w.heap.size := by omega
    have n41 : g4 ≠ w.heap.size + 1 := by omega
    have n42 : g4 ≠ w.heap.size + 1 + 1 := by omega
    go_upto_region 10 with (fail)
    obtain ⟨v7, hv7⟩ : ∃ v7, v7 = (((v6.setCell ⟨g4, 0, none⟩ (.int .i64 (r : Int))).setCell ⟨g4, 1, none⟩ (.int .i64 (c : Int))).setCell ⟨g4, 2, none⟩ (.slice A5 l.length c5)).setCell ⟨g4, 7, none⟩ (.int .i64 2) := ⟨_, rfl⟩
    have Z4 : Whole v7 g4 36 [.int .i64 (r : Int), .int .i64 (c : Int), .slice A5 l.length c5, .int .i64 p, .int .i64 (col : Int), .int .i64 bl, .int .i64 (rd - 1), .int .i64 2] := by rw [hv7]; exact (((Y4.set 0 (.int .i64 (r : Int))).set 1 (.int .i64 (c : Int))).set 2 (.slice A5 l.length c5)).set 7 (.int .i64 2)
    replace X0 : Whole v7 w.heap.size 36 [.int .i64 (r : Int), .int .i64 (c : Int), .slice (some ⟨b, o, none⟩) l.length cap, .int .i64 p, .int .i64 (col : Int), .int .i64 bl, .int .i64 rd, .int .i64 1] := by rw [hv7]; exact (three_far X0 n40).set_far _ _ n40
    replace X1 : Whole v7 (w.heap.size + 1) 36 [.int .i64 0, .int .i64 0, .slice none 0 0, .int .i64 0, .int .i64 0, .int .i64 0, .int .i64 0, .int .i64 0] := by rw [hv7]; exact (three_far X1 n41).set_far _ _ n41
    replace X2 : Whole v7 (w.heap.size + 1 + 1) 55 [.int .i64 0, .int .i64 0, .int .i64 0] := by rw [hv7]; exact (three_far X2 n42).set_far _ _ n42
    replace Xf : Whole v7 gf 55 [.int .i64 fe, .int .i64 fr, .int .i64 fc] := by rw [hv7]; exact (three_far Xf n4f).set_far _ _ n4f
    replace O5 : Own v7 A5 95 (flat fl) := by
      rw [hv7]
      exact ((((O5.set_far2 _ _ (fun hx a ha => (own_apart O5 Y4 (by decide) hx ha).symm)).set_far2 _ _ (fun hx a ha => (own_apart O5 Y4 (by decide) hx ha).symm)).set_far2 _ _ (fun hx a ha => (own_apart O5 Y4 (by decide) hx ha).symm)).set_far2 _ _ (fun hx a ha => (own_apart O5 Y4 (by decide) hx ha).symm))
    replace B0 : Below w.heap.size w v7 := by rw [hv7]; exact (((B0.setCell (p := ⟨g4, 0, none⟩) (by show w.heap.size ≤ g4; omega) _).setCell (p := ⟨g4, 1, none⟩) (by show w.heap.size ≤ g4; omega) _).setCell (p := ⟨g4, 2, none⟩) (by show w.heap.size ≤ g4; omega) _).setCell (p := ⟨g4, 7, none⟩) (by show w.heap.size ≤ g4; omega) _
    clear Xbk0 Xbk1 Xbk2
    clear Y4k0 Y4k1 Y4k2 Y4k3 Y4k4 Y4k5 Y4k6 Y4k7
    clear Y4f0 Y4f1 Y4f2 Y4f3 Y4f4 Y4f5 Y4f6 Y4f7
    rewrite [← hv7]
    clear hv7 Y4 Xb hbl2 n4b h4l hfl hy
    have h4l := Z4.lt
    have hfl := Xf.lt
    have hy := X0.lt
    by_cases hE : fe = 1
    · subst hE
      obtain ⟨hcb1, hcb2⟩ : 0 ≤ fc ∧ fc < (c : Int) := by
        rcases hok' with h | h | h
        · exact h.2
        · have h2 : (1 : Int) = 2 := h; omega
        · have h2 : (1 : Int) = 3 := h; omega
      have m2 : IntKind.i64.wrap (2 * fc) = 2 * fc := IntWalk.i64_in _ (by omega)
      clear hok'
      have Xfk0 : v7.cell? ⟨gf, 0, none⟩ = some (.int .i64 1) := (Xf.cell 0).trans rfl
      have Xfk2 : v7.cell? ⟨gf, 2, none⟩ = some (.int .i64 fc) := (Xf.cell 2).trans rfl
      have X0k1 : v7.cell? ⟨w.heap.size, 1, none⟩ = some (.int .i64 (c : Int)) := (X0.cell 1).trans rfl
      have Z4f7 := Z4.frozen 7
      have Z4k7 : v7.cell? ⟨g4, 7, none⟩ = some (.int .i64 2) := (Z4.cell 7).trans rfl
      by_cases hh : 2 * fc < (c : Int)
      · have HN := Lib.hid (show nextM (c : Int) ⟨1, fr, fc, fl, fw⟩ = 0 by unfold nextM; rw [if_pos rfl, if_pos hh])
        go_upto_region 14 with (fail)
        have ZW : Whole ((v7.setCell ⟨g4, 7, none⟩ (.int .i64 1)).setCell ⟨g4, 7, none⟩ (.int .i64 0)) g4 36 [.int .i64 (r : Int), .int .i64 (c : Int), .slice A5 l.length c5, .int .i64 p, .int .i64 (col : Int), .int .i64 bl, .int .i64 (rd - 1), .int .i64 0] := (Z4.set 7 (.int .i64 1)).set 7 (.int .i64 0)
        obtain ⟨v8, hv8⟩ : ∃ v8, v8 = (v7.setCell ⟨g4, 7, none⟩ (.int .i64 1)).setCell ⟨g4, 7, none⟩ (.int .i64 0) := ⟨_, rfl⟩
        rw [← hv8] at ZW
        replace X1 : Whole v8 (w.heap.size + 1) 36 [.int .i64 0, .int .i64 0, .slice none 0 0, .int .i64 0, .int .i64 0, .int .i64 0, .int .i64 0, .int .i64 0] := by rw [hv8]; exact ((X1).set_far _ _ n41).set_far _ _ n41
        replace X2 : Whole v8 (w.heap.size + 1 + 1) 55 [.int .i64 0, .int .i64 0, .int .i64 0] := by rw [hv8]; exact ((X2).set_far _ _ n42).set_far _ _ n42
        replace Xf : Whole v8 gf 55 [.int .i64 1, .int .i64 fr, .int .i64 fc] := by rw [hv8]; exact ((Xf).set_far _ _ n4f).set_far _ _ n4f
        replace O5 : Own v8 A5 95 (flat fl) := by rw [hv8]; exact ((O5.set_far2 _ _ (fun hx a ha => (own_apart O5 Z4 (by decide) hx ha).symm)).set_far2 _ _ (fun hx a ha => (own_apart O5 Z4 (by decide) hx ha).symm))
        replace B0 : Below w.heap.size w v8 := by rw [hv8]; exact ((B0.setCell (p := ⟨g4, 7, none⟩) (by show w.heap.size ≤ g4; omega) _).setCell (p := ⟨g4, 7, none⟩) (by show w.heap.size ≤ g4; omega) _)
        clear Xfk0 Xfk2 X0k1 Z4f7 Z4k7
        rewrite [← hv8]
        clear hv8 Z4 X0 h4l hfl hy
        have h4l := ZW.lt
        have hfl := Xf.lt
        have h1l := X1.lt
        have h2l := X2.lt
        have ZWk0 : v8.cell? ⟨g4, 0, none⟩ = some (.int .i64 (r : Int)) := (ZW.cell 0).trans rfl; have ZWk1 : v8.cell? ⟨g4, 1, none⟩ = some (.int .i64 (c : Int)) := (ZW.cell 1).trans rfl; have ZWk2 : v8.cell? ⟨g4, 2, none⟩ = some (.slice A5 l.length c5) := (ZW.cell 2).trans rfl; have ZWk3 : v8.cell? ⟨g4, 3, none⟩ = some (.int .i64 p) := (ZW.cell 3).trans rfl; have ZWk4 : v8.cell? ⟨g4, 4, none⟩ = some (.int .i64 (col : Int)) := (ZW.cell 4).trans rfl; have ZWk5 : v8.cell? ⟨g4, 5, none⟩ = some (.int .i64 bl) := (ZW.cell 5).trans rfl
        have ZWk6 : v8.cell? ⟨g4, 6, none⟩ = some (.int .i64 (rd - 1)) := (ZW.cell 6).trans rfl; have ZWk7 : v8.cell? ⟨g4, 7, none⟩ = some (.int .i64 0) := (ZW.cell 7).trans rfl
        have X1k0 : v8.cell? ⟨w.heap.size + 1, 0, none⟩ = some (.int .i64 0) := (X1.cell 0).trans rfl; have X1k1 : v8.cell? ⟨w.heap.size + 1, 1, none⟩ = some (.int .i64 0) := (X1.cell 1).trans rfl; have X1k2 : v8.cell? ⟨w.heap.size + 1, 2, none⟩ = some (.slice none 0 0) := (X1.cell 2).trans rfl; have X1k3 : v8.cell? ⟨w.heap.size + 1, 3, none⟩ = some (.int .i64 0) := (X1.cell 3).trans rfl; have X1k4 : v8.cell? ⟨w.heap.size + 1, 4, none⟩ = some (.int .i64 0) := (X1.cell 4).trans rfl; have X1k5 : v8.cell? ⟨w.heap.size + 1, 5, none⟩ = some (.int .i64 0) := (X1.cell 5).trans rfl
        have X1k6 : v8.cell? ⟨w.heap.size + 1, 6, none⟩ = some (.int .i64 0) := (X1.cell 6).trans rfl; have X1k7 : v8.cell? ⟨w.heap.size + 1, 7, none⟩ = some (.int .i64 0) := (X1.cell 7).trans rfl
        have X1f0 := X1.frozen 0; have X1f1 := X1.frozen 1; have X1f2 := X1.frozen 2; have X1f3 := X1.frozen 3; have X1f4 := X1.frozen 4; have X1f5 := X1.frozen 5; have X1f6 := X1.frozen 6; have X1f7 := X1.frozen 7
        have X2k0 : v8.cell? ⟨w.heap.size + 1 + 1, 0, none⟩ = some (.int .i64 0) := (X2.cell 0).trans rfl; have X2k1 : v8.cell? ⟨w.heap.size + 1 + 1, 1, none⟩ = some (.int .i64 0) := (X2.cell 1).trans rfl; have X2k2 : v8.cell? ⟨w.heap.size + 1 + 1, 2, none⟩ = some (.int .i64 0) := (X2.cell 2).trans rfl
        have X2f0 := X2.frozen 0; have X2f1 := X2.frozen 1; have X2f2 := X2.frozen 2
        have Xfk0 : v8.cell? ⟨gf, 0, none⟩ = some (.int .i64 1) := (Xf.cell 0).trans rfl; have Xfk1 : v8.cell? ⟨gf, 1, none⟩ = some (.int .i64 fr) := (Xf.cell 1).trans rfl; have Xfk2 : v8.cell? ⟨gf, 2, none⟩ = some (.int .i64 fc) := (Xf.cell 2).trans rfl
        go_region
        go_wp2
        rewrite [mset_fold]
        obtain ⟨v9, hv9⟩ : ∃ v9, v9 = ((((mset v8 (w.heap.size + 1) (.int .i64 (r : Int)) (.int .i64 (c : Int)) (.slice A5 l.length c5) (.int .i64 p) (.int .i64 (col : Int)) (.int .i64 bl) (.int .i64 (rd - 1)) (.int .i64 0)).setCell ⟨w.heap.size + 1 + 1, 0, none⟩ (.int .i64 1)).setCell ⟨w.heap.size + 1 + 1, 1, none⟩ (.int .i64 fr)).setCell ⟨w.heap.size + 1 + 1, 2, none⟩ (.int .i64 fc)).drew := ⟨_, rfl⟩
        have Z1 : Whole v9 (w.heap.size + 1) 36 [.int .i64 (r : Int), .int .i64 (c : Int), .slice A5 l.length c5, .int .i64 p, .int .i64 (col : Int), .int .i64 bl, .int .i64 (rd - 1), .int .i64 0] := by rw [hv9]; exact whole_drew (three_far (X1.mset _ _ _ _ _ _ _ _) n21)
        have Z2 : Whole v9 (w.heap.size + 1 + 1) 55 [.int .i64 1, .int .i64 fr, .int .i64 fc] := by rw [hv9]; exact whole_drew (whole_three (X2.mset_far n12))
        have O9 : Own v9 A5 95 (flat fl) := by rw [hv9]; exact own_drew (own_three (own_mset O5 X1 (by decide)) (X2.mset_far n12) (by decide))
        have B9 : Below w.heap.size w v9 := by rw [hv9]; exact ((((below_mset B0 (by omega)).setCell (p := ⟨w.heap.size + 1 + 1, 0, none⟩) (by show w.heap.size ≤ w.heap.size + 1 + 1; omega) _).setCell (p := ⟨w.heap.size + 1 + 1, 1, none⟩) (by show w.heap.size ≤ w.heap.size + 1 + 1; omega) _).setCell (p := ⟨w.heap.size + 1 + 1, 2, none⟩) (by show w.heap.size ≤ w.heap.size + 1 + 1; omega) _).drew
        rewrite [← hv9]
        clear ZWk0 ZWk1 ZWk2 ZWk3 ZWk4 ZWk5 ZWk6 ZWk7
        clear X1k0 X1k1 X1k2 X1k3 X1k4 X1k5 X1k6 X1k7
        clear X2k0 X2k1 X2k2
        clear X1f0 X1f1 X1f2 X1f3 X1f4 X1f5 X1f6 X1f7 X2f0 X2f1 X2f2 Xfk0 Xfk1 Xfk2 hv9 X1 X2 O5 B0 Xf ZW
        have Z1k0 : v9.cell? ⟨w.heap.size + 1, 0, none⟩ = some (.int .i64 (r : Int)) := (Z1.cell 0).trans rfl; have Z1k1 : v9.cell? ⟨w.heap.size + 1, 1, none⟩ = some (.int .i64 (c : Int)) := (Z1.cell 1).trans rfl; have Z1k2 : v9.cell? ⟨w.heap.size + 1, 2, none⟩ = some (.slice A5 l.length c5) := (Z1.cell 2).trans rfl; have Z1k3 : v9.cell? ⟨w.heap.size + 1, 3, none⟩ = some (.int .i64 p) := (Z1.cell 3).trans rfl; have Z1k4 : v9.cell? ⟨w.heap.size + 1, 4, none⟩ = some (.int .i64 (col : Int)) := (Z1.cell 4).trans rfl; have Z1k5 : v9.cell? ⟨w.heap.size + 1, 5, none⟩ = some (.int .i64 bl) := (Z1.cell 5).trans rfl
        have Z1k6 : v9.cell? ⟨w.heap.size + 1, 6, none⟩ = some (.int .i64 (rd - 1)) := (Z1.cell 6).trans rfl; have Z1k7 : v9.cell? ⟨w.heap.size + 1, 7, none⟩ = some (.int .i64 0) := (Z1.cell 7).trans rfl
        have Z2k0 : v9.cell? ⟨w.heap.size + 1 + 1, 0, none⟩ = some (.int .i64 1) := (Z2.cell 0).trans rfl; have Z2k1 : v9.cell? ⟨w.heap.size + 1 + 1, 1, none⟩ = some (.int .i64 fr) := (Z2.cell 1).trans rfl; have Z2k2 : v9.cell? ⟨w.heap.size + 1 + 1, 2, none⟩ = some (.int .i64 fc) := (Z2.cell 2).trans rfl
        refine bodyPost_ret (v := .tuple #[.agg #[.int .i64 (r : Int), .int .i64 (c : Int), .slice A5 l.length c5, .int .i64 p, .int .i64 (col : Int), .int .i64 bl, .int .i64 (rd - 1), .int .i64 0], .agg #[.int .i64 1, .int .i64 fr, .int .i64 fc]]) ?_ rfl ?_; (focus (simp [results, Tryz.results49, go_sem, *]; done))
        rewrite [HF.out, HN.out]
        exact ⟨A5, c5, rfl, O9, hn0, B9⟩
      · have HN := Lib.hid (show nextM (c : Int) ⟨1, fr, fc, fl, fw⟩ = 1 by unfold nextM; rw [if_pos rfl, if_neg hh])
        go_upto_region 14 with (fail)
        have ZW : Whole (v7.setCell ⟨g4, 7, none⟩ (.int .i64 1)) g4 36 [.int .i64 (r : Int), .int .i64 (c : Int), .slice A5 l.length c5, .int .i64 p, .int .i64 (col : Int), .int .i64 bl, .int .i64 (rd - 1), .int .i64 1] := Z4.set 7 (.int .i64 1)
        obtain ⟨v8, hv8⟩ : ∃ v8, v8 = v7.setCell ⟨g4, 7, none⟩ (.int .i64 1) := ⟨_, rfl⟩
        rw [← hv8] at ZW
        replace X1 : Whole v8 (w.heap.size + 1) 36 [.int .i64 0, .int .i64 0, .slice none 0 0, .int .i64 0, .int .i64 0, .int .i64 0, .int .i64 0, .int .i64 0] := by rw [hv8]; exact (X1).set_far _ _ n41
        replace X2 : Whole v8 (w.heap.size + 1 + 1) 55 [.int .i64 0, .int .i64 0, .int .i64 0] := by rw [hv8]; exact (X2).set_far _ _ n42
        replace Xf : Whole v8 gf 55 [.int .i64 1, .int .i64 fr, .int .i64 fc] := by rw [hv8]; exact (Xf).set_far _ _ n4f
        replace O5 : Own v8 A5 95 (flat fl) := by rw [hv8]; exact (O5.set_far2 _ _ (fun hx a ha => (own_apart O5 Z4 (by decide) hx ha).symm))
        replace B0 : Below w.heap.size w v8 := by rw [hv8]; exact (B0.setCell (p := ⟨g4, 7, none⟩) (by show w.heap.size ≤ g4; omega) _)
        clear Xfk0 Xfk2 X0k1 Z4f7 Z4k7
        rewrite [← hv8]
        clear hv8 Z4 X0 h4l hfl hy
        have h4l := ZW.lt
        have hfl := Xf.lt
        have h1l := X1.lt
        have h2l := X2.lt
        have ZWk0 : v8.cell? ⟨g4, 0, none⟩ = some (.int .i64 (r : Int)) := (ZW.cell 0).trans rfl; have ZWk1 : v8.cell? ⟨g4, 1, none⟩ = some (.int .i64 (c : Int)) := (ZW.cell 1).trans rfl; have ZWk2 : v8.cell? ⟨g4, 2, none⟩ = some (.slice A5 l.length c5) := (ZW.cell 2).trans rfl; have ZWk3 : v8.cell? ⟨g4, 3, none⟩ = some (.int .i64 p) := (ZW.cell 3).trans rfl; have ZWk4 : v8.cell? ⟨g4, 4, none⟩ = some (.int .i64 (col : Int)) := (ZW.cell 4).trans rfl; have ZWk5 : v8.cell? ⟨g4, 5, none⟩ = some (.int .i64 bl) := (ZW.cell 5).trans rfl
        have ZWk6 : v8.cell? ⟨g4, 6, none⟩ = some (.int .i64 (rd - 1)) := (ZW.cell 6).trans rfl; have ZWk7 : v8.cell? ⟨g4, 7, none⟩ = some (.int .i64 1) := (ZW.cell 7).trans rfl
        have X1k0 : v8.cell? ⟨w.heap.size + 1, 0, none⟩ = some (.int .i64 0) := (X1.cell 0).trans rfl; have X1k1 : v8.cell? ⟨w.heap.size + 1, 1, none⟩ = some (.int .i64 0) := (X1.cell 1).trans rfl; have X1k2 : v8.cell? ⟨w.heap.size + 1, 2, none⟩ = some (.slice none 0 0) := (X1.cell 2).trans rfl; have X1k3 : v8.cell? ⟨w.heap.size + 1, 3, none⟩ = some (.int .i64 0) := (X1.cell 3).trans rfl; have X1k4 : v8.cell? ⟨w.heap.size + 1, 4, none⟩ = some (.int .i64 0) := (X1.cell 4).trans rfl; have X1k5 : v8.cell? ⟨w.heap.size + 1, 5, none⟩ = some (.int .i64 0) := (X1.cell 5).trans rfl
        have X1k6 : v8.cell? ⟨w.heap.size + 1, 6, none⟩ = some (.int .i64 0) := (X1.cell 6).trans rfl; have X1k7 : v8.cell? ⟨w.heap.size + 1, 7, none⟩ = some (.int .i64 0) := (X1.cell 7).trans rfl
        have X1f0 := X1.frozen 0; have X1f1 := X1.frozen 1; have X1f2 := X1.frozen 2; have X1f3 := X1.frozen 3; have X1f4 := X1.frozen 4; have X1f5 := X1.frozen 5; have X1f6 := X1.frozen 6; have X1f7 := X1.frozen 7
        have X2k0 : v8.cell? ⟨w.heap.size + 1 + 1, 0, none⟩ = some (.int .i64 0) := (X2.cell 0).trans rfl; have X2k1 : v8.cell? ⟨w.heap.size + 1 + 1, 1, none⟩ = some (.int .i64 0) := (X2.cell 1).trans rfl; have X2k2 : v8.cell? ⟨w.heap.size + 1 + 1, 2, none⟩ = some (.int .i64 0) := (X2.cell 2).trans rfl
        have X2f0 := X2.frozen 0; have X2f1 := X2.frozen 1; have X2f2 := X2.frozen 2
        have Xfk0 : v8.cell? ⟨gf, 0, none⟩ = some (.int .i64 1) := (Xf.cell 0).trans rfl; have Xfk1 : v8.cell? ⟨gf, 1, none⟩ = some (.int .i64 fr) := (Xf.cell 1).trans rfl; have Xfk2 : v8.cell? ⟨gf, 2, none⟩ = some (.int .i64 fc) := (Xf.cell 2).trans rfl
        go_region
        go_wp2
        rewrite [mset_fold]
        obtain ⟨v9, hv9⟩ : ∃ v9, v9 = ((((mset v8 (w.heap.size + 1) (.int .i64 (r : Int)) (.int .i64 (c : Int)) (.slice A5 l.length c5) (.int .i64 p) (.int .i64 (col : Int)) (.int .i64 bl) (.int .i64 (rd - 1)) (.int .i64 1)).setCell ⟨w.heap.size + 1 + 1, 0, none⟩ (.int .i64 1)).setCell ⟨w.heap.size + 1 + 1, 1, none⟩ (.int .i64 fr)).setCell ⟨w.heap.size + 1 + 1, 2, none⟩ (.int .i64 fc)).drew := ⟨_, rfl⟩
        have Z1 : Whole v9 (w.heap.size + 1) 36 [.int .i64 (r : Int), .int .i64 (c : Int), .slice A5 l.length c5, .int .i64 p, .int .i64 (col : Int), .int .i64 bl, .int .i64 (rd - 1), .int .i64 1] := by rw [hv9]; exact whole_drew (three_far (X1.mset _ _ _ _ _ _ _ _) n21)
        have Z2 : Whole v9 (w.heap.size + 1 + 1) 55 [.int .i64 1, .int .i64 fr, .int .i64 fc] := by rw [hv9]; exact whole_drew (whole_three (X2.mset_far n12))
        have O9 : Own v9 A5 95 (flat fl) := by rw [hv9]; exact own_drew (own_three (own_mset O5 X1 (by decide)) (X2.mset_far n12) (by decide))
        have B9 : Below w.heap.size w v9 := by rw [hv9]; exact ((((below_mset B0 (by omega)).setCell (p := ⟨w.heap.size + 1 + 1, 0, none⟩) (by show w.heap.size ≤ w.heap.size + 1 + 1; omega) _).setCell (p := ⟨w.heap.size + 1 + 1, 1, none⟩) (by show w.heap.size ≤ w.heap.size + 1 + 1; omega) _).setCell (p := ⟨w.heap.size + 1 + 1, 2, none⟩) (by show w.heap.size ≤ w.heap.size + 1 + 1; omega) _).drew
        rewrite [← hv9]
        clear ZWk0 ZWk1 ZWk2 ZWk3 ZWk4 ZWk5 ZWk6 ZWk7
        clear X1k0 X1k1 X1k2 X1k3 X1k4 X1k5 X1k6 X1k7
        clear X2k0 X2k1 X2k2
        clear X1f0 X1f1 X1f2 X1f3 X1f4 X1f5 X1f6 X1f7 X2f0 X2f1 X2f2 Xfk0 Xfk1 Xfk2 hv9 X1 X2 O5 B0 Xf ZW
        have Z1k0 : v9.cell? ⟨w.heap.size + 1, 0, none⟩ = some (.int .i64 (r : Int)) := (Z1.cell 0).trans rfl; have Z1k1 : v9.cell? ⟨w.heap.size + 1, 1, none⟩ = some (.int .i64 (c : Int)) := (Z1.cell 1).trans rfl; have Z1k2 : v9.cell? ⟨w.heap.size + 1, 2, none⟩ = some (.slice A5 l.length c5) := (Z1.cell 2).trans rfl; have Z1k3 : v9.cell? ⟨w.heap.size + 1, 3, none⟩ = some (.int .i64 p) := (Z1.cell 3).trans rfl; have Z1k4 : v9.cell? ⟨w.heap.size + 1, 4, none⟩ = some (.int .i64 (col : Int)) := (Z1.cell 4).trans rfl; have Z1k5 : v9.cell? ⟨w.heap.size + 1, 5, none⟩ = some (.int .i64 bl) := (Z1.cell 5).trans rfl
        have Z1k6 : v9.cell? ⟨w.heap.size + 1, 6, none⟩ = some (.int .i64 (rd - 1)) := (Z1.cell 6).trans rfl; have Z1k7 : v9.cell? ⟨w.heap.size + 1, 7, none⟩ = some (.int .i64 1) := (Z1.cell 7).trans rfl
        have Z2k0 : v9.cell? ⟨w.heap.size + 1 + 1, 0, none⟩ = some (.int .i64 1) := (Z2.cell 0).trans rfl; have Z2k1 : v9.cell? ⟨w.heap.size + 1 + 1, 1, none⟩ = some (.int .i64 fr) := (Z2.cell 1).trans rfl; have Z2k2 : v9.cell? ⟨w.heap.size + 1 + 1, 2, none⟩ = some (.int .i64 fc) := (Z2.cell 2).trans rfl
        refine bodyPost_ret (v := .tuple #[.agg #[.int .i64 (r : Int), .int .i64 (c : Int), .slice A5 l.length c5, .int .i64 p, .int .i64 (col : Int), .int .i64 bl, .int .i64 (rd - 1), .int .i64 1], .agg #[.int .i64 1, .int .i64 fr, .int .i64 fc]]) ?_ rfl ?_; (focus (simp [results, Tryz.results49, go_sem, *]; done))
        rewrite [HF.out, HN.out]
        exact ⟨A5, c5, rfl, O9, hn0, B9⟩
    · have hb1 : (fe == 1) = false := by simpa using hE
      have HN := Lib.hid (show nextM (c : Int) ⟨fe, fr, fc, fl, fw⟩ = 2 by unfold nextM; rw [if_neg hE])
      clear hok'
      have Xfk0 : v7.cell? ⟨gf, 0, none⟩ = some (.int .i64 fe) := (Xf.cell 0).trans rfl
      go_upto_region 14 with (fail)
      have ZW := Z4
      obtain ⟨v8, hv8⟩ : ∃ v8, v8 = v7 := ⟨_, rfl⟩
      rw [← hv8] at ZW
      replace X1 : Whole v8 (w.heap.size + 1) 36 [.int .i64 0, .int .i64 0, .slice none 0 0, .int .i64 0, .int .i64 0, .int .i64 0, .int .i64 0, .int .i64 0] := by rw [hv8]; exact X1
      replace X2 : Whole v8 (w.heap.size + 1 + 1) 55 [.int .i64 0, .int .i64 0, .int .i64 0] := by rw [hv8]; exact X2
      replace Xf : Whole v8 gf 55 [.int .i64 fe, .int .i64 fr, .int .i64 fc] := by rw [hv8]; exact Xf
      replace O5 : Own v8 A5 95 (flat fl) := by rw [hv8]; exact O5
      replace B0 : Below w.heap.size w v8 := by rw [hv8]; exact B0
      clear Xfk0 
      rewrite [show v7 = v8 from hv8.symm]
      clear hv8 Z4 X0 h4l hfl hy
      have h4l := ZW.lt
      have hfl := Xf.lt
      have h1l := X1.lt
      have h2l := X2.lt
      have ZWk0 : v8.cell? ⟨g4, 0, none⟩ = some (.int .i64 (r : Int)) := (ZW.cell 0).trans rfl; have ZWk1 : v8.cell? ⟨g4, 1, none⟩ = some (.int .i64 (c : Int)) := (ZW.cell 1).trans rfl; have ZWk2 : v8.cell? ⟨g4, 2, none⟩ = some (.slice A5 l.length c5) := (ZW.cell 2).trans rfl; have ZWk3 : v8.cell? ⟨g4, 3, none⟩ = some (.int .i64 p) := (ZW.cell 3).trans rfl; have ZWk4 : v8.cell? ⟨g4, 4, none⟩ = some (.int .i64 (col : Int)) := (ZW.cell 4).trans rfl; have ZWk5 : v8.cell? ⟨g4, 5, none⟩ = some (.int .i64 bl) := (ZW.cell 5).trans rfl
      have ZWk6 : v8.cell? ⟨g4, 6, none⟩ = some (.int .i64 (rd - 1)) := (ZW.cell 6).trans rfl; have ZWk7 : v8.cell? ⟨g4, 7, none⟩ = some (.int .i64 2) := (ZW.cell 7).trans rfl
      have X1k0 : v8.cell? ⟨w.heap.size + 1, 0, none⟩ = some (.int .i64 0) := (X1.cell 0).trans rfl; have X1k1 : v8.cell? ⟨w.heap.size + 1, 1, none⟩ = some (.int .i64 0) := (X1.cell 1).trans rfl; have X1k2 : v8.cell? ⟨w.heap.size + 1, 2, none⟩ = some (.slice none 0 0) := (X1.cell 2).trans rfl; have X1k3 : v8.cell? ⟨w.heap.size + 1, 3, none⟩ = some (.int .i64 0) := (X1.cell 3).trans rfl; have X1k4 : v8.cell? ⟨w.heap.size + 1, 4, none⟩ = some (.int .i64 0) := (X1.cell 4).trans rfl; have X1k5 : v8.cell? ⟨w.heap.size + 1, 5, none⟩ = some (.int .i64 0) := (X1.cell 5).trans rfl
      have X1k6 : v8.cell? ⟨w.heap.size + 1, 6, none⟩ = some (.int .i64 0) := (X1.cell 6).trans rfl; have X1k7 : v8.cell? ⟨w.heap.size + 1, 7, none⟩ = some (.int .i64 0) := (X1.cell 7).trans rfl
      have X1f0 := X1.frozen 0; have X1f1 := X1.frozen 1; have X1f2 := X1.frozen 2; have X1f3 := X1.frozen 3; have X1f4 := X1.frozen 4; have X1f5 := X1.frozen 5; have X1f6 := X1.frozen 6; have X1f7 := X1.frozen 7
      have X2k0 : v8.cell? ⟨w.heap.size + 1 + 1, 0, none⟩ = some (.int .i64 0) := (X2.cell 0).trans rfl; have X2k1 : v8.cell? ⟨w.heap.size + 1 + 1, 1, none⟩ = some (.int .i64 0) := (X2.cell 1).trans rfl; have X2k2 : v8.cell? ⟨w.heap.size + 1 + 1, 2, none⟩ = some (.int .i64 0) := (X2.cell 2).trans rfl
      have X2f0 := X2.frozen 0; have X2f1 := X2.frozen 1; have X2f2 := X2.frozen 2
      have Xfk0 : v8.cell? ⟨gf, 0, none⟩ = some (.int .i64 fe) := (Xf.cell 0).trans rfl; have Xfk1 : v8.cell? ⟨gf, 1, none⟩ = some (.int .i64 fr) := (Xf.cell 1).trans rfl; have Xfk2 : v8.cell? ⟨gf, 2, none⟩ = some (.int .i64 fc) := (Xf.cell 2).trans rfl
      go_region
      go_wp2
      rewrite [mset_fold]
      obtain ⟨v9, hv9⟩ : ∃ v9, v9 = ((((mset v8 (w.heap.size + 1) (.int .i64 (r : Int)) (.int .i64 (c : Int)) (.slice A5 l.length c5) (.int .i64 p) (.int .i64 (col : Int)) (.int .i64 bl) (.int .i64 (rd - 1)) (.int .i64 2)).setCell ⟨w.heap.size + 1 + 1, 0, none⟩ (.int .i64 fe)).setCell ⟨w.heap.size + 1 + 1, 1, none⟩ (.int .i64 fr)).setCell ⟨w.heap.size + 1 + 1, 2, none⟩ (.int .i64 fc)).drew := ⟨_, rfl⟩
      have Z1 : Whole v9 (w.heap.size + 1) 36 [.int .i64 (r : Int), .int .i64 (c : Int), .slice A5 l.length c5, .int .i64 p, .int .i64 (col : Int), .int .i64 bl, .int .i64 (rd - 1), .int .i64 2] := by rw [hv9]; exact whole_drew (three_far (X1.mset _ _ _ _ _ _ _ _) n21)
      have Z2 : Whole v9 (w.heap.size + 1 + 1) 55 [.int .i64 fe, .int .i64 fr, .int .i64 fc] := by rw [hv9]; exact whole_drew (whole_three (X2.mset_far n12))
      have O9 : Own v9 A5 95 (flat fl) := by rw [hv9]; exact own_drew (own_three (own_mset O5 X1 (by decide)) (X2.mset_far n12) (by decide))
      have B9 : Below w.heap.size w v9 := by rw [hv9]; exact ((((below_mset B0 (by omega)).setCell (p := ⟨w.heap.size + 1 + 1, 0, none⟩) (by show w.heap.size ≤ w.heap.size + 1 + 1; omega) _).setCell (p := ⟨w.heap.size + 1 + 1, 1, none⟩) (by show w.heap.size ≤ w.heap.size + 1 + 1; omega) _).setCell (p := ⟨w.heap.size + 1 + 1, 2, none⟩) (by show w.heap.size ≤ w.heap.size + 1 + 1; omega) _).drew
      rewrite [← hv9]
      clear ZWk0 ZWk1 ZWk2 ZWk3 ZWk4 ZWk5 ZWk6 ZWk7
      clear X1k0 X1k1 X1k2 X1k3 X1k4 X1k5 X1k6 X1k7
      clear X2k0 X2k1 X2k2
      clear X1f0 X1f1 X1f2 X1f3 X1f4 X1f5 X1f6 X1f7 X2f0 X2f1 X2f2 Xfk0 Xfk1 Xfk2 hv9 X1 X2 O5 B0 Xf ZW
      have Z1k0 : v9.cell? ⟨w.heap.size + 1, 0, none⟩ = some (.int .i64 (r : Int)) := (Z1.cell 0).trans rfl; have Z1k1 : v9.cell? ⟨w.heap.size + 1, 1, none⟩ = some (.int .i64 (c : Int)) := (Z1.cell 1).trans rfl; have Z1k2 : v9.cell? ⟨w.heap.size + 1, 2, none⟩ = some (.slice A5 l.length c5) := (Z1.cell 2).trans rfl; have Z1k3 : v9.cell? ⟨w.heap.size + 1, 3, none⟩ = some (.int .i64 p) := (Z1.cell 3).trans rfl; have Z1k4 : v9.cell? ⟨w.heap.size + 1, 4, none⟩ = some (.int .i64 (col : Int)) := (Z1.cell 4).trans rfl; have Z1k5 : v9.cell? ⟨w.heap.size + 1, 5, none⟩ = some (.int .i64 bl) := (Z1.cell 5).trans rfl
      have Z1k6 : v9.cell? ⟨w.heap.size + 1, 6, none⟩ = some (.int .i64 (rd - 1)) := (Z1.cell 6).trans rfl; have Z1k7 : v9.cell? ⟨w.heap.size + 1, 7, none⟩ = some (.int .i64 2) := (Z1.cell 7).trans rfl
      have Z2k0 : v9.cell? ⟨w.heap.size + 1 + 1, 0, none⟩ = some (.int .i64 fe) := (Z2.cell 0).trans rfl; have Z2k1 : v9.cell? ⟨w.heap.size + 1 + 1, 1, none⟩ = some (.int .i64 fr) := (Z2.cell 1).trans rfl; have Z2k2 : v9.cell? ⟨w.heap.size + 1 + 1, 2, none⟩ = some (.int .i64 fc) := (Z2.cell 2).trans rfl
      refine bodyPost_ret (v := .tuple #[.agg #[.int .i64 (r : Int), .int .i64 (c : Int), .slice A5 l.length c5, .int .i64 p, .int .i64 (col : Int), .int .i64 bl, .int .i64 (rd - 1), .int .i64 2], .agg #[.int .i64 fe, .int .i64 fr, .int .i64 fc]]) ?_ rfl ?_; (focus (simp [results, Tryz.results49, go_sem, *]; done))
      rewrite [HF.out, HN.out]
      exact ⟨A5, c5, rfl, O9, hn0, B9⟩
end Go.Proofs.YtlambflmabecfaaGreat
namespace Go.Proofs.YtlambflmabecfaaGreat
open Go.ChangeShapes Go.WideShapes Go.ChangeAt Go.RowKit Go.Joins Go.Deep
set_option linter.unusedSimpArgs false
set_option linter.unusedVariables false
set_option maxRecDepth 100000
set_option maxHeartbeats 4000000
def lenV : Value → Nat
  | .slice _ n _ => n
  | _ => 0
/-- What maRun hands back: the machine behind its steps, the colours, and the ends. -/
def PostG (w : World) (r c : Nat) (p q : Int) (s : MSt) (e : Ending) (w' : World) : Prop :=
  ∃ A5 c5 v2 v3, e = .returned (.tuple #[.agg #[.int .i64 (r : Int), .int .i64 (c : Int), .slice A5 s.l.length c5, .int .i64 p, .int .i64 q, .int .i64 s.bl, .int .i64 s.rd, .int .i64 s.nx], v2, v3]) ∧ Own w' A5 95 (flat s.l) ∧ New w A5 ∧
    w'.ownsRow w.heap.size 3 1 v2 s.cs.length (ints s.cs) ∧ w'.ownsRow w.heap.size 55 3 v3 s.fs.length (flatF s.fs) ∧ Below w.heap.size w w'
theorem PostG.mk {w w' : World} {r c c5 n : Nat} {p q : Int} {s : MSt} {A5 : Option Addr} {v2 v3 : Value} (hl : s.l.length = n) (O5 : Own w' A5 95 (flat s.l)) (N5 : New w A5) (h2 : w'.ownsRow w.heap.size 3 1 v2 s.cs.length (ints s.cs)) (h3 : w'.ownsRow w.heap.size 55 3 v3 s.fs.length (flatF s.fs)) (B : Below w.heap.size w w') :
    PostG w r c p q s (.returned (.tuple #[.agg #[.int .i64 (r : Int), .int .i64 (c : Int), .slice A5 n c5, .int .i64 p, .int .i64 q, .int .i64 s.bl, .int .i64 s.rd, .int .i64 s.nx], v2, v3])) w' := by
  subst hl
  exact ⟨_, _, _, _, rfl, O5, N5, h2, h3, B⟩
theorem three_oneF2 {a b c : Int} : ∀ u ∈ [Value.int .i64 a, Value.int .i64 b, Value.int .i64 c], u.oneCell' = true := three_oneF
theorem three_cellsX {w : World} {o o2 : Obj} {x y z : Value} {t : TypeId} : ∀ j u, [x, y, z][j]? = some u → (((w.alloc o).alloc o2).alloc (.cells #[x, y, z] t)).cell? ((⟨w.heap.size + 1 + 1, 0, none⟩ : Addr).add j) = some u := by
  intro j u h
  have hn := heap_alloc_new ((w.alloc o).alloc o2) (.cells #[x, y, z] t)
  rw [World.size_alloc, World.size_alloc] at hn
  have hw : Whole (((w.alloc o).alloc o2).alloc (.cells #[x, y, z] t)) (w.heap.size + 1 + 1) t [x, y, z] := hn
  have hj := hw.cell j
  rw [h] at hj
  rw [← hj]
  by_cases h0 : j = 0
  · subst h0; simp [Addr.add]
  · simp [Addr.add, h0]
theorem whole_three8 {w : World} {g : Nat} {t : TypeId} {x0 x1 x2 x3 x4 x5 x6 x7 a b c : Value} (h : Whole w g t [x0, x1, x2, x3, x4, x5, x6, x7]) : Whole (((w.setCell ⟨g, 0, none⟩ a).setCell ⟨g, 1, none⟩ b).setCell ⟨g, 2, none⟩ c) g t [a, b, c, x3, x4, x5, x6, x7] := ((h.set 0 a).set 1 b).set 2 c
theorem row_row_apart {w : World} {base base' size size' n n' : Nat} {e e' : TypeId} {v v' : Value} {xs ys : List Value} (h : w.ownsRow base e size v n xs) (h' : w.ownsRow base' e' size' v' n' ys) (hne : e ≠ e') : v.ownBlock = none ∨ v.ownBlock ≠ v'.ownBlock := by
  rcases h.2 with ⟨rfl, _⟩ | ⟨k, cap, cur, rfl, h2, hh, h3⟩
  · exact .inl rfl
  · rcases h'.2 with ⟨rfl, _⟩ | ⟨k', cap', cur', rfl, h2', hh', h3'⟩
    · exact .inr (by intro e; cases e)
    · refine .inr (fun e9 => ?_)
      have ek : k = k' := by injection e9
      subst ek
      rw [hh] at hh'
      injection hh' with hh'
      injection hh' with _ ht
      exact hne ht
theorem own_grown_row {w w' : World} {A : Option Addr} {t e : TypeId} {xs ys : List Value} {base size n : Nat} {v : Value} (h : Own w A t xs) (hr : w.ownsRow base e size v n ys) (hne : t ≠ e) (hg : w.grownBy w' v.ownBlock) : Own w' A t xs := fun hx => by
  obtain ⟨k, rest, rfl, hk⟩ := h hx
  refine ⟨k, rest, rfl, hk.grown hg (fun ek => ?_)⟩
  exact row_apart hr hk (fun e9 => hne e9.symm) ek
theorem spec_maRun (r c b o cap : Nat) (l : List (Int × Int)) (p q bl rd nx : Int) (n : Nat) (w : World) (hok : okM (r : Int) (c : Int) l p q bl rd nx = true) (hn : n ≤ 60) (hr : Rd w w.heap.size (some ⟨b, o, none⟩) (flat l)) :
    Calls Tryz.prog 37 #[.agg #[.int .i64 (r : Int), .int .i64 (c : Int), .slice (some ⟨b, o, none⟩) l.length cap, .int .i64 p, .int .i64 q, .int .i64 bl, .int .i64 rd, .int .i64 nx], .int .i64 (n : Int)] w (PostG w r c p q (runM (r : Int) (c : Int) p q n ⟨l, bl, rd, nx, [], []⟩)) := by
  obtain ⟨r', c', er, ec, hG, hgd, hp, hq⟩ := okM_ints hok
  obtain rfl : r = r' := by omega
  obtain rfl : c = c' := by omega
  obtain ⟨_, h90, hpos⟩ := goodB_parts hgd
  have hln : l.length ≤ 1048576 := by omega
  have hst := MOk.start hok
  obtain ⟨S, hS⟩ : ∃ S, runM (r : Int) (c : Int) p q n ⟨l, bl, rd, nx, [], []⟩ = S := ⟨_, rfl⟩
  have hS0 : runM (r : Int) (c : Int) p q (n - 0) ⟨l, bl, rd, nx, [], []⟩ = S := hS
  rewrite [hS]
  obtain ⟨i0, hi, hz0, hz1, hz2⟩ := info_parts intInfo
  obtain ⟨i1, hi1, hy0, hy1, hy2⟩ := info_parts fallInfo
  clear hok hS er ec hG hgd
  go_enter Tryz.func37, Tryz.ntmps37
  obtain ⟨v0, hv0, X0, X1, B0, hz0⟩ := two_boxes w [.int .i64 (r : Int), .int .i64 (c : Int), .slice (some ⟨b, o, none⟩) l.length cap, .int .i64 p, .int .i64 q, .int .i64 bl, .int .i64 rd, .int .i64 nx] 36 [.int .i64 0, .int .i64 0, .slice none 0 0, .int .i64 0, .int .i64 0, .int .i64 0, .int .i64 0, .int .i64 0] 36; have HV := Lib.hid hv0; have hz : w.heap.size + 1 < v0.heap.size := (by omega); have hy : w.heap.size < v0.heap.size := (by omega); have hb0 := B0.size; clear hv0 hz0; go_wp2_with fail; rewrite [show (w.alloc (.cells ([.int .i64 (r : Int), .int .i64 (c : Int), .slice (some ⟨b, o, none⟩) l.length cap, .int .i64 p, .int .i64 q, .int .i64 bl, .int .i64 rd, .int .i64 nx] : List Value).toArray 36)).alloc (.cells ([.int .i64 0, .int .i64 0, .slice none 0 0, .int .i64 0, .int .i64 0, .int .i64 0, .int .i64 0, .int .i64 0] : List Value).toArray 36) = v0 from HV.out]; clear HV
  have X0k0 : v0.cell? ⟨w.heap.size, 0, none⟩ = some (.int .i64 (r : Int)) := (X0.cell 0).trans rfl; have X0k1 : v0.cell? ⟨w.heap.size, 1, none⟩ = some (.int .i64 (c : Int)) := (X0.cell 1).trans rfl; have X0k2 : v0.cell? ⟨w.heap.size, 2, none⟩ = some (.slice (some ⟨b, o, none⟩) l.length cap) := (X0.cell 2).trans rfl
  go_wp2_with fail
  refine (spec_boOwn _ _ _ _ _ l _ hpos hln ((hr.below B0).mono B0.size)).mono ?_; rintro e w1 hP
  obtain ⟨A5, c5, rfl, o5, n5, b1⟩ := hP
  clear X0k0 X0k1 X0k2
  have N5 : New w A5 := fun a ha => Nat.le_trans B0.size (n5 a ha)
  have hne5 : ∀ a, A5 = some a → w.heap.size ≠ a.block := fun a ha => by have h := n5 a ha; omega
  replace X0 := X0.below b1 X0.lt; replace X1 := X1.below b1 X1.lt; replace B0 := B0.trans (b1.mono B0.size); have hy := X0.lt; have hz := X1.lt; have hb0 := B0.size; clear b1
  clear n5
  have X0k0 : w1.cell? ⟨w.heap.size, 0, none⟩ = some (.int .i64 (r : Int)) := (X0.cell 0).trans rfl; have X0k1 : w1.cell? ⟨w.heap.size, 1, none⟩ = some (.int .i64 (c : Int)) := (X0.cell 1).trans rfl; have X0k2 : w1.cell? ⟨w.heap.size, 2, none⟩ = some (.slice (some ⟨b, o, none⟩) l.length cap) := (X0.cell 2).trans rfl
  have X0f0 := X0.frozen 0; have X0f1 := X0.frozen 1; have X0f2 := X0.frozen 2
  have n01 : w.heap.size ≠ w.heap.size + 1 := by omega
  go_upto_region 2 with (fail)
  obtain ⟨v2, hv2⟩ : ∃ v2, v2 = (((w1.setCell ⟨w.heap.size, 0, none⟩ (.int .i64 (r : Int))).setCell ⟨w.heap.size, 1, none⟩ (.int .i64 (c : Int))).setCell ⟨w.heap.size, 2, none⟩ (.slice A5 l.length c5)) := ⟨_, rfl⟩
  have Y0 : Whole v2 w.heap.size 36 [.int .i64 (r : Int), .int .i64 (c : Int), .slice A5 l.length c5, .int .i64 p, .int .i64 q, .int .i64 bl, .int .i64 rd, .int .i64 nx] := by rw [hv2]; exact whole_three8 X0
  replace X1 : Whole v2 (w.heap.size + 1) 36 [.int .i64 0, .int .i64 0, .slice none 0 0, .int .i64 0, .int .i64 0, .int .i64 0, .int .i64 0, .int .i64 0] := by rw [hv2]; exact three_far X1 n01
  replace o5 : Own v2 A5 95 (flat l) := by
    rw [hv2]
    exact ((o5.set_far2 _ _ (fun hx a ha => hne5 a ha)).set_far2 _ _ (fun hx a ha => hne5 a ha)).set_far2 _ _ (fun hx a ha => hne5 a ha)
  replace B0 : Below w.heap.size w v2 := by rw [hv2]; exact ((B0.setCell (p := ⟨w.heap.size, 0, none⟩) (Nat.le_refl _) _).setCell (p := ⟨w.heap.size, 1, none⟩) (Nat.le_refl _) _).setCell (p := ⟨w.heap.size, 2, none⟩) (Nat.le_refl _) _
  clear X0k0 X0k1 X0k2
  clear X0f0 X0f1 X0f2
  rewrite [← hv2]
  clear hv2 X0 hy hz hb0 hne5
  have h2 : v2.ownsRow w.heap.size 3 1 (.slice none 0 0) 0 [] := World.ownsRow_nil _ _ _ _
  have h3 : v2.ownsRow w.heap.size 55 3 (.slice none 0 0) 0 [] := World.ownsRow_nil _ _ _ _
  go_wp2
  go_loopw [7, 8] (fun x y wr => ∃ (s : MSt) (A5 : Option Addr) (c5 : Nat), s.fs.length ≤ n ∧ MOk (r : Int) (c : Int) p q l.length s ∧ runM (r : Int) (c : Int) p q (n - s.fs.length) s = S ∧ wr.ownsRow w.heap.size 3 1 x s.cs.length (ints s.cs) ∧ wr.ownsRow w.heap.size 55 3 y s.fs.length (flatF s.fs) ∧
    Whole wr w.heap.size 36 [.int .i64 (r : Int), .int .i64 (c : Int), .slice A5 l.length c5, .int .i64 p, .int .i64 q, .int .i64 s.bl, .int .i64 s.rd, .int .i64 s.nx] ∧ Own wr A5 95 (flat s.l) ∧ New w A5 ∧ Whole wr (w.heap.size + 1) 36 [.int .i64 0, .int .i64 0, .slice none 0 0, .int .i64 0, .int .i64 0, .int .i64 0, .int .i64 0, .int .i64 0] ∧ Below w.heap.size w wr) (fun _ y _ => n - lenV y)
  case atStart => exact ⟨⟨l, bl, rd, nx, [], []⟩, A5, c5, Nat.zero_le _, hst, hS0, h2, h3, Y0, o5, N5, X1, B0⟩
  case round =>
    clear h2 h3 Y0 o5 N5 X1 B0 hst hS0
    obtain ⟨s, A5, c5, hfn, hmk, hS, h2, h3, X0, O5, N5, X1, B0⟩ := hrel
    obtain ⟨Af, cf, rfl⟩ := slice_of_row h3
    have hs := B0.size
    have h0l := X0.lt
    have h1l := X1.lt
    by_cases hlt : s.fs.length < n
    · have HC := Lib.hid (spec_maCan (r : Int) (c : Int) A5 c5 s.l p q s.bl s.rd s.nx)
      have hlk := hmk.len
      rw [hlk] at HC
      rcases Bool.eq_false_or_eq_true (canM s.bl s.rd s.nx) with hc | hc
      · obtain ⟨col, hcol, hcl⟩ : ∃ j : Nat, colM p q s.nx = (j : Int) ∧ j < c := by
          rcases colM_or p q s.nx with e | e
          · exact ⟨p.toNat, by rw [e]; omega, by omega⟩
          · exact ⟨q.toNat, by rw [e]; omega, by omega⟩
        have HM2 := Lib.hid (hmk.step hp hq hc)
        obtain ⟨m, hm⟩ : ∃ m, n - s.fs.length = m + 1 := ⟨n - s.fs.length - 1, by omega⟩
        have HS2 := Lib.hid (show runM (r : Int) (c : Int) p q (n - (stepM (r : Int) (c : Int) p q s).fs.length) (stepM (r : Int) (c : Int) p q s) = S by
          have e : (stepM (r : Int) (c : Int) p q s).fs.length = s.fs.length + 1 := by show (s.fs ++ [_]).length = _; rw [List.length_append]; rfl
          rw [e, ← hS, show n - s.fs.length = (n - (s.fs.length + 1)) + 1 by omega, runM_go hc])
        obtain ⟨g5, rest5, rfl, X7⟩ := O5 (by rw [flat_length]; omega)
        have HQ := Lib.hid (fun w' h => spec_maStep r c g5 0 c5 s.l p q s.bl s.rd s.nx col w' hmk.good h hc hmk.bl1 hmk.rd1 hcol hcl)
        rw [hlk] at HQ
        have hsm := hmk.same
        have hfew := hmk.few
        have e0 : (stepM (r : Int) (c : Int) p q s).fs.length = s.fs.length + 1 := by show (s.fs ++ [_]).length = _; rw [List.length_append]; rfl
        have e0' : (stepM (r : Int) (c : Int) p q s).cs.length = s.cs.length + 1 := by show (s.cs ++ [_]).length = _; rw [List.length_append]; rfl
        have e5 : (stepM (r : Int) (c : Int) p q s).cs = s.cs ++ [s.nx] := rfl
        have e6 : (stepM (r : Int) (c : Int) p q s).fs = s.fs ++ [((marO (r : Int) (c : Int) s.l (colM p q s.nx)).e, (marO (r : Int) (c : Int) s.l (colM p q s.nx)).row, (marO (r : Int) (c : Int) s.l (colM p q s.nx)).col)] := rfl
        obtain ⟨s2, hs2⟩ : ∃ s2, stepM (r : Int) (c : Int) p q s = s2 := ⟨_, rfl⟩
        have e1 : s2.l = (marO (r : Int) (c : Int) s.l (colM p q s.nx)).cells := by rw [← hs2]; rfl
        have e2 : s2.bl = if s.nx = 0 then s.bl - 1 else s.bl := by rw [← hs2]; rfl
        have e3 : s2.rd = if s.nx = 0 then s.rd else s.rd - 1 := by rw [← hs2]; rfl
        have e4 : s2.nx = nextM (c : Int) (marO (r : Int) (c : Int) s.l (colM p q s.nx)) := by rw [← hs2]; rfl
        unfold PostT at HQ
        rw [← e1, ← e2, ← e3, ← e4] at HQ
        rw [hs2] at HM2 HS2 e0 e0' e5 e6
        have E5 := Lib.hid e5
        have E6 := Lib.hid e6
        have E0 := Lib.hid e0
        have E0' := Lib.hid e0'
        generalize marO (r : Int) (c : Int) s.l (colM p q s.nx) = F at *
        obtain ⟨fe, fr, fc, fl, fw⟩ := F
        clear e1 e2 e3 e4 e0 e0' e5 e6 hs2 hlk hcol hcl hS hmk hm m
        generalize hkf : s.fs.length = kf at *
        generalize hkc : s.cs.length = kc at *
        have X0k0 : wr.cell? ⟨w.heap.size, 0, none⟩ = some (.int .i64 (r : Int)) := (X0.cell 0).trans rfl; have X0k1 : wr.cell? ⟨w.heap.size, 1, none⟩ = some (.int .i64 (c : Int)) := (X0.cell 1).trans rfl; have X0k2 : wr.cell? ⟨w.heap.size, 2, none⟩ = some (.slice (some ⟨g5, 0, none⟩) l.length c5) := (X0.cell 2).trans rfl; have X0k3 : wr.cell? ⟨w.heap.size, 3, none⟩ = some (.int .i64 p) := (X0.cell 3).trans rfl; have X0k4 : wr.cell? ⟨w.heap.size, 4, none⟩ = some (.int .i64 q) := (X0.cell 4).trans rfl; have X0k5 : wr.cell? ⟨w.heap.size, 5, none⟩ = some (.int .i64 s.bl) := (X0.cell 5).trans rfl
        have X0k6 : wr.cell? ⟨w.heap.size, 6, none⟩ = some (.int .i64 s.rd) := (X0.cell 6).trans rfl; have X0k7 : wr.cell? ⟨w.heap.size, 7, none⟩ = some (.int .i64 s.nx) := (X0.cell 7).trans rfl
        go_wp2_with fail
        refine (HC.out _).mono ?_; rintro e w2 ⟨rfl, b2⟩
        clear HC
        clear X0k0 X0k1 X0k2 X0k3 X0k4 X0k5 X0k6 X0k7
        rewrite [hc]
        replace X0 := X0.below b2 X0.lt
        replace X1 := X1.below b2 X1.lt
        replace X7 := X7.below b2 X7.lt
        replace h2 := row_keep h2 b2
        replace h3 := row_keep h3 b2
        replace B0 := B0.trans (b2.mono hs)
        replace hs := B0.size
        clear b2 h0l h1l
        have h0l := X0.lt
        have X0k7 : w2.cell? ⟨w.heap.size, 7, none⟩ = some (.int .i64 s.nx) := (X0.cell 7).trans rfl
        have h2Y := h2.alloc (.cells #[.int .i64 s.nx] 3)
        go_upto_region 6 with (first | (at_builtin; go_loud (refine wpList_append_own _ rfl (.tmp 23) (.tmp 26) 73 rfl w.heap.size 3 i0 _ 1 8 Tryz.underlying73 hi hz0 hz1 hz2 rfl (by omega) u7 kc _ rfl (h2.alloc _) ⟨w2.heap.size, 0, none⟩ 1 1 [.int .i64 s.nx] rfl rfl one_cellI one_oneI (by unfold maxLen; omega) (by omega) (by rw [World.size_alloc]; omega) ?_; intro v7 w7 hown7 hg7 _)) | fail)
        clear X0k7
        have ba : Below w2.heap.size w2 (w2.alloc (.cells #[.int .i64 s.nx] 3)) := (Below.refl _ _).alloc (Nat.le_refl _) _
        have X3 := (X0.below ba X0.lt).grown hg7 (row_apart h2Y (X0.below ba X0.lt) (by decide))
        have X13 := (X1.below ba X1.lt).grown hg7 (row_apart h2Y (X1.below ba X1.lt) (by decide))
        have X73 := (X7.below ba X7.lt).grown hg7 (row_apart h2Y (X7.below ba X7.lt) (by decide))
        have h33 := World.ownsRow.kept (row_keep h3 ba) hg7 (row_row_apart (row_keep h3 ba) h2Y (by decide))
        have B3 := row_below h2Y (B0.alloc hs _) (by rw [World.size_alloc]; omega) hg7
        clear ba h2Y hg7 h2 h3 X0 X1 X7 B0 hs h0l
        have hs := B3.size
        have h0l := X3.lt
        have X3k0 : w7.cell? ⟨w.heap.size, 0, none⟩ = some (.int .i64 (r : Int)) := (X3.cell 0).trans rfl; have X3k1 : w7.cell? ⟨w.heap.size, 1, none⟩ = some (.int .i64 (c : Int)) := (X3.cell 1).trans rfl; have X3k2 : w7.cell? ⟨w.heap.size, 2, none⟩ = some (.slice (some ⟨g5, 0, none⟩) l.length c5) := (X3.cell 2).trans rfl; have X3k3 : w7.cell? ⟨w.heap.size, 3, none⟩ = some (.int .i64 p) := (X3.cell 3).trans rfl; have X3k4 : w7.cell? ⟨w.heap.size, 4, none⟩ = some (.int .i64 q) := (X3.cell 4).trans rfl; have X3k5 : w7.cell? ⟨w.heap.size, 5, none⟩ = some (.int .i64 s.bl) := (X3.cell 5).trans rfl
        have X3k6 : w7.cell? ⟨w.heap.size, 6, none⟩ = some (.int .i64 s.rd) := (X3.cell 6).trans rfl; have X3k7 : w7.cell? ⟨w.heap.size, 7, none⟩ = some (.int .i64 s.nx) := (X3.cell 7).trans rfl
        go_wp2_with fail
        have hrd7 : Rd w7 w7.heap.size (some ⟨g5, 0, none⟩) (flat s.l) := Own.rd (fun _ => ⟨g5, rest5, rfl, X73⟩)
        refine (HQ.out _ hrd7).mono ?_; rintro e w8 ⟨A6, c6, rfl, O6, N6, b8⟩
        clear HQ hrd7
        clear X3k0 X3k1 X3k2 X3k3 X3k4 X3k5 X3k6 X3k7
        have N6w : New w A6 := fun a ha => Nat.le_trans hs (N6 a ha)
        replace X3 := X3.below b8 X3.lt
        replace X13 := X13.below b8 X13.lt
        replace hown7 := row_keep hown7 b8
        replace h33 := row_keep h33 b8
        replace B3 := B3.trans (b8.mono hs)
        replace hs := B3.size
        clear b8 N6 X73 h0l
        have hgn : w8.heap.size ≠ w.heap.size := by have := X3.lt; omega
        have h3Y := (((h33.alloc (.cells #[.int .i64 (r : Int), .int .i64 (c : Int), .slice A6 l.length c6, .int .i64 p, .int .i64 q, .int .i64 s2.bl, .int .i64 s2.rd, .int .i64 s2.nx] 36)).alloc (.cells #[.int .i64 fe, .int .i64 fr, .int .i64 fc] 55)).alloc (.cells #[.int .i64 fe, .int .i64 fr, .int .i64 fc] 55))
        have O6a : Own (((w8.alloc (.cells #[.int .i64 (r : Int), .int .i64 (c : Int), .slice A6 l.length c6, .int .i64 p, .int .i64 q, .int .i64 s2.bl, .int .i64 s2.rd, .int .i64 s2.nx] 36)).alloc (.cells #[.int .i64 fe, .int .i64 fr, .int .i64 fc] 55)).alloc (.cells #[.int .i64 fe, .int .i64 fr, .int .i64 fc] 55)) A6 95 (flat s2.l) := ((O6.alloc_ _).alloc_ _).alloc_ _
        have Xn : Whole (((w8.alloc (.cells #[.int .i64 (r : Int), .int .i64 (c : Int), .slice A6 l.length c6, .int .i64 p, .int .i64 q, .int .i64 s2.bl, .int .i64 s2.rd, .int .i64 s2.nx] 36)).alloc (.cells #[.int .i64 fe, .int .i64 fr, .int .i64 fc] 55)).alloc (.cells #[.int .i64 fe, .int .i64 fr, .int .i64 fc] 55)) w8.heap.size 36 [.int .i64 (r : Int), .int .i64 (c : Int), .slice A6 l.length c6, .int .i64 p, .int .i64 q, .int .i64 s2.bl, .int .i64 s2.rd, .int .i64 s2.nx] := (newW.alloc _).alloc _
        have X3a := ((X3.alloc (.cells #[.int .i64 (r : Int), .int .i64 (c : Int), .slice A6 l.length c6, .int .i64 p, .int .i64 q, .int .i64 s2.bl, .int .i64 s2.rd, .int .i64 s2.nx] 36)).alloc (.cells #[.int .i64 fe, .int .i64 fr, .int .i64 fc] 55)).alloc (.cells #[.int .i64 fe, .int .i64 fr, .int .i64 fc] 55)
        have X13a := ((X13.alloc (.cells #[.int .i64 (r : Int), .int .i64 (c : Int), .slice A6 l.length c6, .int .i64 p, .int .i64 q, .int .i64 s2.bl, .int .i64 s2.rd, .int .i64 s2.nx] 36)).alloc (.cells #[.int .i64 fe, .int .i64 fr, .int .i64 fc] 55)).alloc (.cells #[.int .i64 fe, .int .i64 fr, .int .i64 fc] 55)
        have h7a := ((hown7.alloc (.cells #[.int .i64 (r : Int), .int .i64 (c : Int), .slice A6 l.length c6, .int .i64 p, .int .i64 q, .int .i64 s2.bl, .int .i64 s2.rd, .int .i64 s2.nx] 36)).alloc (.cells #[.int .i64 fe, .int .i64 fr, .int .i64 fc] 55)).alloc (.cells #[.int .i64 fe, .int .i64 fr, .int .i64 fc] 55)
        have B3a : Below w.heap.size w (((w8.alloc (.cells #[.int .i64 (r : Int), .int .i64 (c : Int), .slice A6 l.length c6, .int .i64 p, .int .i64 q, .int .i64 s2.bl, .int .i64 s2.rd, .int .i64 s2.nx] 36)).alloc (.cells #[.int .i64 fe, .int .i64 fr, .int .i64 fc] 55)).alloc (.cells #[.int .i64 fe, .int .i64 fr, .int .i64 fc] 55)) := ((B3.alloc hs _).alloc (by rw [World.size_alloc]; omega) _).alloc (by rw [World.size_alloc, World.size_alloc]; omega) _
        go_upto_region 8 with (first | (at_builtin; go_loud (refine wpList_append_own _ rfl (.tmp 33) (.tmp 35) 74 rfl w.heap.size 55 i1 _ 3 24 Tryz.underlying74 hi1 hy0 hy1 hy2 rfl (by omega) (.slice Af kf cf) kf _ rfl (((h33.alloc _).alloc _).alloc _) ⟨w8.heap.size + 1 + 1, 0, none⟩ 1 1 [.int .i64 fe, .int .i64 fr, .int .i64 fc] rfl rfl three_cellsX three_oneF (by unfold maxLen; omega) (by omega) (by rw [World.size_alloc, World.size_alloc, World.size_alloc]; omega) ?_; intro v9 w9 hown9 hg9 _)) | fail)
        have Xn9 := Xn.grown hg9 (row_apart h3Y Xn (by decide))
        have X39 := X3a.grown hg9 (row_apart h3Y X3a (by decide))
        have X139 := X13a.grown hg9 (row_apart h3Y X13a (by decide))
        have h79 := World.ownsRow.kept h7a hg9 (row_row_apart h7a h3Y (by decide))
        have O69 := own_grown_row O6a h3Y (by decide) hg9
        have B9 := row_below h3Y B3a (by rw [World.size_alloc, World.size_alloc, World.size_alloc]; omega) hg9
        clear h3Y O6a Xn X3a X13a h7a B3a hg9 hown7 h33 X3 X13 O6 B3 hs
        obtain ⟨A9, c9, rfl⟩ := slice_of_row hown9
        generalize w8.heap.size = gn at *
        have h0l := X39.lt
        have hnl := Xn9.lt
        have Xn9k0 : w9.cell? ⟨gn, 0, none⟩ = some (.int .i64 (r : Int)) := (Xn9.cell 0).trans rfl; have Xn9k1 : w9.cell? ⟨gn, 1, none⟩ = some (.int .i64 (c : Int)) := (Xn9.cell 1).trans rfl; have Xn9k2 : w9.cell? ⟨gn, 2, none⟩ = some (.slice A6 l.length c6) := (Xn9.cell 2).trans rfl; have Xn9k3 : w9.cell? ⟨gn, 3, none⟩ = some (.int .i64 p) := (Xn9.cell 3).trans rfl; have Xn9k4 : w9.cell? ⟨gn, 4, none⟩ = some (.int .i64 q) := (Xn9.cell 4).trans rfl; have Xn9k5 : w9.cell? ⟨gn, 5, none⟩ = some (.int .i64 s2.bl) := (Xn9.cell 5).trans rfl
        have Xn9k6 : w9.cell? ⟨gn, 6, none⟩ = some (.int .i64 s2.rd) := (Xn9.cell 6).trans rfl; have Xn9k7 : w9.cell? ⟨gn, 7, none⟩ = some (.int .i64 s2.nx) := (Xn9.cell 7).trans rfl
        have X39k0 : w9.cell? ⟨w.heap.size, 0, none⟩ = some (.int .i64 (r : Int)) := (X39.cell 0).trans rfl; have X39k1 : w9.cell? ⟨w.heap.size, 1, none⟩ = some (.int .i64 (c : Int)) := (X39.cell 1).trans rfl; have X39k2 : w9.cell? ⟨w.heap.size, 2, none⟩ = some (.slice (some ⟨g5, 0, none⟩) l.length c5) := (X39.cell 2).trans rfl; have X39k3 : w9.cell? ⟨w.heap.size, 3, none⟩ = some (.int .i64 p) := (X39.cell 3).trans rfl; have X39k4 : w9.cell? ⟨w.heap.size, 4, none⟩ = some (.int .i64 q) := (X39.cell 4).trans rfl; have X39k5 : w9.cell? ⟨w.heap.size, 5, none⟩ = some (.int .i64 s.bl) := (X39.cell 5).trans rfl
        have X39k6 : w9.cell? ⟨w.heap.size, 6, none⟩ = some (.int .i64 s.rd) := (X39.cell 6).trans rfl; have X39k7 : w9.cell? ⟨w.heap.size, 7, none⟩ = some (.int .i64 s.nx) := (X39.cell 7).trans rfl
        have X39f0 := X39.frozen 0; have X39f1 := X39.frozen 1; have X39f2 := X39.frozen 2; have X39f3 := X39.frozen 3; have X39f4 := X39.frozen 4; have X39f5 := X39.frozen 5; have X39f6 := X39.frozen 6; have X39f7 := X39.frozen 7
        have n01 : w.heap.size ≠ w.heap.size + 1 := by omega
        go_wp2
        refine ⟨⟨s2, A6, c6, by rw [E0.out]; omega, HM2.out, HS2.out, ?_, ?_, X39.mset _ _ _ _ _ _ _ _, own_mset O69 X39 (by decide), N6w, X139.mset_far n01, below_mset B9 (Nat.le_refl _)⟩, ?_⟩
        · rw [E0'.out, E5.out, show ints (s.cs ++ [s.nx]) = ints s.cs ++ [.int .i64 s.nx] by simp [ints]]
          exact row_mset h79 (row_apart h79 X39 (by decide))
        · rw [E0.out, E6.out, flatF_app]
          exact row_mset hown9 (row_apart hown9 X39 (by decide))
        · simp [lenV]; omega
      · have HSs := Lib.hid ((runM_stop hc).symm.trans hS)
        clear hS
        have X0k0 : wr.cell? ⟨w.heap.size, 0, none⟩ = some (.int .i64 (r : Int)) := (X0.cell 0).trans rfl; have X0k1 : wr.cell? ⟨w.heap.size, 1, none⟩ = some (.int .i64 (c : Int)) := (X0.cell 1).trans rfl; have X0k2 : wr.cell? ⟨w.heap.size, 2, none⟩ = some (.slice A5 l.length c5) := (X0.cell 2).trans rfl; have X0k3 : wr.cell? ⟨w.heap.size, 3, none⟩ = some (.int .i64 p) := (X0.cell 3).trans rfl; have X0k4 : wr.cell? ⟨w.heap.size, 4, none⟩ = some (.int .i64 q) := (X0.cell 4).trans rfl; have X0k5 : wr.cell? ⟨w.heap.size, 5, none⟩ = some (.int .i64 s.bl) := (X0.cell 5).trans rfl
        have X0k6 : wr.cell? ⟨w.heap.size, 6, none⟩ = some (.int .i64 s.rd) := (X0.cell 6).trans rfl; have X0k7 : wr.cell? ⟨w.heap.size, 7, none⟩ = some (.int .i64 s.nx) := (X0.cell 7).trans rfl
        go_wp2_with fail
        refine (HC.out _).mono ?_; rintro e w2 ⟨rfl, b2⟩
        clear HC hlk
        clear X0k0 X0k1 X0k2 X0k3 X0k4 X0k5 X0k6 X0k7
        rewrite [hc]
        replace X0 := X0.below b2 X0.lt
        replace X1 := X1.below b2 X1.lt
        replace O5 := O5.keep b2
        replace h2 := row_keep h2 b2
        replace h3 := row_keep h3 b2
        replace B0 := B0.trans (b2.mono hs)
        clear b2 hs h0l h1l hc
        have HLk := Lib.hid hmk.len
        clear hmk
        have h0l := X0.lt
        have h1l := X1.lt
        have hne2 := row_apart h2 X1 (by decide)
        have hne3 := row_apart h3 X1 (by decide)
        obtain ⟨sl, sb, sr, sx, scs, sfs⟩ := s
        have X0k0 : w2.cell? ⟨w.heap.size, 0, none⟩ = some (.int .i64 (r : Int)) := (X0.cell 0).trans rfl; have X0k1 : w2.cell? ⟨w.heap.size, 1, none⟩ = some (.int .i64 (c : Int)) := (X0.cell 1).trans rfl; have X0k2 : w2.cell? ⟨w.heap.size, 2, none⟩ = some (.slice A5 l.length c5) := (X0.cell 2).trans rfl; have X0k3 : w2.cell? ⟨w.heap.size, 3, none⟩ = some (.int .i64 p) := (X0.cell 3).trans rfl; have X0k4 : w2.cell? ⟨w.heap.size, 4, none⟩ = some (.int .i64 q) := (X0.cell 4).trans rfl; have X0k5 : w2.cell? ⟨w.heap.size, 5, none⟩ = some (.int .i64 sb) := (X0.cell 5).trans rfl
        have X0k6 : w2.cell? ⟨w.heap.size, 6, none⟩ = some (.int .i64 sr) := (X0.cell 6).trans rfl; have X0k7 : w2.cell? ⟨w.heap.size, 7, none⟩ = some (.int .i64 sx) := (X0.cell 7).trans rfl
        have X1k0 : w2.cell? ⟨w.heap.size + 1, 0, none⟩ = some (.int .i64 0) := (X1.cell 0).trans rfl; have X1k1 : w2.cell? ⟨w.heap.size + 1, 1, none⟩ = some (.int .i64 0) := (X1.cell 1).trans rfl; have X1k2 : w2.cell? ⟨w.heap.size + 1, 2, none⟩ = some (.slice none 0 0) := (X1.cell 2).trans rfl; have X1k3 : w2.cell? ⟨w.heap.size + 1, 3, none⟩ = some (.int .i64 0) := (X1.cell 3).trans rfl; have X1k4 : w2.cell? ⟨w.heap.size + 1, 4, none⟩ = some (.int .i64 0) := (X1.cell 4).trans rfl; have X1k5 : w2.cell? ⟨w.heap.size + 1, 5, none⟩ = some (.int .i64 0) := (X1.cell 5).trans rfl
        have X1k6 : w2.cell? ⟨w.heap.size + 1, 6, none⟩ = some (.int .i64 0) := (X1.cell 6).trans rfl; have X1k7 : w2.cell? ⟨w.heap.size + 1, 7, none⟩ = some (.int .i64 0) := (X1.cell 7).trans rfl
        have X1f0 := X1.frozen 0; have X1f1 := X1.frozen 1; have X1f2 := X1.frozen 2; have X1f3 := X1.frozen 3; have X1f4 := X1.frozen 4; have X1f5 := X1.frozen 5; have X1f6 := X1.frozen 6; have X1f7 := X1.frozen 7
        go_wp2
        rewrite [mset_fold]; obtain ⟨v4, hv4⟩ : ∃ v4, v4 = mset w2 (w.heap.size + 1) (.int .i64 (r : Int)) (.int .i64 (c : Int)) (.slice A5 l.length c5) (.int .i64 p) (.int .i64 q) (.int .i64 sb) (.int .i64 sr) (.int .i64 sx) := ⟨_, rfl⟩; have Z1 : Whole v4 (w.heap.size + 1) 36 [.int .i64 (r : Int), .int .i64 (c : Int), .slice A5 l.length c5, .int .i64 p, .int .i64 q, .int .i64 sb, .int .i64 sr, .int .i64 sx] := (by rw [hv4]; exact Whole.mset X1 _ _ _ _ _ _ _ _)
        replace O5 : Own v4 A5 95 (flat sl) := by rw [hv4]; exact own_mset O5 X1 (by decide)
        replace h2 : v4.ownsRow w.heap.size 3 1 u7 scs.length (ints scs) := by rw [hv4]; exact row_mset h2 hne2
        replace h3 : v4.ownsRow w.heap.size 55 3 (.slice Af sfs.length cf) sfs.length (flatF sfs) := by rw [hv4]; exact row_mset h3 hne3
        replace B0 : Below w.heap.size w v4 := by rw [hv4]; exact below_mset B0 (by omega)
        clear X0k0 X0k1 X0k2 X0k3 X0k4 X0k5 X0k6 X0k7
        clear X1k0 X1k1 X1k2 X1k3 X1k4 X1k5 X1k6 X1k7
        clear X1f0 X1f1 X1f2 X1f3 X1f4 X1f5 X1f6 X1f7
        rewrite [← hv4]
        clear hv4 X1 X0 hne2 hne3
        have Z1k0 : v4.cell? ⟨w.heap.size + 1, 0, none⟩ = some (.int .i64 (r : Int)) := (Z1.cell 0).trans rfl; have Z1k1 : v4.cell? ⟨w.heap.size + 1, 1, none⟩ = some (.int .i64 (c : Int)) := (Z1.cell 1).trans rfl; have Z1k2 : v4.cell? ⟨w.heap.size + 1, 2, none⟩ = some (.slice A5 l.length c5) := (Z1.cell 2).trans rfl; have Z1k3 : v4.cell? ⟨w.heap.size + 1, 3, none⟩ = some (.int .i64 p) := (Z1.cell 3).trans rfl; have Z1k4 : v4.cell? ⟨w.heap.size + 1, 4, none⟩ = some (.int .i64 q) := (Z1.cell 4).trans rfl; have Z1k5 : v4.cell? ⟨w.heap.size + 1, 5, none⟩ = some (.int .i64 sb) := (Z1.cell 5).trans rfl; have Z1k6 : v4.cell? ⟨w.heap.size + 1, 6, none⟩ = some (.int .i64 sr) := (Z1.cell 6).trans rfl; have Z1k7 : v4.cell? ⟨w.heap.size + 1, 7, none⟩ = some (.int .i64 sx) := (Z1.cell 7).trans rfl
        refine bodyPost_ret (v := .tuple #[.agg #[.int .i64 (r : Int), .int .i64 (c : Int), .slice A5 l.length c5, .int .i64 p, .int .i64 q, .int .i64 sb, .int .i64 sr, .int .i64 sx], u7, .slice Af sfs.length cf]) ?_ rfl ?_; (focus (simp [results, Tryz.results37, go_sem, *]; done))
        rewrite [← HSs.out]
        exact PostG.mk (s := ⟨sl, sb, sr, sx, scs, sfs⟩) HLk.out O5 N5 h2 h3 B0
    · have HSs := Lib.hid (show s = S by rw [← hS, show n - s.fs.length = 0 by omega]; rfl)
      clear hS hs h0l h1l
      have HLk := Lib.hid hmk.len
      clear hmk
      have h0l := X0.lt
      have h1l := X1.lt
      have hne2 := row_apart h2 X1 (by decide)
      have hne3 := row_apart h3 X1 (by decide)
      obtain ⟨sl, sb, sr, sx, scs, sfs⟩ := s
      have X0k0 : wr.cell? ⟨w.heap.size, 0, none⟩ = some (.int .i64 (r : Int)) := (X0.cell 0).trans rfl; have X0k1 : wr.cell? ⟨w.heap.size, 1, none⟩ = some (.int .i64 (c : Int)) := (X0.cell 1).trans rfl; have X0k2 : wr.cell? ⟨w.heap.size, 2, none⟩ = some (.slice A5 l.length c5) := (X0.cell 2).trans rfl; have X0k3 : wr.cell? ⟨w.heap.size, 3, none⟩ = some (.int .i64 p) := (X0.cell 3).trans rfl; have X0k4 : wr.cell? ⟨w.heap.size, 4, none⟩ = some (.int .i64 q) := (X0.cell 4).trans rfl; have X0k5 : wr.cell? ⟨w.heap.size, 5, none⟩ = some (.int .i64 sb) := (X0.cell 5).trans rfl
      have X0k6 : wr.cell? ⟨w.heap.size, 6, none⟩ = some (.int .i64 sr) := (X0.cell 6).trans rfl; have X0k7 : wr.cell? ⟨w.heap.size, 7, none⟩ = some (.int .i64 sx) := (X0.cell 7).trans rfl
      have X1k0 : wr.cell? ⟨w.heap.size + 1, 0, none⟩ = some (.int .i64 0) := (X1.cell 0).trans rfl; have X1k1 : wr.cell? ⟨w.heap.size + 1, 1, none⟩ = some (.int .i64 0) := (X1.cell 1).trans rfl; have X1k2 : wr.cell? ⟨w.heap.size + 1, 2, none⟩ = some (.slice none 0 0) := (X1.cell 2).trans rfl; have X1k3 : wr.cell? ⟨w.heap.size + 1, 3, none⟩ = some (.int .i64 0) := (X1.cell 3).trans rfl; have X1k4 : wr.cell? ⟨w.heap.size + 1, 4, none⟩ = some (.int .i64 0) := (X1.cell 4).trans rfl; have X1k5 : wr.cell? ⟨w.heap.size + 1, 5, none⟩ = some (.int .i64 0) := (X1.cell 5).trans rfl
      have X1k6 : wr.cell? ⟨w.heap.size + 1, 6, none⟩ = some (.int .i64 0) := (X1.cell 6).trans rfl; have X1k7 : wr.cell? ⟨w.heap.size + 1, 7, none⟩ = some (.int .i64 0) := (X1.cell 7).trans rfl
      have X1f0 := X1.frozen 0; have X1f1 := X1.frozen 1; have X1f2 := X1.frozen 2; have X1f3 := X1.frozen 3; have X1f4 := X1.frozen 4; have X1f5 := X1.frozen 5; have X1f6 := X1.frozen 6; have X1f7 := X1.frozen 7
      go_wp2
      rewrite [mset_fold]; obtain ⟨v4, hv4⟩ : ∃ v4, v4 = mset wr (w.heap.size + 1) (.int .i64 (r : Int)) (.int .i64 (c : Int)) (.slice A5 l.length c5) (.int .i64 p) (.int .i64 q) (.int .i64 sb) (.int .i64 sr) (.int .i64 sx) := ⟨_, rfl⟩; have Z1 : Whole v4 (w.heap.size + 1) 36 [.int .i64 (r : Int), .int .i64 (c : Int), .slice A5 l.length c5, .int .i64 p, .int .i64 q, .int .i64 sb, .int .i64 sr, .int .i64 sx] := (by rw [hv4]; exact Whole.mset X1 _ _ _ _ _ _ _ _)
      replace O5 : Own v4 A5 95 (flat sl) := by rw [hv4]; exact own_mset O5 X1 (by decide)
      replace h2 : v4.ownsRow w.heap.size 3 1 u7 scs.length (ints scs) := by rw [hv4]; exact row_mset h2 hne2
      replace h3 : v4.ownsRow w.heap.size 55 3 (.slice Af sfs.length cf) sfs.length (flatF sfs) := by rw [hv4]; exact row_mset h3 hne3
      replace B0 : Below w.heap.size w v4 := by rw [hv4]; exact below_mset B0 (by omega)
      clear X0k0 X0k1 X0k2 X0k3 X0k4 X0k5 X0k6 X0k7
      clear X1k0 X1k1 X1k2 X1k3 X1k4 X1k5 X1k6 X1k7
      clear X1f0 X1f1 X1f2 X1f3 X1f4 X1f5 X1f6 X1f7
      rewrite [← hv4]
      clear hv4 X1 X0 hne2 hne3
      have Z1k0 : v4.cell? ⟨w.heap.size + 1, 0, none⟩ = some (.int .i64 (r : Int)) := (Z1.cell 0).trans rfl; have Z1k1 : v4.cell? ⟨w.heap.size + 1, 1, none⟩ = some (.int .i64 (c : Int)) := (Z1.cell 1).trans rfl; have Z1k2 : v4.cell? ⟨w.heap.size + 1, 2, none⟩ = some (.slice A5 l.length c5) := (Z1.cell 2).trans rfl; have Z1k3 : v4.cell? ⟨w.heap.size + 1, 3, none⟩ = some (.int .i64 p) := (Z1.cell 3).trans rfl; have Z1k4 : v4.cell? ⟨w.heap.size + 1, 4, none⟩ = some (.int .i64 q) := (Z1.cell 4).trans rfl; have Z1k5 : v4.cell? ⟨w.heap.size + 1, 5, none⟩ = some (.int .i64 sb) := (Z1.cell 5).trans rfl; have Z1k6 : v4.cell? ⟨w.heap.size + 1, 6, none⟩ = some (.int .i64 sr) := (Z1.cell 6).trans rfl; have Z1k7 : v4.cell? ⟨w.heap.size + 1, 7, none⟩ = some (.int .i64 sx) := (Z1.cell 7).trans rfl
      refine bodyPost_ret (v := .tuple #[.agg #[.int .i64 (r : Int), .int .i64 (c : Int), .slice A5 l.length c5, .int .i64 p, .int .i64 q, .int .i64 sb, .int .i64 sr, .int .i64 sx], u7, .slice Af sfs.length cf]) ?_ rfl ?_; (focus (simp [results, Tryz.results37, go_sem, *]; done))
      rewrite [← HSs.out]
      exact PostG.mk (s := ⟨sl, sb, sr, sx, scs, sfs⟩) HLk.out O5 N5 h2 h3 B0
end Go.Proofs.YtlambflmabecfaaGreat
