/- flHas, flRun, the model's. -/
import Derived.Deep.RegionHeld3
import Derived.Deep.DeepCutAuto
import Derived.Test.YtoflhjekldlaiaaGo
namespace Go.Proofs.Ytoflhjekldlaiaa
open Go.ChangeShapes Go.WideShapes Go.ChangeAt Go.RowKit Go.Joins Go.Deep
set_option linter.unusedSimpArgs false
set_option linter.unusedVariables false
set_option maxRecDepth 100000
set_option maxHeartbeats 4000000
def okF (R C : Int) (l : List (Int × Int)) (j : Int) : Bool := goodB R C l && decide (0 ≤ j ∧ j < C)
def marO (R C : Int) (l : List (Int × Int)) (j : Int) : FlR := flG (numL C.toNat l) R.toNat C.toNat R.toNat 0 l j.toNat 0 []
theorem spec_flHas (R C : Int) (A : Option Addr) (cap : Nat) (l : List (Int × Int)) (j : Int) (w : World) (hn : l.length ≤ 1048576) (hr : Rd w w.heap.size A (flat l)) :
    Calls Try.prog 50 #[.agg #[.int .i64 R, .int .i64 C, .slice A l.length cap], .int .i64 j] w fun e w' => e = .returned (.bool (okF R C l j)) ∧ Below w.heap.size w w' := by
  unfold okF
  rcases Bool.eq_false_or_eq_true (goodB R C l) with hg | hg
  · have HG := Lib.hid hg
    obtain ⟨s1, s2, s3, s4⟩ := sizeB_iff.1 (goodB_iff.1 hg).1
    rw [hg]
    clear hg
    have m1 : IntKind.i64.wrap (C - 1) = C - 1 := IntWalk.i64_in _ (by omega)
    have HE := Lib.hid (show (true && decide (0 ≤ j ∧ j < C)) = (decide (0 ≤ j) && decide (j ≤ C - 1)) by rw [Bool.true_and, Bool.eq_iff_iff]; simp; omega)
    go_enter Try.func50, Try.ntmps50
    obtain ⟨v0, hv0⟩ : ∃ v, v = w.alloc (.cells #[.int .i64 R, .int .i64 C, .slice A l.length cap] 32) := ⟨_, rfl⟩; have X0 : Whole v0 w.heap.size 32 [.int .i64 R, .int .i64 C, .slice A l.length cap] := (by rw [hv0]; exact heap_alloc_new w _); have hb : Below w.heap.size w v0 := (by rw [hv0]; exact (Below.refl _ _).alloc (Nat.le_refl _) _); have HV := Lib.hid hv0.symm; clear hv0; go_upto_region 1 with (fail); rewrite [HV.out]; clear HV; have X0k0 : v0.cell? ⟨w.heap.size, 0, none⟩ = some (.int .i64 R) := (X0.cell 0).trans rfl; have X0k1 : v0.cell? ⟨w.heap.size, 1, none⟩ = some (.int .i64 C) := (X0.cell 1).trans rfl; have X0k2 : v0.cell? ⟨w.heap.size, 2, none⟩ = some (.slice A l.length cap) := (X0.cell 2).trans rfl
    go_wp2_with fail
    refine (spec_boGood _ _ _ _ l _ hn ((hr.below hb).mono hb.size)).mono ?_; rintro e w1 ⟨rfl, b1⟩
    rewrite [HG.out]
    (clear X0k0 X0k1 X0k2; replace X0 := X0.below b1 X0.lt; replace hb := hb.trans (b1.mono hb.size); clear b1; have X0k0 : w1.cell? ⟨w.heap.size, 0, none⟩ = some (.int .i64 R) := (X0.cell 0).trans rfl; have X0k1 : w1.cell? ⟨w.heap.size, 1, none⟩ = some (.int .i64 C) := (X0.cell 1).trans rfl; have X0k2 : w1.cell? ⟨w.heap.size, 2, none⟩ = some (.slice A l.length cap) := (X0.cell 2).trans rfl)
    go_wp2_with fail
    refine (spec_l1In _ _ _ _).mono ?_; rintro e w2 ⟨rfl, rfl⟩
    go_wp2
    go_returns
    exact ⟨by rw [HE.out]; rfl, by (repeat' (first | (with_reducible exact Below.refl _ _) | (with_reducible assumption) | (with_reducible refine Below.alloc ?_ ?_ _) | (with_reducible refine Below.setCell ?_ ?_ _) | (with_reducible refine Below.drew ?_) | (with_reducible refine below_drewN ?_ _) | (with_reducible refine Below.trans ?_ (Below.mono (by assumption) ?_)) | (with_reducible exact Nat.le_refl _) | (simp; done) | omega | (simp at *; omega)))⟩
  · have HG := Lib.hid hg
    rw [hg]
    clear hg
    go_enter Try.func50, Try.ntmps50
    obtain ⟨v0, hv0⟩ : ∃ v, v = w.alloc (.cells #[.int .i64 R, .int .i64 C, .slice A l.length cap] 32) := ⟨_, rfl⟩; have X0 : Whole v0 w.heap.size 32 [.int .i64 R, .int .i64 C, .slice A l.length cap] := (by rw [hv0]; exact heap_alloc_new w _); have hb : Below w.heap.size w v0 := (by rw [hv0]; exact (Below.refl _ _).alloc (Nat.le_refl _) _); have HV := Lib.hid hv0.symm; clear hv0; go_upto_region 1 with (fail); rewrite [HV.out]; clear HV; have X0k0 : v0.cell? ⟨w.heap.size, 0, none⟩ = some (.int .i64 R) := (X0.cell 0).trans rfl; have X0k1 : v0.cell? ⟨w.heap.size, 1, none⟩ = some (.int .i64 C) := (X0.cell 1).trans rfl; have X0k2 : v0.cell? ⟨w.heap.size, 2, none⟩ = some (.slice A l.length cap) := (X0.cell 2).trans rfl
    go_wp2_with fail
    refine (spec_boGood _ _ _ _ l _ hn ((hr.below hb).mono hb.size)).mono ?_; rintro e w1 ⟨rfl, b1⟩
    rewrite [HG.out]
    (clear X0k0 X0k1 X0k2; replace X0 := X0.below b1 X0.lt; replace hb := hb.trans (b1.mono hb.size); clear b1; have X0k0 : w1.cell? ⟨w.heap.size, 0, none⟩ = some (.int .i64 R) := (X0.cell 0).trans rfl; have X0k1 : w1.cell? ⟨w.heap.size, 1, none⟩ = some (.int .i64 C) := (X0.cell 1).trans rfl; have X0k2 : w1.cell? ⟨w.heap.size, 2, none⟩ = some (.slice A l.length cap) := (X0.cell 2).trans rfl)
    go_wp2
    go_returns
    exact ⟨rfl, by (repeat' (first | (with_reducible exact Below.refl _ _) | (with_reducible assumption) | (with_reducible refine Below.alloc ?_ ?_ _) | (with_reducible refine Below.setCell ?_ ?_ _) | (with_reducible refine Below.drew ?_) | (with_reducible refine below_drewN ?_ _) | (with_reducible refine Below.trans ?_ (Below.mono (by assumption) ?_)) | (with_reducible exact Nat.le_refl _) | (simp; done) | omega | (simp at *; omega)))⟩
theorem three_far {w : World} {g a : Nat} {t : TypeId} {xs : List Value} {u0 u1 u2 : Value} (h : Whole w g t xs) (ne : a ≠ g) : Whole (((w.setCell ⟨a, 0, none⟩ u0).setCell ⟨a, 1, none⟩ u1).setCell ⟨a, 2, none⟩ u2) g t xs :=
  ((h.set_far ⟨a, 0, none⟩ u0 ne).set_far ⟨a, 1, none⟩ u1 ne).set_far ⟨a, 2, none⟩ u2 ne
theorem own_three {w : World} {a : Nat} {A : Option Addr} {t t' : TypeId} {xs : List Value} {p q s u0 u1 u2 : Value} (h : Own w A t xs) (hw : Whole w a t' [p, q, s]) (hne : t ≠ t') : Own (((w.setCell ⟨a, 0, none⟩ u0).setCell ⟨a, 1, none⟩ u1).setCell ⟨a, 2, none⟩ u2) A t xs := by
  have gb : ∀ {v : World} {j : Nat} {u : Value}, v.grownBy (v.setCell ⟨a, j, none⟩ u) (some a) := fun {v j u} => ⟨rfl, rfl, rfl, by rw [World.size_setCell]; exact Nat.le_refl _, fun k _ hk => Below.heap_setCell _ _ _ _ (fun e => hk (by rw [e]))⟩
  exact ((h.apart hw hne gb).apart (hw.set 0 u0) hne gb).apart ((hw.set 0 u0).set 1 u1) hne gb
theorem LRow.alloc {w : World} {base : Nat} {v : Value} {L : List (List Nat)} (h : LRow w base v L) (o : Obj) : LRow (w.alloc o) base v L := h.keep ((Below.refl _ _).alloc (Nat.le_refl _) _)
theorem Own.alloc_ {w : World} {A : Option Addr} {t : TypeId} {xs : List Value} (h : Own w A t xs) (o : Obj) : Own (w.alloc o) A t xs := h.keep ((Below.refl _ _).alloc (Nat.le_refl _) _)
theorem newB {w w1 : World} {t : TypeId} {xs : List Value} (b : Below (w.alloc (.cells xs.toArray t)).heap.size (w.alloc (.cells xs.toArray t)) w1) : Whole w1 w.heap.size t xs :=
  Whole.below (heap_alloc_new w _) b (by rw [World.size_alloc]; omega)
theorem newB2 {w w1 : World} {o : Obj} {t : TypeId} {xs : List Value} (b : Below ((w.alloc (.cells xs.toArray t)).alloc o).heap.size ((w.alloc (.cells xs.toArray t)).alloc o) w1) : Whole w1 w.heap.size t xs :=
  Whole.below (Whole.alloc (heap_alloc_new w _) o) b (by rw [World.size_alloc, World.size_alloc]; omega)
theorem newW3 {w : World} {a : Nat} {u0 u1 u2 : Value} {t : TypeId} {xs : List Value} : Whole ((((w.setCell ⟨a, 0, none⟩ u0).setCell ⟨a, 1, none⟩ u1).setCell ⟨a, 2, none⟩ u2).alloc (.cells xs.toArray t)) w.heap.size t xs := by
  have h := heap_alloc_new (((w.setCell ⟨a, 0, none⟩ u0).setCell ⟨a, 1, none⟩ u1).setCell ⟨a, 2, none⟩ u2) (.cells xs.toArray t)
  rw [World.size_setCell, World.size_setCell, World.size_setCell] at h
  exact h
theorem own_threeF {w : World} {a : Nat} {A : Option Addr} {xs : List Value} {u0 u1 : Value} {x : Int} (h : Own w A 92 xs) (hw : Whole w a 27 [.int .i64 0, .int .i64 0, .int .i64 0]) : Own (((w.setCell ⟨a, 0, none⟩ u0).setCell ⟨a, 1, none⟩ u1).setCell ⟨a, 2, none⟩ (.int .i64 x)) A 92 xs := own_three h hw (by decide)
theorem own_threeB {w : World} {a : Nat} {A B : Option Addr} {n cp : Nat} {xs : List Value} {u0 u1 : Value} (h : Own w A 92 xs) (hw : Whole w a 32 [.int .i64 0, .int .i64 0, .slice none 0 0]) : Own (((w.setCell ⟨a, 0, none⟩ u0).setCell ⟨a, 1, none⟩ u1).setCell ⟨a, 2, none⟩ (.slice B n cp)) A 92 xs := own_three h hw (by decide)
theorem lrow_threeF {w : World} {base a : Nat} {v : Value} {L : List (List Nat)} {u0 u1 : Value} {x : Int} (h : LRow w base v L) (hw : Whole w a 27 [.int .i64 0, .int .i64 0, .int .i64 0]) : LRow (((w.setCell ⟨a, 0, none⟩ u0).setCell ⟨a, 1, none⟩ u1).setCell ⟨a, 2, none⟩ (.int .i64 x)) base v L := three_lrow h hw (by decide) (by decide)
theorem lrow_threeB {w : World} {base a : Nat} {v : Value} {L : List (List Nat)} {B : Option Addr} {n cp : Nat} {u0 u1 : Value} (h : LRow w base v L) (hw : Whole w a 32 [.int .i64 0, .int .i64 0, .slice none 0 0]) : LRow (((w.setCell ⟨a, 0, none⟩ u0).setCell ⟨a, 1, none⟩ u1).setCell ⟨a, 2, none⟩ (.slice B n cp)) base v L := three_lrow h hw (by decide) (by decide)
theorem wh_threeF {w : World} {g : Nat} {u0 u1 : Value} {x : Int} (h : Whole w g 27 [.int .i64 0, .int .i64 0, .int .i64 0]) : Whole (((w.setCell ⟨g, 0, none⟩ u0).setCell ⟨g, 1, none⟩ u1).setCell ⟨g, 2, none⟩ (.int .i64 x)) g 27 [u0, u1, .int .i64 x] := whole_three h
theorem wh_threeB {w : World} {g : Nat} {B : Option Addr} {n cp : Nat} {u0 u1 : Value} (h : Whole w g 32 [.int .i64 0, .int .i64 0, .slice none 0 0]) : Whole (((w.setCell ⟨g, 0, none⟩ u0).setCell ⟨g, 1, none⟩ u1).setCell ⟨g, 2, none⟩ (.slice B n cp)) g 32 [u0, u1, .slice B n cp] := whole_three h
theorem newD {w w1 : World} {t : TypeId} {xs : List Value} (b : Below (w.alloc (.cells xs.toArray t)).drew.heap.size (w.alloc (.cells xs.toArray t)).drew w1) : Whole w1 w.heap.size t xs :=
  Whole.below (w := (w.alloc (.cells xs.toArray t)).drew) (heap_alloc_new w _) b (by show _ < (w.alloc _).heap.size; rw [World.size_alloc]; omega)
theorem newD2 {w w1 : World} {o : Obj} {t : TypeId} {xs : List Value} (b : Below ((w.alloc (.cells xs.toArray t)).alloc o).drew.heap.size ((w.alloc (.cells xs.toArray t)).alloc o).drew w1) : Whole w1 w.heap.size t xs :=
  Whole.below (w := ((w.alloc (.cells xs.toArray t)).alloc o).drew) (Whole.alloc (heap_alloc_new w _) o) b (by show _ < ((w.alloc _).alloc _).heap.size; rw [World.size_alloc, World.size_alloc]; omega)
theorem newW {w : World} {t : TypeId} {xs : List Value} : Whole (w.alloc (.cells xs.toArray t)) w.heap.size t xs := heap_alloc_new w _
theorem newW1 {w : World} {o : Obj} {t : TypeId} {xs : List Value} : Whole ((w.alloc o).alloc (.cells xs.toArray t)) (w.heap.size + 1) t xs := by
  have h := heap_alloc_new (w.alloc o) (.cells xs.toArray t)
  rw [World.size_alloc] at h
  exact h
theorem oldB {w w1 : World} {g : Nat} {t : TypeId} {xs : List Value} (h : Whole w g t xs) (b : Below w.heap.size w w1) : Whole w1 g t xs := h.below b h.lt
theorem oldA {w w1 : World} {g : Nat} {o : Obj} {t : TypeId} {xs : List Value} (h : Whole w g t xs) (b : Below (w.alloc o).heap.size (w.alloc o) w1) : Whole w1 g t xs := (h.alloc o).below b (h.alloc o).lt
theorem spec_flRun (r c b o cap : Nat) (l : List (Int × Int)) (col : Nat) (w : World) (hgd : goodB (r : Int) (c : Int) l = true) (hr : Rd w w.heap.size (some ⟨b, o, none⟩) (flat l)) (hcol : col < c) :
    Calls Try.prog 51 #[.agg #[.int .i64 (r : Int), .int .i64 (c : Int), .slice (some ⟨b, o, none⟩) l.length cap], .int .i64 (col : Int)] w
      fun e w' => ∃ A5 c5, e = .returned (.tuple #[.agg #[.int .i64 (marO r c l col).e, .int .i64 (marO r c l col).row, .int .i64 (marO r c l col).col], .agg #[.int .i64 (r : Int), .int .i64 (c : Int), .slice A5 l.length c5]]) ∧
        Own w' A5 92 (flat (marO r c l col).cells) ∧ New w A5 ∧ Below w.heap.size w w' := by
  obtain ⟨r', c', er, ec, hG⟩ := geo_of hgd
  obtain rfl : r = r' := by omega
  obtain rfl : c = c' := by omega
  have hpos := (goodB_parts hgd).2.2
  have HG := Lib.hid hG
  have HGd := Lib.hid hgd
  have hM : marO r c l col = flG (numL c l) r c r 0 l col 0 [] := rfl
  rw [hM]
  have HNl := Lib.hid (numL_len c l)
  clear hG hgd hM er ec
  go_enter Try.func51, Try.ntmps51
  obtain ⟨v0, hv0, X0, X1, X2, B0, hz0⟩ := three_boxes w [.int .i64 (r : Int), .int .i64 (c : Int), .slice (some ⟨b, o, none⟩) l.length cap] 32 [.int .i64 0, .int .i64 0, .int .i64 0] 27 [.int .i64 0, .int .i64 0, .slice none 0 0] 32; have HV := Lib.hid hv0; have hx : w.heap.size + 1 + 1 < v0.heap.size := (by omega); have hz : w.heap.size + 1 < v0.heap.size := (by omega); have hy : w.heap.size < v0.heap.size := (by omega); have hb0 := B0.size; clear hv0 hz0; go_wp2_with fail; rewrite [show ((w.alloc (.cells ([.int .i64 (r : Int), .int .i64 (c : Int), .slice (some ⟨b, o, none⟩) l.length cap] : List Value).toArray 32)).alloc (.cells ([.int .i64 0, .int .i64 0, .int .i64 0] : List Value).toArray 27)).alloc (.cells ([.int .i64 0, .int .i64 0, .slice none 0 0] : List Value).toArray 32) = v0 from HV.out]; clear HV
  have hb9 : b < w.heap.size := by
    obtain ⟨b', o', e0, h1, _⟩ := hr (by rw [flat_length]; omega)
    cases e0
    exact h1
  have k0 : v0.cell? ⟨w.heap.size, 0, none⟩ = some (.int .i64 (r : Int)) := (X0.cell 0).trans rfl
  have k1 : v0.cell? ⟨w.heap.size, 1, none⟩ = some (.int .i64 (c : Int)) := (X0.cell 1).trans rfl
  have k2 : v0.cell? ⟨w.heap.size, 2, none⟩ = some (.slice (some ⟨b, o, none⟩) l.length cap) := (X0.cell 2).trans rfl
  have KS := Lib.hid (fun (w' : World) (h : Below v0.heap.size v0 w') => (⟨(h.cell (p := ⟨w.heap.size, 0, none⟩) hy).trans k0, (h.cell (p := ⟨w.heap.size, 1, none⟩) hy).trans k1, (h.cell (p := ⟨w.heap.size, 2, none⟩) hy).trans k2⟩ : w'.cell? ⟨w.heap.size, 0, none⟩ = some (.int .i64 (r : Int)) ∧ w'.cell? ⟨w.heap.size, 1, none⟩ = some (.int .i64 (c : Int)) ∧ w'.cell? ⟨w.heap.size, 2, none⟩ = some (.slice (some ⟨b, o, none⟩) l.length cap)))
  go_cut [6, 7, 8] (fun z y v wx => ∃ (gf gb : Nat) (A : Option Addr) (c5 : Nat), z = .pointer (some ⟨gf, 0, none⟩) ∧ y = .pointer (some ⟨gb, 0, none⟩) ∧ v0.heap.size ≤ gf ∧ v0.heap.size ≤ gb ∧ Whole wx gf 27 [.int .i64 (flG (numL c l) r c r 0 l col 0 []).e, .int .i64 (flG (numL c l) r c r 0 l col 0 []).row, .int .i64 (flG (numL c l) r c r 0 l col 0 []).col] ∧ Whole wx gb 32 [.int .i64 (r : Int), .int .i64 (c : Int), .slice A l.length c5] ∧ Own wx A 92 (flat (flG (numL c l) r c r 0 l col 0 []).cells) ∧ New v0 A ∧ LRow wx v0.heap.size v (flG (numL c l) r c r 0 l col 0 []).way ∧ Below v0.heap.size v0 wx)
  case first =>
    (go_region_held3 (fun w' => w'.cell? ⟨w.heap.size, 0, none⟩ = some (.int .i64 (r : Int)) ∧ w'.cell? ⟨w.heap.size, 1, none⟩ = some (.int .i64 (c : Int)) ∧ w'.cell? ⟨w.heap.size, 2, none⟩ = some (.slice (some ⟨b, o, none⟩) l.length cap)) (exact KS.out _ (by (repeat' (first | (with_reducible exact Below.refl _ _) | (with_reducible assumption) | (with_reducible refine Below.alloc ?_ ?_ _) | (with_reducible refine Below.setCell ?_ ?_ _) | (with_reducible refine Below.drew ?_) | (with_reducible refine below_drewN ?_ _) | (with_reducible refine Below.trans ?_ (Below.mono (by assumption) ?_)) | go_size)))) ((first | (go_at_call 61; (with_reducible refine (spec_ggGroups r c (some ⟨b, o, none⟩) cap l _ HG.out ?_).mono ?_); (focus exact (hr.below (B0.trans ((by (repeat' (first | (with_reducible exact Below.refl _ _) | (with_reducible assumption) | (with_reducible refine Below.alloc ?_ ?_ _) | (with_reducible refine Below.setCell ?_ ?_ _) | (with_reducible refine Below.drew ?_) | (with_reducible refine below_drewN ?_ _) | (with_reducible refine Below.trans ?_ (Below.mono (by assumption) ?_)) | go_size)) : Below v0.heap.size v0 _).mono B0.size))).mono (Nat.le_trans B0.size (by (repeat' (first | (with_reducible exact Below.refl _ _) | (with_reducible assumption) | (with_reducible refine Below.alloc ?_ ?_ _) | (with_reducible refine Below.setCell ?_ ?_ _) | (with_reducible refine Below.drew ?_) | (with_reducible refine below_drewN ?_ _) | (with_reducible refine Below.trans ?_ (Below.mono (by assumption) ?_)) | go_size)) : Below v0.heap.size v0 _).size)); rintro e w1 hP; obtain ⟨A6, c6, rfl, o6, n6, bT⟩ := hP.value; clear hP; obtain ⟨g6, rest6, rfl, X6⟩ := o6 (by rw [ints_length, HNl.out]; exact hpos); clear o6 n6; have sT : v0.heap.size ≤ w1.heap.size := (by (repeat' (first | (with_reducible exact Below.refl _ _) | (with_reducible assumption) | (with_reducible refine Below.alloc ?_ ?_ _) | (with_reducible refine Below.setCell ?_ ?_ _) | (with_reducible refine Below.drew ?_) | (with_reducible refine below_drewN ?_ _) | (with_reducible refine Below.trans ?_ (Below.mono (by assumption) ?_)) | go_size)) : Below v0.heap.size v0 w1).size; (first | have zf := newB (t := 27) (xs := [.int .i64 0, .int .i64 0, .int .i64 0]) bT | have zf := newB2 (t := 27) (xs := [.int .i64 0, .int .i64 0, .int .i64 0]) bT | have zf := newD (t := 27) (xs := [.int .i64 0, .int .i64 0, .int .i64 0]) bT | have zf := newD2 (t := 27) (xs := [.int .i64 0, .int .i64 0, .int .i64 0]) bT | skip); (first | have zb := newB (t := 32) (xs := [.int .i64 0, .int .i64 0, .slice none 0 0]) bT | have zb := newB2 (t := 32) (xs := [.int .i64 0, .int .i64 0, .slice none 0 0]) bT | have zb := newD (t := 32) (xs := [.int .i64 0, .int .i64 0, .slice none 0 0]) bT | have zb := newD2 (t := 32) (xs := [.int .i64 0, .int .i64 0, .slice none 0 0]) bT | skip); (try rw [World.size_alloc] at zf); (try rw [World.size_alloc] at zb); (try replace zf : Whole w1 v0.heap.size _ _ := zf); (try replace zb : Whole w1 v0.heap.size _ _ := zb); (try replace zf : Whole w1 (v0.heap.size + 1) _ _ := zf); (try replace zb : Whole w1 (v0.heap.size + 1) _ _ := zb); (first | have hzf1 := zf.lt | skip); (first | have hzb1 := zb.lt | skip); (try have nA1 : v0.heap.size ≠ w1.heap.size := by omega); (try have nA2 : w1.heap.size ≠ v0.heap.size := by omega)) | (go_at_call 60; (with_reducible refine (spec_flGo r c b o cap g6 c6 l (numL c l) rest6 col _ HG.out HGd.out ?_ (numL_len c l) ?_ hcol).mono ?_); (focus exact (hr.below (B0.trans ((by (repeat' (first | (with_reducible exact Below.refl _ _) | (with_reducible assumption) | (with_reducible refine Below.alloc ?_ ?_ _) | (with_reducible refine Below.setCell ?_ ?_ _) | (with_reducible refine Below.drew ?_) | (with_reducible refine below_drewN ?_ _) | (with_reducible refine Below.trans ?_ (Below.mono (by assumption) ?_)) | go_size)) : Below v0.heap.size v0 _).mono B0.size))).mono (Nat.le_trans B0.size (by (repeat' (first | (with_reducible exact Below.refl _ _) | (with_reducible assumption) | (with_reducible refine Below.alloc ?_ ?_ _) | (with_reducible refine Below.setCell ?_ ?_ _) | (with_reducible refine Below.drew ?_) | (with_reducible refine below_drewN ?_ _) | (with_reducible refine Below.trans ?_ (Below.mono (by assumption) ?_)) | go_size)) : Below v0.heap.size v0 _).size)); (focus exact X6.below (by (repeat' (first | (with_reducible exact Below.refl _ _) | (with_reducible assumption) | (with_reducible refine Below.alloc ?_ ?_ _) | (with_reducible refine Below.setCell ?_ ?_ _) | (with_reducible refine Below.drew ?_) | (with_reducible refine below_drewN ?_ _) | (with_reducible refine Below.trans ?_ (Below.mono (by assumption) ?_)) | go_size)) : Below w1.heap.size w1 _) X6.lt); rintro e w2 ⟨A5, c5, v5, rfl, O5, N5, L5, bF⟩; replace N5 : New v0 A5 := N5.mono (by (repeat' (first | (with_reducible exact Below.refl _ _) | (with_reducible assumption) | (with_reducible refine Below.alloc ?_ ?_ _) | (with_reducible refine Below.setCell ?_ ?_ _) | (with_reducible refine Below.drew ?_) | (with_reducible refine below_drewN ?_ _) | (with_reducible refine Below.trans ?_ (Below.mono (by assumption) ?_)) | go_size)) : Below v0.heap.size v0 _).size; replace L5 := L5.mono (by (repeat' (first | (with_reducible exact Below.refl _ _) | (with_reducible assumption) | (with_reducible refine Below.alloc ?_ ?_ _) | (with_reducible refine Below.setCell ?_ ?_ _) | (with_reducible refine Below.drew ?_) | (with_reducible refine below_drewN ?_ _) | (with_reducible refine Below.trans ?_ (Below.mono (by assumption) ?_)) | go_size)) : Below v0.heap.size v0 _).size; have sF : w1.heap.size ≤ w2.heap.size := (by (repeat' (first | (with_reducible exact Below.refl _ _) | (with_reducible assumption) | (with_reducible refine Below.alloc ?_ ?_ _) | (with_reducible refine Below.setCell ?_ ?_ _) | (with_reducible refine Below.drew ?_) | (with_reducible refine below_drewN ?_ _) | (with_reducible refine Below.trans ?_ (Below.mono (by assumption) ?_)) | go_size)) : Below w1.heap.size w1 w2).size; (first | have zf := oldB zf bF | have zf := oldA zf bF | have zf := newB (t := 27) (xs := [.int .i64 0, .int .i64 0, .int .i64 0]) bF | have zf := newB2 (t := 27) (xs := [.int .i64 0, .int .i64 0, .int .i64 0]) bF | skip); (first | have zb := oldB zb bF | have zb := oldA zb bF | have zb := newB (t := 32) (xs := [.int .i64 0, .int .i64 0, .slice none 0 0]) bF | have zb := newB2 (t := 32) (xs := [.int .i64 0, .int .i64 0, .slice none 0 0]) bF | skip); (try rw [World.size_alloc] at zf); (try rw [World.size_alloc] at zb); (try have nB1 : w1.heap.size ≠ w2.heap.size := by (first | (have h1 := zf.lt; omega) | (have h1 := zb.lt; omega))); (try have nB2 : w2.heap.size ≠ w1.heap.size := by omega); (try have nC1 : v0.heap.size ≠ w2.heap.size := by (first | (have h1 := zf.lt; omega) | (have h1 := zb.lt; omega))); (try have nC2 : w2.heap.size ≠ v0.heap.size := by omega); (first | (have hzf2 := zf.lt; have qf0 := (zf.cell 0).trans rfl; have qf1 := (zf.cell 1).trans rfl; have qf2 := (zf.cell 2).trans rfl; have rf0 := zf.frozen 0; have rf1 := zf.frozen 1; have rf2 := zf.frozen 2) | skip); (first | (have hzb2 := zb.lt; have qb0 := (zb.cell 0).trans rfl; have qb1 := (zb.cell 1).trans rfl; have qb2 := (zb.cell 2).trans rfl; have rb0 := zb.frozen 0; have rb1 := zb.frozen 1; have rb2 := zb.frozen 2) | skip)) | fail)); all_goals (go_wp2_with fail; go_meet); all_goals (refine ⟨_, _, A5, c5, rfl, rfl, ?_, ?_, ?_, ?_, ?_, N5, ?_, by (repeat' (first | (with_reducible exact Below.refl _ _) | (with_reducible assumption) | (with_reducible refine Below.alloc ?_ ?_ _) | (with_reducible refine Below.setCell ?_ ?_ _) | (with_reducible refine Below.drew ?_) | (with_reducible refine below_drewN ?_ _) | (with_reducible refine Below.trans ?_ (Below.mono (by assumption) ?_)) | go_size))⟩); all_goals (repeat' (first | (with_reducible assumption) | (with_reducible exact newW) | (with_reducible exact newW1) | (with_reducible exact newW3) | (with_reducible refine wh_threeF ?_) | (with_reducible refine wh_threeB ?_) | (with_reducible refine three_far ?_ ?_) | (with_reducible refine Whole.alloc ?_ _) | (with_reducible refine own_threeF ?_ ?_) | (with_reducible refine own_threeB ?_ ?_) | (with_reducible refine Own.alloc_ ?_ _) | (with_reducible refine lrow_threeF ?_ ?_) | (with_reducible refine lrow_threeB ?_ ?_) | (with_reducible refine LRow.alloc ?_ _) | (focus omega) | (focus (simp; omega)))))
  case rest =>
    rename World => w3
    obtain ⟨gf, gb, A5, c5, rfl, rfl, hgf, hgb, Xf, Xb, O5, N5, L5, b3⟩ := hcut
    clear KS k0 k1 k2
    have e1 : gf ≠ w.heap.size + 1 := by omega
    have e2 : gf ≠ w.heap.size + 1 + 1 := by omega
    have e3 : gb ≠ w.heap.size + 1 := by omega
    have e4 : gb ≠ w.heap.size + 1 + 1 := by omega
    have e5 := e1.symm
    have e6 := e2.symm
    have e7 := e3.symm
    have e8 := e4.symm
    replace X0 := X0.below b3 X0.lt; replace X1 := X1.below b3 X1.lt; replace X2 := X2.below b3 X2.lt; replace B0 := B0.trans (b3.mono B0.size); have hy := X0.lt; have hz := X1.lt; have hx := X2.lt; have hb0 := B0.size; clear b3
    have hn0 : New w A5 := fun a ha => by have h := N5 a ha; omega
    have hn1 : ∀ a, A5 = some a → w.heap.size + 1 ≠ a.block := fun a ha => by have h := N5 a ha; omega
    have hn2 : ∀ a, A5 = some a → w.heap.size + 1 + 1 ≠ a.block := fun a ha => by have h := N5 a ha; omega
    have Xbk0 : w3.cell? ⟨gb, 0, none⟩ = some (.int .i64 (r : Int)) := (Xb.cell 0).trans rfl; have Xbk1 : w3.cell? ⟨gb, 1, none⟩ = some (.int .i64 (c : Int)) := (Xb.cell 1).trans rfl; have Xbk2 : w3.cell? ⟨gb, 2, none⟩ = some (.slice A5 l.length c5) := (Xb.cell 2).trans rfl
    have q0 := (Xf.cell 0).trans rfl
    have q1 := (Xf.cell 1).trans rfl
    have q2 := (Xf.cell 2).trans rfl
    have X1k0 : w3.cell? ⟨w.heap.size + 1, 0, none⟩ = some (.int .i64 0) := (X1.cell 0).trans rfl; have X1k1 : w3.cell? ⟨w.heap.size + 1, 1, none⟩ = some (.int .i64 0) := (X1.cell 1).trans rfl; have X1k2 : w3.cell? ⟨w.heap.size + 1, 2, none⟩ = some (.int .i64 0) := (X1.cell 2).trans rfl
    have X1f0 := X1.frozen 0; have X1f1 := X1.frozen 1; have X1f2 := X1.frozen 2
    have X2k0 : w3.cell? ⟨w.heap.size + 1 + 1, 0, none⟩ = some (.int .i64 0) := (X2.cell 0).trans rfl; have X2k1 : w3.cell? ⟨w.heap.size + 1 + 1, 1, none⟩ = some (.int .i64 0) := (X2.cell 1).trans rfl; have X2k2 : w3.cell? ⟨w.heap.size + 1 + 1, 2, none⟩ = some (.slice none 0 0) := (X2.cell 2).trans rfl
    have X2f0 := X2.frozen 0; have X2f1 := X2.frozen 1; have X2f2 := X2.frozen 2
    have z1 := X1.lt
    have z2 := X2.lt
    have zf := Xf.lt
    have zb := Xb.lt
    go_upto_region 2 with (fail)
    go_region
    go_wp2
    (refine bodyPost_ret (v := .tuple #[.agg #[.int .i64 (flG (numL c l) r c r 0 l col 0 []).e, .int .i64 (flG (numL c l) r c r 0 l col 0 []).row, .int .i64 (flG (numL c l) r c r 0 l col 0 []).col], .agg #[.int .i64 (r : Int), .int .i64 (c : Int), .slice A5 l.length c5]]) ?_ rfl ?_); (focus (simp [results, Try.results51, go_sem, *]; done))
    refine ⟨A5, c5, rfl, ?_, hn0, six_below B0 (by omega) (by omega)⟩
    have o1 := own_three (u0 := .int .i64 (flG (numL c l) r c r 0 l col 0 []).e) (u1 := .int .i64 (flG (numL c l) r c r 0 l col 0 []).row) (u2 := .int .i64 (flG (numL c l) r c r 0 l col 0 []).col) O5 X1 (by decide)
    have x2 := three_far (u0 := .int .i64 (flG (numL c l) r c r 0 l col 0 []).e) (u1 := .int .i64 (flG (numL c l) r c r 0 l col 0 []).row) (u2 := .int .i64 (flG (numL c l) r c r 0 l col 0 []).col) X2 (show w.heap.size + 1 ≠ w.heap.size + 1 + 1 by omega)
    exact (own_three (u0 := .int .i64 (r : Int)) (u1 := .int .i64 (c : Int)) (u2 := .slice A5 l.length c5) o1 x2 (by decide)).keep ((Below.refl _ _).drew)
end Go.Proofs.Ytoflhjekldlaiaa
