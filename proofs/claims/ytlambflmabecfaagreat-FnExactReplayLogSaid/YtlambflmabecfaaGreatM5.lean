/- Contracts of the program and of the model, walked, part 5 of 9. No condition but what each says. -/
import Derived.Deep.RegionLaw
import Derived.Test.YtlambflmabecfaaGreatM4
import Derived.Deep.RegionHeld3
import Derived.Deep.DeepCutAuto
import Derived.Test.YtlambflmabecfaaGreatM1
import Derived.Test.YtlambflmabecfaaGreatM3
namespace Go.Proofs.YtlambflmabecfaaGreat
open Go.ChangeShapes Go.WideShapes Go.ChangeAt Go.RowKit Go.Joins Go.Deep
set_option linter.unusedSimpArgs false
set_option linter.unusedVariables false
set_option maxRecDepth 100000
set_option maxHeartbeats 4000000
structure FlR where
  e : Int
  row : Int
  col : Int
  cells : List (Int × Int)
  way : List (List Nat)
def flG (nm : List Int) (r c : Nat) : Nat → Nat → List (Int × Int) → Nat → Int → List (List Nat) → FlR
  | 0, _, l, col, _, way => ⟨1, r, col, l, way⟩
  | n + 1, row, l, col, side, way =>
    if (l.getD (row * c + col) (0, 0)).1 = 5 then ⟨2, row, col, l, way ++ [[row, col]]⟩
    else if 0 ≤ (col : Int) + goN (l.getD (row * c + col) (0, 0)).1 (l.getD (row * c + col) (0, 0)).2 side ∧ (col : Int) + goN (l.getD (row * c + col) (0, 0)).1 (l.getD (row * c + col) (0, 0)).2 side < c
      then flG nm r c n (row + 1) (passL nm l (row * c + col)) ((col : Int) + goN (l.getD (row * c + col) (0, 0)).1 (l.getD (row * c + col) (0, 0)).2 side).toNat (-goN (l.getD (row * c + col) (0, 0)).1 (l.getD (row * c + col) (0, 0)).2 side) (way ++ [[row, col]])
      else ⟨3, row, (col : Int) + goN (l.getD (row * c + col) (0, 0)).1 (l.getD (row * c + col) (0, 0)).2 side, passL nm l (row * c + col), way ++ [[row, col]]⟩
theorem goN_range {a b d : Int} (hg : good a b = true) (h1 : -1 ≤ d) (h2 : d ≤ 1) : -1 ≤ goN a b d ∧ goN a b d ≤ 1 := by
  have h3 : 0 ≤ b ∧ b ≤ 1 := by unfold good at hg; simp at hg; omega
  unfold goN
  split
  · omega
  · split
    · omega
    · split
      · omega
      · split
        · omega
        · omega
theorem good_turned {a b : Int} (hg : good a b = true) (h : a = 3 ∨ a = 6) : good a (1 - b) = true := by
  unfold good at *
  simp at *
  omega
theorem passL_good {nm : List Int} {l : List (Int × Int)} {i : Nat} (hi : i < l.length) (h : ∀ x ∈ l, good x.1 x.2 = true) : ∀ x ∈ passL nm l i, good x.1 x.2 = true := by
  have hget : ∀ j, j < l.length → l.getD j (0, 0) ∈ l := fun j hj => by
    rw [List.getD_eq_getElem?_getD, List.getElem?_eq_getElem hj]
    exact List.getElem_mem hj
  intro x hx
  unfold passL at hx
  split at hx
  · next h3 =>
    rcases List.mem_or_eq_of_mem_set hx with h1 | rfl
    · exact h x h1
    · exact good_turned (h _ (hget i hi)) (.inl h3)
  · split at hx
    · next h6 =>
      unfold tnS at hx
      obtain ⟨j, hj, rfl⟩ := List.mem_map.1 hx
      have hj' := List.mem_range.1 hj
      split
      · next hp =>
        unfold pin gearK at hp
        simp only [Bool.and_eq_true, decide_eq_true_eq] at hp
        exact good_turned (h _ (hget j hj')) (.inr hp.2)
      · exact h _ (hget j hj')
    · exact h x hx
theorem Own.apart {w w' : World} {A : Option Addr} {t t' : TypeId} {xs ys : List Value} {g : Nat} (h : Own w A t xs) (hw : Whole w g t' ys) (hne : t ≠ t') (hg : w.grownBy w' (some g)) : Own w' A t xs := fun hx => by
  obtain ⟨k, rest, e, h1⟩ := h hx
  refine ⟨k, rest, e, h1.grown hg (fun e' => ?_)⟩
  cases e'
  unfold Whole at h1 hw
  rw [hw] at h1
  injection h1 with h1
  injection h1 with _ ht
  exact hne ht.symm
theorem LRow.apart {w w' : World} {base g : Nat} {v : Value} {L : List (List Nat)} {t : TypeId} {ys : List Value} (h : LRow w base v L) (hw : Whole w g t ys) (h1 : 73 ≠ t) (h2 : 3 ≠ t) (hg : w.grownBy w' (some g)) : LRow w' base v L := by
  obtain ⟨hs, q1, q2, q3⟩ := h
  refine ⟨hs, q1, World.ownsRow.kept q2 hg (.inr fun e => row_apart q2 hw h1 e.symm), fun k hk => ?_⟩
  obtain ⟨A, cap, e, ho, hb⟩ := q3 k hk
  exact ⟨A, cap, e, ho.apart hw h2 hg, hb⟩
theorem LRow.set_ {w : World} {base g j : Nat} {v u : Value} {L : List (List Nat)} {t : TypeId} {ys : List Value} (h : LRow w base v L) (hw : Whole w g t ys) (h1 : 73 ≠ t) (h2 : 3 ≠ t) : LRow (w.setCell ⟨g, j, none⟩ u) base v L := by
  refine h.apart hw h1 h2 ⟨rfl, rfl, rfl, by rw [World.size_setCell]; exact Nat.le_refl _, fun k _ hne => Below.heap_setCell _ _ _ _ (fun e => hne (by rw [e]))⟩
theorem six_whole {w : World} {a b g : Nat} {t : TypeId} {xs : List Value} {u0 u1 u2 y0 y1 y2 : Value} (h : Whole w g t xs) (ha : a ≠ g) (hb : b ≠ g) : Whole (((((((w.setCell ⟨a, 0, none⟩ u0).setCell ⟨a, 1, none⟩ u1).setCell ⟨a, 2, none⟩ u2).setCell ⟨b, 0, none⟩ y0).setCell ⟨b, 1, none⟩ y1).setCell ⟨b, 2, none⟩ y2).drew) g t xs := by
  have h1 := h.set_far ⟨a, 0, none⟩ u0 ha
  have h2 := h1.set_far ⟨a, 1, none⟩ u1 ha
  have h3 := h2.set_far ⟨a, 2, none⟩ u2 ha
  have h4 := h3.set_far ⟨b, 0, none⟩ y0 hb
  have h5 := h4.set_far ⟨b, 1, none⟩ y1 hb
  have h6 := h5.set_far ⟨b, 2, none⟩ y2 hb
  exact h6.below ((Below.refl _ _).drew) h6.lt
theorem six_below {B : Nat} {w0 w : World} {a b : Nat} {u0 u1 u2 y0 y1 y2 : Value} (h : Below B w0 w) (ha : B ≤ a) (hb : B ≤ b) : Below B w0 (((((((w.setCell ⟨a, 0, none⟩ u0).setCell ⟨a, 1, none⟩ u1).setCell ⟨a, 2, none⟩ u2).setCell ⟨b, 0, none⟩ y0).setCell ⟨b, 1, none⟩ y1).setCell ⟨b, 2, none⟩ y2).drew) :=
  ((((((h.setCell (p := ⟨a, 0, none⟩) ha u0).setCell (p := ⟨a, 1, none⟩) ha u1).setCell (p := ⟨a, 2, none⟩) ha u2).setCell (p := ⟨b, 0, none⟩) hb y0).setCell (p := ⟨b, 1, none⟩) hb y1).setCell (p := ⟨b, 2, none⟩) hb y2).drew
theorem three_lrow {w : World} {base a : Nat} {v : Value} {L : List (List Nat)} {t : TypeId} {p q s : Value} {u0 u1 u2 : Value} (h : LRow w base v L) (hw : Whole w a t [p, q, s]) (h1 : 73 ≠ t) (h2 : 3 ≠ t) : LRow (((w.setCell ⟨a, 0, none⟩ u0).setCell ⟨a, 1, none⟩ u1).setCell ⟨a, 2, none⟩ u2) base v L :=
  ((h.set_ hw h1 h2).set_ (hw.set 0 u0) h1 h2).set_ ((hw.set 0 u0).set 1 u1) h1 h2
theorem six_lrow {w : World} {base a b : Nat} {v : Value} {L : List (List Nat)} {p q s p' q' s' : Value} {u0 u1 u2 y0 y1 y2 : Value} (h : LRow w base v L) (hw : Whole w a 55 [p, q, s]) (hw' : Whole w b 34 [p', q', s']) (hne : a ≠ b) : LRow (((((((w.setCell ⟨a, 0, none⟩ u0).setCell ⟨a, 1, none⟩ u1).setCell ⟨a, 2, none⟩ u2).setCell ⟨b, 0, none⟩ y0).setCell ⟨b, 1, none⟩ y1).setCell ⟨b, 2, none⟩ y2).drew) base v L := by
  have h1 := three_lrow (u0 := u0) (u1 := u1) (u2 := u2) h hw (by decide) (by decide)
  have h2 : Whole (((w.setCell ⟨a, 0, none⟩ u0).setCell ⟨a, 1, none⟩ u1).setCell ⟨a, 2, none⟩ u2) b 34 [p', q', s'] := ((hw'.set_far ⟨a, 0, none⟩ u0 hne).set_far ⟨a, 1, none⟩ u1 hne).set_far ⟨a, 2, none⟩ u2 hne
  exact (three_lrow (u0 := y0) (u1 := y1) (u2 := y2) h1 h2 (by decide) (by decide)).keep ((Below.refl _ _).drew)
theorem flG_step (nm : List Int) (r c n row : Nat) (l : List (Int × Int)) (col : Nat) (side : Int) (way : List (List Nat)) (kd st : Int) (h1 : (l.getD (row * c + col) (0, 0)).1 = kd) (h2 : (l.getD (row * c + col) (0, 0)).2 = st) :
    flG nm r c (n + 1) row l col side way = if kd = 5 then ⟨2, row, col, l, way ++ [[row, col]]⟩
      else if 0 ≤ (col : Int) + goN kd st side ∧ (col : Int) + goN kd st side < c then flG nm r c n (row + 1) (passL nm l (row * c + col)) ((col : Int) + goN kd st side).toNat (-goN kd st side) (way ++ [[row, col]])
      else ⟨3, row, (col : Int) + goN kd st side, passL nm l (row * c + col), way ++ [[row, col]]⟩ := by
  subst h1 h2
  rfl
theorem spec_flGo (r c b o cap g6 c6 : Nat) (l : List (Int × Int)) (nm : List Int) (rest6 : List Value) (col : Nat) (w : World) (hG : Geo r c l.length) (hgd : goodB (r : Int) (c : Int) l = true) (hr : Rd w w.heap.size (some ⟨b, o, none⟩) (flat l)) (hnm : nm.length = l.length)
    (X6 : Whole w g6 3 (ints nm ++ rest6)) (hcol : col < c) :
    Calls Tryz.prog 63 #[.agg #[.int .i64 (r : Int), .int .i64 (c : Int), .slice (some ⟨b, o, none⟩) l.length cap], .slice (some ⟨g6, 0, none⟩) nm.length c6, .int .i64 (col : Int)] w
      fun e w' => ∃ A5 c5 v, e = .returned (.tuple #[.agg #[.int .i64 (flG nm r c r 0 l col 0 []).e, .int .i64 (flG nm r c r 0 l col 0 []).row, .int .i64 (flG nm r c r 0 l col 0 []).col], .agg #[.int .i64 (r : Int), .int .i64 (c : Int), .slice A5 l.length c5], v]) ∧
        Own w' A5 95 (flat (flG nm r c r 0 l col 0 []).cells) ∧ New w A5 ∧ LRow w' w.heap.size v (flG nm r c r 0 l col 0 []).way ∧ Below w.heap.size w w' := by
  obtain ⟨s1, s2, s3, s4⟩ := sizeB_iff.1 (goodB_iff.1 hgd).1
  have hpos := (goodB_parts hgd).2.2
  have hlrc : (l.length : Int) = (r : Int) * (c : Int) := (goodB_iff.1 hgd).2.1
  have hgd2 := (goodB_iff.1 hgd).2.2
  have n90 := hG.n90
  have HRC := Lib.hid hG.cells
  have HLRC := Lib.hid hlrc
  clear hlrc
  obtain ⟨b', o', e0, hbl, hc⟩ := hr (by rw [flat_length]; omega)
  cases e0
  rewrite [hnm]
  have HNm := Lib.hid hnm
  clear hnm
  go_enter Tryz.func63, Tryz.ntmps63
  obtain ⟨v0, hv0, X0, X1, X2, B0, hz0⟩ := three_boxes w [.int .i64 (r : Int), .int .i64 (c : Int), .slice (some ⟨b, o, none⟩) l.length cap] 34 [.int .i64 0, .int .i64 0, .int .i64 0] 55 [.int .i64 0, .int .i64 0, .slice none 0 0] 34; have HV := Lib.hid hv0; have hx : w.heap.size + 1 + 1 < v0.heap.size := (by omega); have hz : w.heap.size + 1 < v0.heap.size := (by omega); have hy : w.heap.size < v0.heap.size := (by omega); have hb0 := B0.size; clear hv0 hz0; go_wp2_with fail; rewrite [show ((w.alloc (.cells ([.int .i64 (r : Int), .int .i64 (c : Int), .slice (some ⟨b, o, none⟩) l.length cap] : List Value).toArray 34)).alloc (.cells ([.int .i64 0, .int .i64 0, .int .i64 0] : List Value).toArray 55)).alloc (.cells ([.int .i64 0, .int .i64 0, .slice none 0 0] : List Value).toArray 34) = v0 from HV.out]; clear HV
  refine (spec_boOwn _ _ b o cap l _ hpos (by omega) ((hr.below B0).mono B0.size)).mono ?_
  rintro e w1 ⟨A5, c5, rfl, o5, n5, b1⟩
  have X6' := X6.below B0 X6.lt
  have hg6 := X6.lt
  replace X6 := X6'.below b1 X6'.lt
  clear X6'
  replace X0 := X0.below b1 X0.lt; replace X1 := X1.below b1 X1.lt; replace X2 := X2.below b1 X2.lt; replace B0 := B0.trans (b1.mono B0.size); have hy := X0.lt; have hz := X1.lt; have hx := X2.lt; have hb0 := B0.size; clear b1
  obtain ⟨g5, rest5, rfl, X7⟩ := o5 (by rw [flat_length]; omega)
  have h5 : w.heap.size + 1 + 1 < g5 := by have := n5 _ rfl; show _ < (⟨g5, 0, none⟩ : Addr).block; omega
  clear o5 n5
  go_upto_region 2 with (fail)
  have X9 : Whole (w1.alloc (.cells #[.int .i64 (r : Int), .int .i64 (c : Int), .slice (some ⟨g5, 0, none⟩) l.length c5] 34)) w1.heap.size 34 [.int .i64 (r : Int), .int .i64 (c : Int), .slice (some ⟨g5, 0, none⟩) l.length c5] := heap_alloc_new w1 _
  have b2 : Below w1.heap.size w1 (w1.alloc (.cells #[.int .i64 (r : Int), .int .i64 (c : Int), .slice (some ⟨g5, 0, none⟩) l.length c5] 34)) := (Below.refl _ _).alloc (Nat.le_refl _) _
  have hG9 : w.heap.size + 1 + 1 < w1.heap.size := hx
  have hg5l := X7.lt
  replace X7 := X7.below b2 X7.lt
  replace X6 := X6.below b2 X6.lt
  replace X0 := X0.below b2 X0.lt; replace X1 := X1.below b2 X1.lt; replace X2 := X2.below b2 X2.lt; replace B0 := B0.trans (b2.mono B0.size); have hy := X0.lt; have hz := X1.lt; have hx := X2.lt; have hb0 := B0.size; clear b2
  generalize w1.alloc (.cells #[.int .i64 (r : Int), .int .i64 (c : Int), .slice (some ⟨g5, 0, none⟩) l.length c5] 34) = w2 at *
  have hg59 : g5 ≠ w1.heap.size := by omega
  generalize w1.heap.size = G at *
  go_wp2
  obtain ⟨F, hF⟩ : ∃ F, flG nm r c r 0 l col 0 [] = F := ⟨_, rfl⟩
  have hF0 : flG nm r c (r - 0) 0 l col 0 [] = F := hF
  have HFq := Lib.hid hF
  clear hF hc hr hgd
  go_loopw [2, 10, 11, 12] (fun cv wv sv rv wr => ∃ (k cl : Nat) (d : Int) (lk : List (Int × Int)) (wy : List (List Nat)), rv = .int .i64 k ∧ cv = .int .i64 cl ∧ sv = .int .i64 d ∧ k ≤ r ∧ cl < c ∧ -1 ≤ d ∧ d ≤ 1 ∧ lk.length = l.length ∧ (∀ x ∈ lk, good x.1 x.2 = true) ∧ wy.length = k ∧ flG nm r c (r - k) k lk cl d wy = F ∧
    Whole wr w.heap.size 34 [.int .i64 (r : Int), .int .i64 (c : Int), .slice (some ⟨b, o, none⟩) l.length cap] ∧ Whole wr (w.heap.size + 1) 55 [.int .i64 0, .int .i64 0, .int .i64 0] ∧ Whole wr (w.heap.size + 1 + 1) 34 [.int .i64 0, .int .i64 0, .slice none 0 0] ∧
    Whole wr G 34 [.int .i64 (r : Int), .int .i64 (c : Int), .slice (some ⟨g5, 0, none⟩) l.length c5] ∧ Whole wr g5 95 (flat lk ++ rest5) ∧ Whole wr g6 3 (ints nm ++ rest6) ∧ LRow wr w.heap.size wv wy ∧ Below w.heap.size w wr) (fun _ _ _ rv _ => r - (intOf rv).toNat)
  case atStart => exact ⟨0, col, 0, l, [], rfl, rfl, rfl, Nat.zero_le _, hcol, by omega, by omega, rfl, hgd2, rfl, hF0, X0, X1, X2, X9, X7, X6, LRow.nil, B0⟩
  case round =>
    clear X0 X1 X2 X9 X7 X6 B0 hx hz hy hb0 hF0 hgd2 hcol
    obtain ⟨k, cl, d, lk, wy, rfl, rfl, rfl, hk, hcl, hd1, hd2, hlk, hgk, hwy, hF, X0, X1, X2, X9, X7, X6, hL, B0⟩ := hrel
    have hs := B0.size
    by_cases hlt : k < r
    · have hidx : k * c + cl < l.length := by
        have h1 := Nat.mul_le_mul (show k + 1 ≤ r by omega) (Nat.le_refl c)
        rw [Nat.succ_mul] at h1
        have := HRC.out
        omega
      have hgB : goodB (r : Int) (c : Int) lk = true := goodB_iff.2 ⟨sizeB_iff.2 ⟨s1, s2, s3, s4⟩, by rw [hlk]; exact HLRC.out, hgk⟩
      obtain ⟨hs0, hq1, hrow0, hq3⟩ := hL
      have a0 := row_apart hrow0 X0 (by decide)
      have a1 := row_apart hrow0 X1 (by decide)
      have a2 := row_apart hrow0 X2 (by decide)
      have a9 := row_apart hrow0 X9 (by decide)
      have a7 := row_apart hrow0 X7 (by decide)
      have a6 := row_apart hrow0 X6 (by decide)
      have hL : LRow wr w.heap.size u10 wy := ⟨hs0, hq1, hrow0, hq3⟩
      clear hrow0 hq3 hq1
      have X0k0 : wr.cell? ⟨w.heap.size, 0, none⟩ = some (.int .i64 (r : Int)) := (X0.cell 0).trans rfl; have X0k1 : wr.cell? ⟨w.heap.size, 1, none⟩ = some (.int .i64 (c : Int)) := (X0.cell 1).trans rfl; have X0k2 : wr.cell? ⟨w.heap.size, 2, none⟩ = some (.slice (some ⟨b, o, none⟩) l.length cap) := (X0.cell 2).trans rfl
      go_upto_region 8 with (first | (at_builtin; go_loud (generalize hq : wr.alloc (.cells #[.int .i64 (k : Int), .int .i64 (cl : Int)] 3) = wq; have hqs : wr.heap.size + 1 = wq.heap.size := (by rw [← hq, World.size_alloc]); rewrite [hqs]; have bq : Below wr.heap.size wr wq := (by rw [← hq]; exact (Below.refl _ _).alloc (Nat.le_refl _) _); have xq : Whole wq wr.heap.size 3 (ints (nI [k, cl])) := (by rw [← hq]; exact heap_alloc_new wr _); refine wpList_pushL (x := [k, cl]) (A0 := some ⟨wr.heap.size, 0, none⟩) (cap0 := 2) (hL.keep bq) (by omega) (by omega) (xq.own) (fun a ha => by cases ha; exact hs) rfl _ _ rfl rfl rfl ?_; intro v3 w3 hL3 hg3 hb3 hv3)) | fail)
      have hg3' : ∀ {g : Nat} {t : TypeId} {xs : List Value}, Whole wr g t xs → some g ≠ u10.ownBlock → Whole w3 g t xs := fun hw hne => ((hw.below bq hw.lt).alloc _).grown hg3 hne
      clear X0k0 X0k1 X0k2
      replace X0 := hg3' X0 a0
      replace X1 := hg3' X1 a1
      replace X2 := hg3' X2 a2
      replace X9 := hg3' X9 a9
      replace X7 := hg3' X7 a7
      replace X6 := hg3' X6 a6
      replace B0 := B0.trans ((bq.mono hs).trans hb3)
      replace hs := B0.size
      have hwl : (wy ++ [[k, cl]]).length = k + 1 := by rw [List.length_append, hwy]; rfl
      have HF := Lib.hid hF
      have HW := Lib.hid hwy
      clear hg3' hg3 hb3 hv3 hL a0 a1 a2 a9 a7 a6 bq xq hq hqs hF hwy
      have hin : inB (r : Int) (c : Int) (k : Int) (cl : Int) = true := inB_iff.2 (by omega)
      have hat : atI (c : Int) (k : Int) (cl : Int) = k * c + cl := by
        unfold atI
        have : (k : Int) * (c : Int) + (cl : Int) = ((k * c + cl : Nat) : Int) := by push_cast; rfl
        rw [this, Int.toNat_natCast]
      have hrd : Rd w3 w3.heap.size (some ⟨g5, 0, none⟩) (flat lk) := fun _ => ⟨g5, 0, rfl, X7.lt, fun j u hu => by rw [Nat.zero_add, X7.cell j, List.getElem?_append_left (Array.getElem?_eq_some_iff.1 (by simpa using hu)).1]; exact hu⟩
      have HA := spec_boAt (r : Int) (c : Int) (some ⟨g5, 0, none⟩) c5 lk (k : Int) (cl : Int) w3 hgB hin hrd
      rw [hlk, hat] at HA
      have hxg : good (lk.getD (k * c + cl) (0, 0)).1 (lk.getD (k * c + cl) (0, 0)).2 = true := by
        rw [List.getD_eq_getElem?_getD, List.getElem?_eq_getElem (by omega)]
        exact hgk _ (List.getElem_mem _)
      have HSt := Lib.hid (flG_step nm r c (r - k - 1) k lk cl d wy _ _ rfl rfl)
      have er : r - k = r - k - 1 + 1 := by omega
      rw [er] at HF
      generalize (lk.getD (k * c + cl) (0, 0)).1 = kd at *
      generalize (lk.getD (k * c + cl) (0, 0)).2 = st at *
      have HFS := Lib.hid (HSt.out.symm.trans HF.out)
      clear HSt HF er
      have X9k0 : w3.cell? ⟨G, 0, none⟩ = some (.int .i64 (r : Int)) := (X9.cell 0).trans rfl; have X9k1 : w3.cell? ⟨G, 1, none⟩ = some (.int .i64 (c : Int)) := (X9.cell 1).trans rfl; have X9k2 : w3.cell? ⟨G, 2, none⟩ = some (.slice (some ⟨g5, 0, none⟩) l.length c5) := (X9.cell 2).trans rfl
      go_wp2_with fail
      refine HA.mono ?_; rintro e w4 ⟨rfl, b4⟩
      clear HA hrd hin hat
      clear X9k0 X9k1 X9k2
      replace X0 := X0.below b4 X0.lt; replace X1 := X1.below b4 X1.lt; replace X2 := X2.below b4 X2.lt; replace X9 := X9.below b4 X9.lt; replace X7 := X7.below b4 X7.lt; replace X6 := X6.below b4 X6.lt; replace hL3 := hL3.keep b4; replace B0 := B0.trans (b4.mono hs); replace hs := B0.size; clear b4
      have hs4 := hs
      go_upto_region 9 with (fail)
      have XX : Whole (w4.alloc (.cells #[.int .i64 kd, .int .i64 st] 95)) w4.heap.size 95 [.int .i64 kd, .int .i64 st] := heap_alloc_new w4 _
      have b5 : Below w4.heap.size w4 (w4.alloc (.cells #[.int .i64 kd, .int .i64 st] 95)) := (Below.refl _ _).alloc (Nat.le_refl _) _
      have h5Q : g5 < w4.heap.size := X7.lt
      have hGQ : G < w4.heap.size := X9.lt
      replace X0 := X0.below b5 X0.lt; replace X1 := X1.below b5 X1.lt; replace X2 := X2.below b5 X2.lt; replace X9 := X9.below b5 X9.lt; replace X7 := X7.below b5 X7.lt; replace X6 := X6.below b5 X6.lt; replace hL3 := hL3.keep b5; replace B0 := B0.trans (b5.mono hs); replace hs := B0.size; clear b5
      generalize w4.alloc (.cells #[.int .i64 kd, .int .i64 st] 95) = w5 at *
      generalize w4.heap.size = Q at *
      have y0 : w5.cell? ⟨Q, 0, none⟩ = some (.int .i64 kd) := (XX.cell 0).trans rfl
      by_cases h5k : kd = 5
      · have HF := HFS.out
        rw [if_pos h5k] at HF
        have HEq := Lib.hid (HFq.out.trans HF.symm)
        clear HF HFS
        subst h5k
        have X9k0 : w5.cell? ⟨G, 0, none⟩ = some (.int .i64 (r : Int)) := (X9.cell 0).trans rfl; have X9k1 : w5.cell? ⟨G, 1, none⟩ = some (.int .i64 (c : Int)) := (X9.cell 1).trans rfl; have X9k2 : w5.cell? ⟨G, 2, none⟩ = some (.slice (some ⟨g5, 0, none⟩) l.length c5) := (X9.cell 2).trans rfl
        have X1k0 : w5.cell? ⟨w.heap.size + 1, 0, none⟩ = some (.int .i64 0) := (X1.cell 0).trans rfl; have X1k1 : w5.cell? ⟨w.heap.size + 1, 1, none⟩ = some (.int .i64 0) := (X1.cell 1).trans rfl; have X1k2 : w5.cell? ⟨w.heap.size + 1, 2, none⟩ = some (.int .i64 0) := (X1.cell 2).trans rfl
        have X1f0 := X1.frozen 0; have X1f1 := X1.frozen 1; have X1f2 := X1.frozen 2
        have X2k0 : w5.cell? ⟨w.heap.size + 1 + 1, 0, none⟩ = some (.int .i64 0) := (X2.cell 0).trans rfl; have X2k1 : w5.cell? ⟨w.heap.size + 1 + 1, 1, none⟩ = some (.int .i64 0) := (X2.cell 1).trans rfl; have X2k2 : w5.cell? ⟨w.heap.size + 1 + 1, 2, none⟩ = some (.slice none 0 0) := (X2.cell 2).trans rfl
        have X2f0 := X2.frozen 0; have X2f1 := X2.frozen 1; have X2f2 := X2.frozen 2
        have z1 := X1.lt
        have z2 := X2.lt
        have z9 := X9.lt
        go_upto_region 10 with (fail)
        clear y0
        go_region
        go_wp2; (refine bodyPost_ret (v := .tuple #[.agg #[.int .i64 2, .int .i64 (k : Int), .int .i64 (cl : Int)], .agg #[.int .i64 (r : Int), .int .i64 (c : Int), .slice (some ⟨g5, 0, none⟩) l.length c5], v3]) ?_ rfl ?_); (focus (simp [results, Tryz.results63, go_sem, *]; done)); rewrite [HEq.out]; exact ⟨some ⟨g5, 0, none⟩, c5, v3, rfl, fun _ => ⟨g5, rest5, rfl, six_whole X7 (by omega) (by omega)⟩, fun a ha => by cases ha; show w.heap.size ≤ g5; omega, six_lrow hL3 X1 X2 (by omega), six_below B0 (by omega) (by omega)⟩
      · rw [if_neg h5k] at HFS
        obtain ⟨hg1, hg2⟩ := goN_range hxg hd1 hd2
        have m1 : IntKind.i64.wrap ((k : Int) * (c : Int)) = (k : Int) * (c : Int) := by
          have e : (k : Int) * (c : Int) = ((k * c : Nat) : Int) := by push_cast; rfl
          rw [e]; exact IntWalk.i64_in _ (by omega)
        have m2 : IntKind.i64.wrap ((k : Int) * (c : Int) + (cl : Int)) = ((k * c + cl : Nat) : Int) := by
          have e : (k : Int) * (c : Int) + (cl : Int) = ((k * c + cl : Nat) : Int) := by push_cast; rfl
          rw [e]; exact IntWalk.i64_in _ (by omega)
        have HG1 := Lib.hid (spec_paGoes kd st d hxg hd1 hd2)
        generalize goN kd st d = gs at *
        have m3 : IntKind.i64.wrap ((cl : Int) + gs) = (cl : Int) + gs := IntWalk.i64_in _ (by omega)
        have m4 : IntKind.i64.wrap (-gs) = -gs := IntWalk.i64_in _ (by omega)
        have m5 : IntKind.i64.wrap ((c : Int) - 1) = (c : Int) - 1 := IntWalk.i64_in _ (by omega)
        have HPg := Lib.hid (passL_good (nm := nm) (show k * c + cl < lk.length by omega) hgk)
        have HPl := Lib.hid (passL_len nm lk (k * c + cl))
        have hxQ := XX.lt
        have y1 := (XX.cell 1).trans rfl
        go_wp2_with fail
        refine (HG1.out _).mono ?_; rintro e w6 ⟨rfl, b6⟩
        replace X0 := X0.below b6 X0.lt; replace X1 := X1.below b6 X1.lt; replace X2 := X2.below b6 X2.lt; replace X9 := X9.below b6 X9.lt; replace X7 := X7.below b6 X7.lt; replace X6 := X6.below b6 X6.lt; replace hL3 := hL3.keep b6; replace B0 := B0.trans (b6.mono hs); replace hs := B0.size; clear b6
        clear y0 y1 HG1
        have X9k0 : w6.cell? ⟨G, 0, none⟩ = some (.int .i64 (r : Int)) := (X9.cell 0).trans rfl; have X9k1 : w6.cell? ⟨G, 1, none⟩ = some (.int .i64 (c : Int)) := (X9.cell 1).trans rfl; have X9k2 : w6.cell? ⟨G, 2, none⟩ = some (.slice (some ⟨g5, 0, none⟩) l.length c5) := (X9.cell 2).trans rfl
        have X0k0 : w6.cell? ⟨w.heap.size, 0, none⟩ = some (.int .i64 (r : Int)) := (X0.cell 0).trans rfl; have X0k1 : w6.cell? ⟨w.heap.size, 1, none⟩ = some (.int .i64 (c : Int)) := (X0.cell 1).trans rfl; have X0k2 : w6.cell? ⟨w.heap.size, 2, none⟩ = some (.slice (some ⟨b, o, none⟩) l.length cap) := (X0.cell 2).trans rfl
        have HQ := spec_flPass (r : Int) (c : Int) g5 c5 g6 c6 lk nm rest5 rest6 (k * c + cl) w6 (by omega) (by omega) (by rw [HNm.out, hlk]) hgk X7 X6
        rw [hlk, HNm.out] at HQ
        generalize hidxe : k * c + cl = ix at *
        go_wp2_with fail
        refine HQ.mono ?_; rintro e w7 ⟨rfl, X7', gb⟩
        clear X9k0 X9k1 X9k2
        clear X0k0 X0k1 X0k2
        have n5 : ∀ {g : Nat}, g ≠ g5 → some g ≠ some g5 := fun h e => h (by injection e)
        replace X0 := X0.grown gb (n5 (by omega))
        replace X1 := X1.grown gb (n5 (by omega))
        replace X2 := X2.grown gb (n5 (by omega))
        replace X9 := X9.grown gb (n5 (by omega))
        replace X6 := X6.grown gb (n5 (by omega))
        replace hL3 := hL3.apart X7 (by decide) (by decide) gb
        replace B0 := B0.grown gb hs (fun k e => by cases e; omega)
        replace hs := B0.size
        replace X7 := X7'
        clear gb X7' HQ n5 XX m1 m2
        by_cases hin2 : 0 ≤ (cl : Int) + gs ∧ (cl : Int) + gs < (c : Int)
        · have HF := HFS.out
          rw [if_pos hin2] at HF
          have hb1 : (decide (0 ≤ (cl : Int) + gs) && decide ((cl : Int) + gs ≤ (c : Int) - 1)) = true := by rw [decide_eq_true hin2.1, decide_eq_true (by omega)]; rfl
          have HB := Lib.hid hb1
          have hnx : ((cl : Int) + gs) = ((((cl : Int) + gs).toNat : Nat) : Int) := by omega
          have HNx := Lib.hid hnx
          have hF' : flG nm r c (r - (k + 1)) (k + 1) (passL nm lk ix) ((cl : Int) + gs).toNat (-gs) (wy ++ [[k, cl]]) = F := by rw [show r - (k + 1) = r - k - 1 by omega]; exact HF
          have HF' := Lib.hid hF'
          clear hb1 hnx HFS hF' HF
          have X0k0 : w7.cell? ⟨w.heap.size, 0, none⟩ = some (.int .i64 (r : Int)) := (X0.cell 0).trans rfl; have X0k1 : w7.cell? ⟨w.heap.size, 1, none⟩ = some (.int .i64 (c : Int)) := (X0.cell 1).trans rfl; have X0k2 : w7.cell? ⟨w.heap.size, 2, none⟩ = some (.slice (some ⟨b, o, none⟩) l.length cap) := (X0.cell 2).trans rfl
          go_wp2_with fail
          refine (spec_l1In _ _ _ _).mono ?_; rintro e w8 ⟨rfl, rfl⟩
          rewrite [HB.out]
          clear X0k0 X0k1 X0k2
          go_wp2
          go_roundw
          case rel => exact ⟨k + 1, ((cl : Int) + gs).toNat, -gs, passL nm lk ix, wy ++ [[k, cl]], by go_num, by rw [← HNx.out], rfl, by omega, by omega, by omega, by omega, by rw [HPl.out, hlk], HPg.out, hwl, HF'.out, X0, X1, X2, X9, X7, X6, hL3, B0⟩
          case measure => simp [intOf]; omega
        · have HF := HFS.out
          rw [if_neg hin2] at HF
          have HEq := Lib.hid (HFq.out.trans HF.symm)
          have hb1 : (decide (0 ≤ (cl : Int) + gs) && decide ((cl : Int) + gs ≤ (c : Int) - 1)) = false := by
            rw [Bool.eq_false_iff]; intro h; rw [Bool.and_eq_true, decide_eq_true_eq, decide_eq_true_eq] at h; exact hin2 ⟨h.1, by omega⟩
          have HB := Lib.hid hb1
          clear hb1 HF HFS hin2
          have X0k0 : w7.cell? ⟨w.heap.size, 0, none⟩ = some (.int .i64 (r : Int)) := (X0.cell 0).trans rfl; have X0k1 : w7.cell? ⟨w.heap.size, 1, none⟩ = some (.int .i64 (c : Int)) := (X0.cell 1).trans rfl; have X0k2 : w7.cell? ⟨w.heap.size, 2, none⟩ = some (.slice (some ⟨b, o, none⟩) l.length cap) := (X0.cell 2).trans rfl
          go_wp2_with fail
          refine (spec_l1In _ _ _ _).mono ?_; rintro e w8 ⟨rfl, rfl⟩
          rewrite [HB.out]
          clear X0k0 X0k1 X0k2
          have X9k0 : w7.cell? ⟨G, 0, none⟩ = some (.int .i64 (r : Int)) := (X9.cell 0).trans rfl; have X9k1 : w7.cell? ⟨G, 1, none⟩ = some (.int .i64 (c : Int)) := (X9.cell 1).trans rfl; have X9k2 : w7.cell? ⟨G, 2, none⟩ = some (.slice (some ⟨g5, 0, none⟩) l.length c5) := (X9.cell 2).trans rfl
          have X1k0 : w7.cell? ⟨w.heap.size + 1, 0, none⟩ = some (.int .i64 0) := (X1.cell 0).trans rfl; have X1k1 : w7.cell? ⟨w.heap.size + 1, 1, none⟩ = some (.int .i64 0) := (X1.cell 1).trans rfl; have X1k2 : w7.cell? ⟨w.heap.size + 1, 2, none⟩ = some (.int .i64 0) := (X1.cell 2).trans rfl
          have X1f0 := X1.frozen 0; have X1f1 := X1.frozen 1; have X1f2 := X1.frozen 2
          have X2k0 : w7.cell? ⟨w.heap.size + 1 + 1, 0, none⟩ = some (.int .i64 0) := (X2.cell 0).trans rfl; have X2k1 : w7.cell? ⟨w.heap.size + 1 + 1, 1, none⟩ = some (.int .i64 0) := (X2.cell 1).trans rfl; have X2k2 : w7.cell? ⟨w.heap.size + 1 + 1, 2, none⟩ = some (.slice none 0 0) := (X2.cell 2).trans rfl
          have X2f0 := X2.frozen 0; have X2f1 := X2.frozen 1; have X2f2 := X2.frozen 2
          have z1 := X1.lt
          have z2 := X2.lt
          have z9 := X9.lt
          go_upto_region 16 with (fail)
          go_region
          go_wp2; (refine bodyPost_ret (v := .tuple #[.agg #[.int .i64 3, .int .i64 (k : Int), .int .i64 ((cl : Int) + gs)], .agg #[.int .i64 (r : Int), .int .i64 (c : Int), .slice (some ⟨g5, 0, none⟩) l.length c5], v3]) ?_ rfl ?_); (focus (simp [results, Tryz.results63, go_sem, *]; done)); rewrite [HEq.out]; exact ⟨some ⟨g5, 0, none⟩, c5, v3, rfl, fun _ => ⟨g5, rest5, rfl, six_whole X7 (by omega) (by omega)⟩, fun a ha => by cases ha; show w.heap.size ≤ g5; omega, six_lrow hL3 X1 X2 (by omega), six_below B0 (by omega) (by omega)⟩
    · obtain rfl : k = r := by omega
      have HEq : Hid (flG nm k c k 0 l col 0 [] = ⟨1, k, cl, lk, wy⟩) := Lib.hid (HFq.out.trans (by rw [← hF, Nat.sub_self]; rfl))
      have hL3 := hL
      clear hL hF HFq
      generalize u10 = v3 at *
      have X0k0 : wr.cell? ⟨w.heap.size, 0, none⟩ = some (.int .i64 (k : Int)) := (X0.cell 0).trans rfl; have X0k1 : wr.cell? ⟨w.heap.size, 1, none⟩ = some (.int .i64 (c : Int)) := (X0.cell 1).trans rfl; have X0k2 : wr.cell? ⟨w.heap.size, 2, none⟩ = some (.slice (some ⟨b, o, none⟩) l.length cap) := (X0.cell 2).trans rfl
      have X9k0 : wr.cell? ⟨G, 0, none⟩ = some (.int .i64 (k : Int)) := (X9.cell 0).trans rfl; have X9k1 : wr.cell? ⟨G, 1, none⟩ = some (.int .i64 (c : Int)) := (X9.cell 1).trans rfl; have X9k2 : wr.cell? ⟨G, 2, none⟩ = some (.slice (some ⟨g5, 0, none⟩) l.length c5) := (X9.cell 2).trans rfl
      have X1k0 : wr.cell? ⟨w.heap.size + 1, 0, none⟩ = some (.int .i64 0) := (X1.cell 0).trans rfl; have X1k1 : wr.cell? ⟨w.heap.size + 1, 1, none⟩ = some (.int .i64 0) := (X1.cell 1).trans rfl; have X1k2 : wr.cell? ⟨w.heap.size + 1, 2, none⟩ = some (.int .i64 0) := (X1.cell 2).trans rfl
      have X1f0 := X1.frozen 0; have X1f1 := X1.frozen 1; have X1f2 := X1.frozen 2
      have X2k0 : wr.cell? ⟨w.heap.size + 1 + 1, 0, none⟩ = some (.int .i64 0) := (X2.cell 0).trans rfl; have X2k1 : wr.cell? ⟨w.heap.size + 1 + 1, 1, none⟩ = some (.int .i64 0) := (X2.cell 1).trans rfl; have X2k2 : wr.cell? ⟨w.heap.size + 1 + 1, 2, none⟩ = some (.slice none 0 0) := (X2.cell 2).trans rfl
      have X2f0 := X2.frozen 0; have X2f1 := X2.frozen 1; have X2f2 := X2.frozen 2
      have z0 := X0.lt
      have z1 := X1.lt
      have z2 := X2.lt
      have z9 := X9.lt
      go_upto_region 17 with (fail)
      go_region
      go_wp2; (refine bodyPost_ret (v := .tuple #[.agg #[.int .i64 1, .int .i64 (k : Int), .int .i64 (cl : Int)], .agg #[.int .i64 (k : Int), .int .i64 (c : Int), .slice (some ⟨g5, 0, none⟩) l.length c5], v3]) ?_ rfl ?_); (focus (simp [results, Tryz.results63, go_sem, *]; done)); rewrite [HEq.out]; exact ⟨some ⟨g5, 0, none⟩, c5, v3, rfl, fun _ => ⟨g5, rest5, rfl, six_whole X7 (by omega) (by omega)⟩, fun a ha => by cases ha; show w.heap.size ≤ g5; omega, six_lrow hL3 X1 X2 (by omega), six_below B0 (by omega) (by omega)⟩
end Go.Proofs.YtlambflmabecfaaGreat
namespace Go.Proofs.YtlambflmabecfaaGreat
open Go.ChangeShapes Go.WideShapes Go.ChangeAt Go.RowKit Go.Joins Go.Deep
set_option linter.unusedSimpArgs false
set_option linter.unusedVariables false
set_option maxRecDepth 100000
set_option maxHeartbeats 4000000
def okF (R C : Int) (l : List (Int × Int)) (j : Int) : Bool := goodB R C l && decide (0 ≤ j ∧ j < C)
def marO (R C : Int) (l : List (Int × Int)) (j : Int) : FlR := flG (numL C.toNat l) R.toNat C.toNat R.toNat 0 l j.toNat 0 []
theorem spec_flHas (R C : Int) (A : Option Addr) (cap : Nat) (l : List (Int × Int)) (j : Int) (w : World) (hn : l.length ≤ 1048576) (hr : Rd w w.heap.size A (flat l)) :
    Calls Tryz.prog 34 #[.agg #[.int .i64 R, .int .i64 C, .slice A l.length cap], .int .i64 j] w fun e w' => e = .returned (.bool (okF R C l j)) ∧ Below w.heap.size w w' := by
  unfold okF
  rcases Bool.eq_false_or_eq_true (goodB R C l) with hg | hg
  · have HG := Lib.hid hg
    obtain ⟨s1, s2, s3, s4⟩ := sizeB_iff.1 (goodB_iff.1 hg).1
    rw [hg]
    clear hg
    have m1 : IntKind.i64.wrap (C - 1) = C - 1 := IntWalk.i64_in _ (by omega)
    have HE := Lib.hid (show (true && decide (0 ≤ j ∧ j < C)) = (decide (0 ≤ j) && decide (j ≤ C - 1)) by rw [Bool.true_and, Bool.eq_iff_iff]; simp; omega)
    go_enter Tryz.func34, Tryz.ntmps34
    obtain ⟨v0, hv0⟩ : ∃ v, v = w.alloc (.cells #[.int .i64 R, .int .i64 C, .slice A l.length cap] 34) := ⟨_, rfl⟩; have X0 : Whole v0 w.heap.size 34 [.int .i64 R, .int .i64 C, .slice A l.length cap] := (by rw [hv0]; exact heap_alloc_new w _); have hb : Below w.heap.size w v0 := (by rw [hv0]; exact (Below.refl _ _).alloc (Nat.le_refl _) _); have HV := Lib.hid hv0.symm; clear hv0; go_upto_region 1 with (fail); rewrite [HV.out]; clear HV; have X0k0 : v0.cell? ⟨w.heap.size, 0, none⟩ = some (.int .i64 R) := (X0.cell 0).trans rfl; have X0k1 : v0.cell? ⟨w.heap.size, 1, none⟩ = some (.int .i64 C) := (X0.cell 1).trans rfl; have X0k2 : v0.cell? ⟨w.heap.size, 2, none⟩ = some (.slice A l.length cap) := (X0.cell 2).trans rfl
    go_wp2_with fail
    refine (spec_boGood _ _ _ _ l _ hn ((hr.below hb).mono hb.size)).mono ?_; rintro e w1 ⟨rfl, b1⟩
    rewrite [HG.out]
    (clear X0k0 X0k1 X0k2; replace X0 := X0.below b1 X0.lt; replace hb := hb.trans (b1.mono hb.size); clear b1; have X0k0 : w1.cell? ⟨w.heap.size, 0, none⟩ = some (.int .i64 R) := (X0.cell 0).trans rfl; have X0k1 : w1.cell? ⟨w.heap.size, 1, none⟩ = some (.int .i64 C) := (X0.cell 1).trans rfl; have X0k2 : w1.cell? ⟨w.heap.size, 2, none⟩ = some (.slice A l.length cap) := (X0.cell 2).trans rfl)
    go_wp2_with fail
    refine (spec_l1In _ _ _ _).mono ?_; rintro e w2 ⟨rfl, rfl⟩
    go_wp2
    go_returns
    exact ⟨by rw [HE.out]; rfl, by (repeat' (first | (with_reducible exact Below.refl _ _) | (with_reducible assumption) | (with_reducible refine Below.alloc ?_ ?_ _) | (with_reducible refine Below.setCell ?_ ?_ _) | (with_reducible refine Below.drew ?_) | (with_reducible refine below_drewN ?_ _) | (with_reducible refine Below.trans ?_ (Below.mono (by assumption) ?_)) | (with_reducible exact Nat.le_refl _) | (simp; done) | omega | (simp at *; omega)))⟩
  · have HG := Lib.hid hg
    rw [hg]
    clear hg
    go_enter Tryz.func34, Tryz.ntmps34
    obtain ⟨v0, hv0⟩ : ∃ v, v = w.alloc (.cells #[.int .i64 R, .int .i64 C, .slice A l.length cap] 34) := ⟨_, rfl⟩; have X0 : Whole v0 w.heap.size 34 [.int .i64 R, .int .i64 C, .slice A l.length cap] := (by rw [hv0]; exact heap_alloc_new w _); have hb : Below w.heap.size w v0 := (by rw [hv0]; exact (Below.refl _ _).alloc (Nat.le_refl _) _); have HV := Lib.hid hv0.symm; clear hv0; go_upto_region 1 with (fail); rewrite [HV.out]; clear HV; have X0k0 : v0.cell? ⟨w.heap.size, 0, none⟩ = some (.int .i64 R) := (X0.cell 0).trans rfl; have X0k1 : v0.cell? ⟨w.heap.size, 1, none⟩ = some (.int .i64 C) := (X0.cell 1).trans rfl; have X0k2 : v0.cell? ⟨w.heap.size, 2, none⟩ = some (.slice A l.length cap) := (X0.cell 2).trans rfl
    go_wp2_with fail
    refine (spec_boGood _ _ _ _ l _ hn ((hr.below hb).mono hb.size)).mono ?_; rintro e w1 ⟨rfl, b1⟩
    rewrite [HG.out]
    (clear X0k0 X0k1 X0k2; replace X0 := X0.below b1 X0.lt; replace hb := hb.trans (b1.mono hb.size); clear b1; have X0k0 : w1.cell? ⟨w.heap.size, 0, none⟩ = some (.int .i64 R) := (X0.cell 0).trans rfl; have X0k1 : w1.cell? ⟨w.heap.size, 1, none⟩ = some (.int .i64 C) := (X0.cell 1).trans rfl; have X0k2 : w1.cell? ⟨w.heap.size, 2, none⟩ = some (.slice A l.length cap) := (X0.cell 2).trans rfl)
    go_wp2
    go_returns
    exact ⟨rfl, by (repeat' (first | (with_reducible exact Below.refl _ _) | (with_reducible assumption) | (with_reducible refine Below.alloc ?_ ?_ _) | (with_reducible refine Below.setCell ?_ ?_ _) | (with_reducible refine Below.drew ?_) | (with_reducible refine below_drewN ?_ _) | (with_reducible refine Below.trans ?_ (Below.mono (by assumption) ?_)) | (with_reducible exact Nat.le_refl _) | (simp; done) | omega | (simp at *; omega)))⟩
theorem three_far {w : World} {g a : Nat} {t : TypeId} {xs : List Value} {u0 u1 u2 : Value} (h : Whole w g t xs) (ne : a ≠ g) : Whole (((w.setCell ⟨a, 0, none⟩ u0).setCell ⟨a, 1, none⟩ u1).setCell ⟨a, 2, none⟩ u2) g t xs :=
  ((h.set_far ⟨a, 0, none⟩ u0 ne).set_far ⟨a, 1, none⟩ u1 ne).set_far ⟨a, 2, none⟩ u2 ne
theorem own_three {w : World} {a : Nat} {A : Option Addr} {t t' : TypeId} {xs : List Value} {p q s u0 u1 u2 : Value} (h : Own w A t xs) (hw : Whole w a t' [p, q, s]) (hne : t ≠ t') : Own (((w.setCell ⟨a, 0, none⟩ u0).setCell ⟨a, 1, none⟩ u1).setCell ⟨a, 2, none⟩ u2) A t xs := by
  have gb : ∀ {v : World} {j : Nat} {u : Value}, v.grownBy (v.setCell ⟨a, j, none⟩ u) (some a) := fun {v j u} => ⟨rfl, rfl, rfl, by rw [World.size_setCell]; exact Nat.le_refl _, fun k _ hk => Below.heap_setCell _ _ _ _ (fun e => hk (by rw [e]))⟩
  exact ((h.apart hw hne gb).apart (hw.set 0 u0) hne gb).apart ((hw.set 0 u0).set 1 u1) hne gb
theorem LRow.alloc {w : World} {base : Nat} {v : Value} {L : List (List Nat)} (h : LRow w base v L) (o : Obj) : LRow (w.alloc o) base v L := h.keep ((Below.refl _ _).alloc (Nat.le_refl _) _)
theorem Own.alloc_ {w : World} {A : Option Addr} {t : TypeId} {xs : List Value} (h : Own w A t xs) (o : Obj) : Own (w.alloc o) A t xs := h.keep ((Below.refl _ _).alloc (Nat.le_refl _) _)
theorem newB {w w1 : World} {t : TypeId} {xs : List Value} (b : Below (w.alloc (.cells xs.toArray t)).heap.size (w.alloc (.cells xs.toArray t)) w1) : Whole w1 w.heap.size t xs :=
  Whole.below (heap_alloc_new w _) b (by rw [World.size_alloc]; omega)
theorem newB2 {w w1 : World} {o : Obj} {t : TypeId} {xs : List Value} (b : Below ((w.alloc (.cells xs.toArray t)).alloc o).heap.size ((w.alloc (.cells xs.toArray t)).alloc o) w1) : Whole w1 w.heap.size t xs :=
  Whole.below (Whole.alloc (heap_alloc_new w _) o) b (by rw [World.size_alloc, World.size_alloc]; omega)
theorem newW3 {w : World} {a : Nat} {u0 u1 u2 : Value} {t : TypeId} {xs : List Value} : Whole ((((w.setCell ⟨a, 0, none⟩ u0).setCell ⟨a, 1, none⟩ u1).setCell ⟨a, 2, none⟩ u2).alloc (.cells xs.toArray t)) w.heap.size t xs := by
  have h := heap_alloc_new (((w.setCell ⟨a, 0, none⟩ u0).setCell ⟨a, 1, none⟩ u1).setCell ⟨a, 2, none⟩ u2) (.cells xs.toArray t)
  rw [World.size_setCell, World.size_setCell, World.size_setCell] at h
  exact h
theorem own_threeF {w : World} {a : Nat} {A : Option Addr} {xs : List Value} {u0 u1 : Value} {x : Int} (h : Own w A 95 xs) (hw : Whole w a 55 [.int .i64 0, .int .i64 0, .int .i64 0]) : Own (((w.setCell ⟨a, 0, none⟩ u0).setCell ⟨a, 1, none⟩ u1).setCell ⟨a, 2, none⟩ (.int .i64 x)) A 95 xs := own_three h hw (by decide)
theorem own_threeB {w : World} {a : Nat} {A B : Option Addr} {n cp : Nat} {xs : List Value} {u0 u1 : Value} (h : Own w A 95 xs) (hw : Whole w a 34 [.int .i64 0, .int .i64 0, .slice none 0 0]) : Own (((w.setCell ⟨a, 0, none⟩ u0).setCell ⟨a, 1, none⟩ u1).setCell ⟨a, 2, none⟩ (.slice B n cp)) A 95 xs := own_three h hw (by decide)
theorem lrow_threeF {w : World} {base a : Nat} {v : Value} {L : List (List Nat)} {u0 u1 : Value} {x : Int} (h : LRow w base v L) (hw : Whole w a 55 [.int .i64 0, .int .i64 0, .int .i64 0]) : LRow (((w.setCell ⟨a, 0, none⟩ u0).setCell ⟨a, 1, none⟩ u1).setCell ⟨a, 2, none⟩ (.int .i64 x)) base v L := three_lrow h hw (by decide) (by decide)
theorem lrow_threeB {w : World} {base a : Nat} {v : Value} {L : List (List Nat)} {B : Option Addr} {n cp : Nat} {u0 u1 : Value} (h : LRow w base v L) (hw : Whole w a 34 [.int .i64 0, .int .i64 0, .slice none 0 0]) : LRow (((w.setCell ⟨a, 0, none⟩ u0).setCell ⟨a, 1, none⟩ u1).setCell ⟨a, 2, none⟩ (.slice B n cp)) base v L := three_lrow h hw (by decide) (by decide)
theorem wh_threeF {w : World} {g : Nat} {u0 u1 : Value} {x : Int} (h : Whole w g 55 [.int .i64 0, .int .i64 0, .int .i64 0]) : Whole (((w.setCell ⟨g, 0, none⟩ u0).setCell ⟨g, 1, none⟩ u1).setCell ⟨g, 2, none⟩ (.int .i64 x)) g 55 [u0, u1, .int .i64 x] := whole_three h
theorem wh_threeB {w : World} {g : Nat} {B : Option Addr} {n cp : Nat} {u0 u1 : Value} (h : Whole w g 34 [.int .i64 0, .int .i64 0, .slice none 0 0]) : Whole (((w.setCell ⟨g, 0, none⟩ u0).setCell ⟨g, 1, none⟩ u1).setCell ⟨g, 2, none⟩ (.slice B n cp)) g 34 [u0, u1, .slice B n cp] := whole_three h
theorem newD {w w1 : World} {t : TypeId} {xs : List Value} (b : Below (w.alloc (.cells xs.toArray t)).drew.heap.size (w.alloc (.cells xs.toArray t)).drew w1) : Whole w1 w.heap.size t xs :=
  Whole.below (w := (w.alloc (.cells xs.toArray t)).drew) (heap_alloc_new w _) b (by show _ < (w.alloc _).heap.size; rw [World.size_alloc]; omega)
theorem newD2 {w w1 : World} {o : Obj} {t : TypeId} {xs : List Value} (b : Below ((w.alloc (.cells xs.toArray t)).alloc o).drew.heap.size ((w.alloc (.cells xs.toArray t)).alloc o).drew w1) : Whole w1 w.heap.size t xs :=
  Whole.below (w := ((w.alloc (.cells xs.toArray t)).alloc o).drew) (Whole.alloc (heap_alloc_new w _) o) b (by show _ < ((w.alloc _).alloc _).heap.size; rw [World.size_alloc, World.size_alloc]; omega)
theorem newW {w : World} {t : TypeId} {xs : List Value} : Whole (w.alloc (.cells xs.toArray t)) w.heap.size t xs := heap_alloc_new w _
theorem newW1 {w : World} {o : Obj} {t : TypeId} {xs : List Value} : Whole ((w.alloc o).alloc (.cells xs.toArray t)) (w.heap.size + 1) t xs := by
  have h := heap_alloc_new (w.alloc o) (.cells xs.toArray t)
  rw [World.size_alloc] at h
  exact h
theorem oldB {w w1 : World} {g : Nat} {t : TypeId} {xs : List Value} (h : Whole w g t xs) (b : Below w.heap.size w w1) : Whole w1 g t xs := h.below b h.lt
theorem oldA {w w1 : World} {g : Nat} {o : Obj} {t : TypeId} {xs : List Value} (h : Whole w g t xs) (b : Below (w.alloc o).heap.size (w.alloc o) w1) : Whole w1 g t xs := (h.alloc o).below b (h.alloc o).lt
theorem spec_flRun (r c b o cap : Nat) (l : List (Int × Int)) (col : Nat) (w : World) (hgd : goodB (r : Int) (c : Int) l = true) (hr : Rd w w.heap.size (some ⟨b, o, none⟩) (flat l)) (hcol : col < c) :
    Calls Tryz.prog 56 #[.agg #[.int .i64 (r : Int), .int .i64 (c : Int), .slice (some ⟨b, o, none⟩) l.length cap], .int .i64 (col : Int)] w
      fun e w' => ∃ A5 c5, e = .returned (.tuple #[.agg #[.int .i64 (marO r c l col).e, .int .i64 (marO r c l col).row, .int .i64 (marO r c l col).col], .agg #[.int .i64 (r : Int), .int .i64 (c : Int), .slice A5 l.length c5]]) ∧
        Own w' A5 95 (flat (marO r c l col).cells) ∧ New w A5 ∧ Below w.heap.size w w' := by
  obtain ⟨r', c', er, ec, hG⟩ := geo_of hgd
  obtain rfl : r = r' := by omega
  obtain rfl : c = c' := by omega
  have hpos := (goodB_parts hgd).2.2
  have HG := Lib.hid hG
  have HGd := Lib.hid hgd
  have hM : marO r c l col = flG (numL c l) r c r 0 l col 0 [] := rfl
  rw [hM]
  have HNl := Lib.hid (numL_len c l)
  clear hG hgd hM er ec
  go_enter Tryz.func56, Tryz.ntmps56
  obtain ⟨v0, hv0, X0, X1, X2, B0, hz0⟩ := three_boxes w [.int .i64 (r : Int), .int .i64 (c : Int), .slice (some ⟨b, o, none⟩) l.length cap] 34 [.int .i64 0, .int .i64 0, .int .i64 0] 55 [.int .i64 0, .int .i64 0, .slice none 0 0] 34; have HV := Lib.hid hv0; have hx : w.heap.size + 1 + 1 < v0.heap.size := (by omega); have hz : w.heap.size + 1 < v0.heap.size := (by omega); have hy : w.heap.size < v0.heap.size := (by omega); have hb0 := B0.size; clear hv0 hz0; go_wp2_with fail; rewrite [show ((w.alloc (.cells ([.int .i64 (r : Int), .int .i64 (c : Int), .slice (some ⟨b, o, none⟩) l.length cap] : List Value).toArray 34)).alloc (.cells ([.int .i64 0, .int .i64 0, .int .i64 0] : List Value).toArray 55)).alloc (.cells ([.int .i64 0, .int .i64 0, .slice none 0 0] : List Value).toArray 34) = v0 from HV.out]; clear HV
  have hb9 : b < w.heap.size := by
    obtain ⟨b', o', e0, h1, _⟩ := hr (by rw [flat_length]; omega)
    cases e0
    exact h1
  have k0 : v0.cell? ⟨w.heap.size, 0, none⟩ = some (.int .i64 (r : Int)) := (X0.cell 0).trans rfl
  have k1 : v0.cell? ⟨w.heap.size, 1, none⟩ = some (.int .i64 (c : Int)) := (X0.cell 1).trans rfl
  have k2 : v0.cell? ⟨w.heap.size, 2, none⟩ = some (.slice (some ⟨b, o, none⟩) l.length cap) := (X0.cell 2).trans rfl
  have KS := Lib.hid (fun (w' : World) (h : Below v0.heap.size v0 w') => (⟨(h.cell (p := ⟨w.heap.size, 0, none⟩) hy).trans k0, (h.cell (p := ⟨w.heap.size, 1, none⟩) hy).trans k1, (h.cell (p := ⟨w.heap.size, 2, none⟩) hy).trans k2⟩ : w'.cell? ⟨w.heap.size, 0, none⟩ = some (.int .i64 (r : Int)) ∧ w'.cell? ⟨w.heap.size, 1, none⟩ = some (.int .i64 (c : Int)) ∧ w'.cell? ⟨w.heap.size, 2, none⟩ = some (.slice (some ⟨b, o, none⟩) l.length cap)))
  go_cut [6, 7, 8] (fun z y v wx => ∃ (gf gb : Nat) (A : Option Addr) (c5 : Nat), z = .pointer (some ⟨gf, 0, none⟩) ∧ y = .pointer (some ⟨gb, 0, none⟩) ∧ v0.heap.size ≤ gf ∧ v0.heap.size ≤ gb ∧ Whole wx gf 55 [.int .i64 (flG (numL c l) r c r 0 l col 0 []).e, .int .i64 (flG (numL c l) r c r 0 l col 0 []).row, .int .i64 (flG (numL c l) r c r 0 l col 0 []).col] ∧ Whole wx gb 34 [.int .i64 (r : Int), .int .i64 (c : Int), .slice A l.length c5] ∧ Own wx A 95 (flat (flG (numL c l) r c r 0 l col 0 []).cells) ∧ New v0 A ∧ LRow wx v0.heap.size v (flG (numL c l) r c r 0 l col 0 []).way ∧ Below v0.heap.size v0 wx)
  case first =>
    (go_region_held3 (fun w' => w'.cell? ⟨w.heap.size, 0, none⟩ = some (.int .i64 (r : Int)) ∧ w'.cell? ⟨w.heap.size, 1, none⟩ = some (.int .i64 (c : Int)) ∧ w'.cell? ⟨w.heap.size, 2, none⟩ = some (.slice (some ⟨b, o, none⟩) l.length cap)) (exact KS.out _ (by (repeat' (first | (with_reducible exact Below.refl _ _) | (with_reducible assumption) | (with_reducible refine Below.alloc ?_ ?_ _) | (with_reducible refine Below.setCell ?_ ?_ _) | (with_reducible refine Below.drew ?_) | (with_reducible refine below_drewN ?_ _) | (with_reducible refine Below.trans ?_ (Below.mono (by assumption) ?_)) | go_size)))) ((first | (go_at_call 64; (with_reducible refine (spec_ggGroups r c (some ⟨b, o, none⟩) cap l _ HG.out ?_).mono ?_); (focus exact (hr.below (B0.trans ((by (repeat' (first | (with_reducible exact Below.refl _ _) | (with_reducible assumption) | (with_reducible refine Below.alloc ?_ ?_ _) | (with_reducible refine Below.setCell ?_ ?_ _) | (with_reducible refine Below.drew ?_) | (with_reducible refine below_drewN ?_ _) | (with_reducible refine Below.trans ?_ (Below.mono (by assumption) ?_)) | go_size)) : Below v0.heap.size v0 _).mono B0.size))).mono (Nat.le_trans B0.size (by (repeat' (first | (with_reducible exact Below.refl _ _) | (with_reducible assumption) | (with_reducible refine Below.alloc ?_ ?_ _) | (with_reducible refine Below.setCell ?_ ?_ _) | (with_reducible refine Below.drew ?_) | (with_reducible refine below_drewN ?_ _) | (with_reducible refine Below.trans ?_ (Below.mono (by assumption) ?_)) | go_size)) : Below v0.heap.size v0 _).size)); rintro e w1 hP; obtain ⟨A6, c6, rfl, o6, n6, bT⟩ := hP.value; clear hP; obtain ⟨g6, rest6, rfl, X6⟩ := o6 (by rw [ints_length, HNl.out]; exact hpos); clear o6 n6; have sT : v0.heap.size ≤ w1.heap.size := (by (repeat' (first | (with_reducible exact Below.refl _ _) | (with_reducible assumption) | (with_reducible refine Below.alloc ?_ ?_ _) | (with_reducible refine Below.setCell ?_ ?_ _) | (with_reducible refine Below.drew ?_) | (with_reducible refine below_drewN ?_ _) | (with_reducible refine Below.trans ?_ (Below.mono (by assumption) ?_)) | go_size)) : Below v0.heap.size v0 w1).size; (first | have zf := newB (t := 55) (xs := [.int .i64 0, .int .i64 0, .int .i64 0]) bT | have zf := newB2 (t := 55) (xs := [.int .i64 0, .int .i64 0, .int .i64 0]) bT | have zf := newD (t := 55) (xs := [.int .i64 0, .int .i64 0, .int .i64 0]) bT | have zf := newD2 (t := 55) (xs := [.int .i64 0, .int .i64 0, .int .i64 0]) bT | skip); (first | have zb := newB (t := 34) (xs := [.int .i64 0, .int .i64 0, .slice none 0 0]) bT | have zb := newB2 (t := 34) (xs := [.int .i64 0, .int .i64 0, .slice none 0 0]) bT | have zb := newD (t := 34) (xs := [.int .i64 0, .int .i64 0, .slice none 0 0]) bT | have zb := newD2 (t := 34) (xs := [.int .i64 0, .int .i64 0, .slice none 0 0]) bT | skip); (try rw [World.size_alloc] at zf); (try rw [World.size_alloc] at zb); (try replace zf : Whole w1 v0.heap.size _ _ := zf); (try replace zb : Whole w1 v0.heap.size _ _ := zb); (try replace zf : Whole w1 (v0.heap.size + 1) _ _ := zf); (try replace zb : Whole w1 (v0.heap.size + 1) _ _ := zb); (first | have hzf1 := zf.lt | skip); (first | have hzb1 := zb.lt | skip); (try have nA1 : v0.heap.size ≠ w1.heap.size := by omega); (try have nA2 : w1.heap.size ≠ v0.heap.size := by omega)) | (go_at_call 63; (with_reducible refine (spec_flGo r c b o cap g6 c6 l (numL c l) rest6 col _ HG.out HGd.out ?_ (numL_len c l) ?_ hcol).mono ?_); (focus exact (hr.below (B0.trans ((by (repeat' (first | (with_reducible exact Below.refl _ _) | (with_reducible assumption) | (with_reducible refine Below.alloc ?_ ?_ _) | (with_reducible refine Below.setCell ?_ ?_ _) | (with_reducible refine Below.drew ?_) | (with_reducible refine below_drewN ?_ _) | (with_reducible refine Below.trans ?_ (Below.mono (by assumption) ?_)) | go_size)) : Below v0.heap.size v0 _).mono B0.size))).mono (Nat.le_trans B0.size (by (repeat' (first | (with_reducible exact Below.refl _ _) | (with_reducible assumption) | (with_reducible refine Below.alloc ?_ ?_ _) | (with_reducible refine Below.setCell ?_ ?_ _) | (with_reducible refine Below.drew ?_) | (with_reducible refine below_drewN ?_ _) | (with_reducible refine Below.trans ?_ (Below.mono (by assumption) ?_)) | go_size)) : Below v0.heap.size v0 _).size)); (focus exact X6.below (by (repeat' (first | (with_reducible exact Below.refl _ _) | (with_reducible assumption) | (with_reducible refine Below.alloc ?_ ?_ _) | (with_reducible refine Below.setCell ?_ ?_ _) | (with_reducible refine Below.drew ?_) | (with_reducible refine below_drewN ?_ _) | (with_reducible refine Below.trans ?_ (Below.mono (by assumption) ?_)) | go_size)) : Below w1.heap.size w1 _) X6.lt); rintro e w2 ⟨A5, c5, v5, rfl, O5, N5, L5, bF⟩; replace N5 : New v0 A5 := N5.mono (by (repeat' (first | (with_reducible exact Below.refl _ _) | (with_reducible assumption) | (with_reducible refine Below.alloc ?_ ?_ _) | (with_reducible refine Below.setCell ?_ ?_ _) | (with_reducible refine Below.drew ?_) | (with_reducible refine below_drewN ?_ _) | (with_reducible refine Below.trans ?_ (Below.mono (by assumption) ?_)) | go_size)) : Below v0.heap.size v0 _).size; replace L5 := L5.mono (by (repeat' (first | (with_reducible exact Below.refl _ _) | (with_reducible assumption) | (with_reducible refine Below.alloc ?_ ?_ _) | (with_reducible refine Below.setCell ?_ ?_ _) | (with_reducible refine Below.drew ?_) | (with_reducible refine below_drewN ?_ _) | (with_reducible refine Below.trans ?_ (Below.mono (by assumption) ?_)) | go_size)) : Below v0.heap.size v0 _).size; have sF : w1.heap.size ≤ w2.heap.size := (by (repeat' (first | (with_reducible exact Below.refl _ _) | (with_reducible assumption) | (with_reducible refine Below.alloc ?_ ?_ _) | (with_reducible refine Below.setCell ?_ ?_ _) | (with_reducible refine Below.drew ?_) | (with_reducible refine below_drewN ?_ _) | (with_reducible refine Below.trans ?_ (Below.mono (by assumption) ?_)) | go_size)) : Below w1.heap.size w1 w2).size; (first | have zf := oldB zf bF | have zf := oldA zf bF | have zf := newB (t := 55) (xs := [.int .i64 0, .int .i64 0, .int .i64 0]) bF | have zf := newB2 (t := 55) (xs := [.int .i64 0, .int .i64 0, .int .i64 0]) bF | skip); (first | have zb := oldB zb bF | have zb := oldA zb bF | have zb := newB (t := 34) (xs := [.int .i64 0, .int .i64 0, .slice none 0 0]) bF | have zb := newB2 (t := 34) (xs := [.int .i64 0, .int .i64 0, .slice none 0 0]) bF | skip); (try rw [World.size_alloc] at zf); (try rw [World.size_alloc] at zb); (try have nB1 : w1.heap.size ≠ w2.heap.size := by (first | (have h1 := zf.lt; omega) | (have h1 := zb.lt; omega))); (try have nB2 : w2.heap.size ≠ w1.heap.size := by omega); (try have nC1 : v0.heap.size ≠ w2.heap.size := by (first | (have h1 := zf.lt; omega) | (have h1 := zb.lt; omega))); (try have nC2 : w2.heap.size ≠ v0.heap.size := by omega); (first | (have hzf2 := zf.lt; have qf0 := (zf.cell 0).trans rfl; have qf1 := (zf.cell 1).trans rfl; have qf2 := (zf.cell 2).trans rfl; have rf0 := zf.frozen 0; have rf1 := zf.frozen 1; have rf2 := zf.frozen 2) | skip); (first | (have hzb2 := zb.lt; have qb0 := (zb.cell 0).trans rfl; have qb1 := (zb.cell 1).trans rfl; have qb2 := (zb.cell 2).trans rfl; have rb0 := zb.frozen 0; have rb1 := zb.frozen 1; have rb2 := zb.frozen 2) | skip)) | fail)); all_goals (go_wp2_with fail; go_meet); all_goals (refine ⟨_, _, A5, c5, rfl, rfl, ?_, ?_, ?_, ?_, ?_, N5, ?_, by (repeat' (first | (with_reducible exact Below.refl _ _) | (with_reducible assumption) | (with_reducible refine Below.alloc ?_ ?_ _) | (with_reducible refine Below.setCell ?_ ?_ _) | (with_reducible refine Below.drew ?_) | (with_reducible refine below_drewN ?_ _) | (with_reducible refine Below.trans ?_ (Below.mono (by assumption) ?_)) | go_size))⟩); all_goals (repeat' (first | (with_reducible assumption) | (with_reducible exact newW) | (with_reducible exact newW1) | (with_reducible exact newW3) | (with_reducible refine wh_threeF ?_) | (with_reducible refine wh_threeB ?_) | (with_reducible refine three_far ?_ ?_) | (with_reducible refine Whole.alloc ?_ _) | (with_reducible refine own_threeF ?_ ?_) | (with_reducible refine own_threeB ?_ ?_) | (with_reducible refine Own.alloc_ ?_ _) | (with_reducible refine lrow_threeF ?_ ?_) | (with_reducible refine lrow_threeB ?_ ?_) | (with_reducible refine LRow.alloc ?_ _) | (focus omega) | (focus (simp; omega)))))
  case rest =>
    rename World => w3
    obtain ⟨gf, gb, A5, c5, rfl, rfl, hgf, hgb, Xf, Xb, O5, N5, L5, b3⟩ := hcut
    clear KS k0 k1 k2
    have e1 : gf ≠ w.heap.size + 1 := by omega
    have e2 : gf ≠ w.heap.size + 1 + 1 := by omega
    have e3 : gb ≠ w.heap.size + 1 := by omega
    have e4 : gb ≠ w.heap.size + 1 + 1 := by omega
    have e5 := e1.symm
    have e6 := e2.symm
    have e7 := e3.symm
    have e8 := e4.symm
    replace X0 := X0.below b3 X0.lt; replace X1 := X1.below b3 X1.lt; replace X2 := X2.below b3 X2.lt; replace B0 := B0.trans (b3.mono B0.size); have hy := X0.lt; have hz := X1.lt; have hx := X2.lt; have hb0 := B0.size; clear b3
    have hn0 : New w A5 := fun a ha => by have h := N5 a ha; omega
    have hn1 : ∀ a, A5 = some a → w.heap.size + 1 ≠ a.block := fun a ha => by have h := N5 a ha; omega
    have hn2 : ∀ a, A5 = some a → w.heap.size + 1 + 1 ≠ a.block := fun a ha => by have h := N5 a ha; omega
    have Xbk0 : w3.cell? ⟨gb, 0, none⟩ = some (.int .i64 (r : Int)) := (Xb.cell 0).trans rfl; have Xbk1 : w3.cell? ⟨gb, 1, none⟩ = some (.int .i64 (c : Int)) := (Xb.cell 1).trans rfl; have Xbk2 : w3.cell? ⟨gb, 2, none⟩ = some (.slice A5 l.length c5) := (Xb.cell 2).trans rfl
    have q0 := (Xf.cell 0).trans rfl
    have q1 := (Xf.cell 1).trans rfl
    have q2 := (Xf.cell 2).trans rfl
    have X1k0 : w3.cell? ⟨w.heap.size + 1, 0, none⟩ = some (.int .i64 0) := (X1.cell 0).trans rfl; have X1k1 : w3.cell? ⟨w.heap.size + 1, 1, none⟩ = some (.int .i64 0) := (X1.cell 1).trans rfl; have X1k2 : w3.cell? ⟨w.heap.size + 1, 2, none⟩ = some (.int .i64 0) := (X1.cell 2).trans rfl
    have X1f0 := X1.frozen 0; have X1f1 := X1.frozen 1; have X1f2 := X1.frozen 2
    have X2k0 : w3.cell? ⟨w.heap.size + 1 + 1, 0, none⟩ = some (.int .i64 0) := (X2.cell 0).trans rfl; have X2k1 : w3.cell? ⟨w.heap.size + 1 + 1, 1, none⟩ = some (.int .i64 0) := (X2.cell 1).trans rfl; have X2k2 : w3.cell? ⟨w.heap.size + 1 + 1, 2, none⟩ = some (.slice none 0 0) := (X2.cell 2).trans rfl
    have X2f0 := X2.frozen 0; have X2f1 := X2.frozen 1; have X2f2 := X2.frozen 2
    have z1 := X1.lt
    have z2 := X2.lt
    have zf := Xf.lt
    have zb := Xb.lt
    go_upto_region 2 with (fail)
    go_region
    go_wp2
    (refine bodyPost_ret (v := .tuple #[.agg #[.int .i64 (flG (numL c l) r c r 0 l col 0 []).e, .int .i64 (flG (numL c l) r c r 0 l col 0 []).row, .int .i64 (flG (numL c l) r c r 0 l col 0 []).col], .agg #[.int .i64 (r : Int), .int .i64 (c : Int), .slice A5 l.length c5]]) ?_ rfl ?_); (focus (simp [results, Tryz.results56, go_sem, *]; done))
    refine ⟨A5, c5, rfl, ?_, hn0, six_below B0 (by omega) (by omega)⟩
    have o1 := own_three (u0 := .int .i64 (flG (numL c l) r c r 0 l col 0 []).e) (u1 := .int .i64 (flG (numL c l) r c r 0 l col 0 []).row) (u2 := .int .i64 (flG (numL c l) r c r 0 l col 0 []).col) O5 X1 (by decide)
    have x2 := three_far (u0 := .int .i64 (flG (numL c l) r c r 0 l col 0 []).e) (u1 := .int .i64 (flG (numL c l) r c r 0 l col 0 []).row) (u2 := .int .i64 (flG (numL c l) r c r 0 l col 0 []).col) X2 (show w.heap.size + 1 ≠ w.heap.size + 1 + 1 by omega)
    exact (own_three (u0 := .int .i64 (r : Int)) (u1 := .int .i64 (c : Int)) (u2 := .slice A5 l.length c5) o1 x2 (by decide)).keep ((Below.refl _ _).drew)
end Go.Proofs.YtlambflmabecfaaGreat
namespace Go.Proofs.YtlambflmabecfaaGreat
open Go.ChangeShapes Go.WideShapes Go.ChangeAt Go.RowKit Go.Joins Go.Deep
set_option linter.unusedSimpArgs false
set_option linter.unusedVariables false
set_option maxRecDepth 100000
set_option maxHeartbeats 4000000
theorem okF_parts {R C : Int} {l : List (Int × Int)} {j : Int} (h : okF R C l j = true) : goodB R C l = true ∧ 0 ≤ j ∧ j < C := by
  unfold okF at h
  rw [Bool.and_eq_true, decide_eq_true_eq] at h
  exact h
theorem ret_fb {a b c a' b' c' : Int} {x y : Bool} (h1 : a = a') (h2 : b = b') (h3 : c = c') (h4 : x = y) : Ending.returned (.tuple #[.agg #[.int .i64 a, .int .i64 b, .int .i64 c], .bool x]) = .returned (.tuple #[.agg #[.int .i64 a', .int .i64 b', .int .i64 c'], .bool y]) := by rw [h1, h2, h3, h4]
def afterL (R C : Int) (l : List (Int × Int)) (j : Int) : List (Int × Int) := if okF R C l j then (marO R C l j).cells else []
theorem flG_len (nm : List Int) (r c : Nat) : ∀ (n row : Nat) (l : List (Int × Int)) (col : Nat) (side : Int) (way : List (List Nat)), (flG nm r c n row l col side way).cells.length = l.length
  | 0, _, _, _, _, _ => rfl
  | n + 1, row, l, col, side, way => by
    rw [flG_step nm r c n row l col side way _ _ rfl rfl]
    split
    · rfl
    · split
      · rw [flG_len nm r c n, passL_len]
      · exact passL_len _ _ _
theorem marO_len (R C : Int) (l : List (Int × Int)) (j : Int) : (marO R C l j).cells.length = l.length := flG_len _ _ _ _ _ _ _ _ _
theorem afterL_len (R C : Int) (l : List (Int × Int)) (j : Int) (hn : l.length ≤ 1048576) : (afterL R C l j).length ≤ 1048576 := by
  unfold afterL
  split
  · rw [marO_len]; exact hn
  · simp
end Go.Proofs.YtlambflmabecfaaGreat
namespace Go.Proofs.YtlambflmabecfaaGreat
open Go.ChangeShapes Go.WideShapes Go.ChangeAt Go.RowKit Go.Joins Go.Deep
set_option linter.unusedSimpArgs false
set_option linter.unusedVariables false
set_option maxRecDepth 100000
set_option maxHeartbeats 2000000
def inI (lo hi n : Int) : Bool := decide (lo ≤ n) && decide (n ≤ hi)
def allI (lo hi : Int) (cs : List Int) : Bool := cs.all (inI lo hi)
theorem allI_bad {lo hi : Int} {cs : List Int} {k : Nat} (hk : k < cs.length) (h : inI lo hi cs[k] = false) : allI lo hi cs = false := by
  unfold allI
  rw [List.all_eq_false]
  exact ⟨cs[k], List.getElem_mem _, by rw [h]; simp⟩
def okC' (R C : Int) (l : List (Int × Int)) (cs : List Int) : Bool := goodB R C l && decide (cs.length ≤ 60) && allI 0 (C - 1) cs
end Go.Proofs.YtlambflmabecfaaGreat
namespace Go.Proofs.YtlambflmabecfaaGreat
open Go.ChangeShapes Go.WideShapes Go.ChangeAt Go.RowKit Go.Joins Go.Deep
set_option linter.unusedSimpArgs false
set_option linter.unusedVariables false
set_option maxRecDepth 100000
set_option maxHeartbeats 4000000
theorem flG_good (nm : List Int) (r c : Nat) : ∀ (n row : Nat) (l : List (Int × Int)) (col : Nat) (side : Int) (way : List (List Nat)), l.length = r * c → row + n ≤ r → col < c → (∀ x ∈ l, good x.1 x.2 = true) → ∀ x ∈ (flG nm r c n row l col side way).cells, good x.1 x.2 = true
  | 0, _, l, _, _, _, _, _, _, h => h
  | n + 1, row, l, col, side, way, hl, hrow, hcol, h => by
    have hi : row * c + col < l.length := by
      rw [hl]
      have h1 := Nat.mul_le_mul (show row + 1 ≤ r by omega) (Nat.le_refl c)
      rw [Nat.succ_mul] at h1
      omega
    rw [flG_step nm r c n row l col side way _ _ rfl rfl]
    split
    · exact h
    · split
      · next hin => exact flG_good nm r c n (row + 1) _ _ _ _ (by rw [passL_len]; exact hl) (by omega) (by omega) (passL_good hi h)
      · exact passL_good hi h
/-- The ends of the first k marbles, and the cells after them. -/
def stA (nm : List Int) (r c : Nat) (l : List (Int × Int)) (cs : List Int) : Nat → List (Int × Int × Int) × List (Int × Int)
  | 0 => ([], l)
  | k + 1 => ((stA nm r c l cs k).1 ++ [((flG nm r c r 0 (stA nm r c l cs k).2 (cs.getD k 0).toNat 0 []).e, (flG nm r c r 0 (stA nm r c l cs k).2 (cs.getD k 0).toNat 0 []).row, (flG nm r c r 0 (stA nm r c l cs k).2 (cs.getD k 0).toNat 0 []).col)],
      (flG nm r c r 0 (stA nm r c l cs k).2 (cs.getD k 0).toNat 0 []).cells)
theorem stA_len (nm : List Int) (r c : Nat) (l : List (Int × Int)) (cs : List Int) : ∀ k, (stA nm r c l cs k).1.length = k ∧ (stA nm r c l cs k).2.length = l.length
  | 0 => ⟨rfl, rfl⟩
  | k + 1 => by
    obtain ⟨h1, h2⟩ := stA_len nm r c l cs k
    unfold stA
    exact ⟨by rw [List.length_append, h1]; rfl, by rw [flG_len]; exact h2⟩
theorem stA_good (nm : List Int) {r c : Nat} {l : List (Int × Int)} {cs : List Int} (hl : l.length = r * c) (h : ∀ x ∈ l, good x.1 x.2 = true) (hcs : ∀ k, k < cs.length → 0 ≤ cs.getD k 0 ∧ cs.getD k 0 < c) : ∀ k, k ≤ cs.length → ∀ x ∈ (stA nm r c l cs k).2, good x.1 x.2 = true
  | 0, _ => h
  | k + 1, hk => by
    have ih := stA_good nm hl h hcs k (by omega)
    have hc := hcs k (by omega)
    unfold stA
    exact flG_good nm r c r 0 _ _ _ _ (by rw [(stA_len nm r c l cs k).2]; exact hl) (by omega) (by omega) ih
/-- Rows of ends. -/
def flatF (fs : List (Int × Int × Int)) : List Value := fs.flatMap fun f => [.int .i64 f.1, .int .i64 f.2.1, .int .i64 f.2.2]
theorem flatF_len (fs : List (Int × Int × Int)) : (flatF fs).length = fs.length * 3 := by
  unfold flatF
  induction fs with
  | nil => rfl
  | cons f fs ih => rw [List.flatMap_cons, List.length_append, ih, List.length_cons]; simp; omega
theorem flatF_app (a b : List (Int × Int × Int)) : flatF (a ++ b) = flatF a ++ flatF b := by unfold flatF; rw [List.flatMap_append]
theorem fallInfo : (Tryz.prog.info? 55).map (fun i => (i.zero, i.size, i.bytes)) = some (some (.agg #[.int .i64 0, .int .i64 0, .int .i64 0]), 3, 24) := by kernel_rfl
theorem allI_at {lo hi : Int} {cs : List Int} (h : allI lo hi cs = true) : ∀ k, k < cs.length → lo ≤ cs.getD k 0 ∧ cs.getD k 0 ≤ hi := fun k hk => by
  unfold allI at h
  have := List.all_eq_true.1 h _ (List.getElem_mem hk)
  unfold inI at this
  rw [List.getD_eq_getElem?_getD, List.getElem?_eq_getElem hk]
  simpa using this
end Go.Proofs.YtlambflmabecfaaGreat
namespace Go.Proofs.YtlambflmabecfaaGreat
open Go.ChangeShapes Go.WideShapes Go.ChangeAt Go.RowKit Go.Joins Go.Deep
set_option linter.unusedSimpArgs false
set_option linter.unusedVariables false
set_option maxRecDepth 100000
set_option maxHeartbeats 4000000
theorem three_cells3 {w : World} {o o' : Obj} {x y z : Value} {t : TypeId} : ∀ j u, [x, y, z][j]? = some u → (((w.alloc o).alloc o').alloc (.cells #[x, y, z] t)).cell? ((⟨w.heap.size + 1 + 1, 0, none⟩ : Addr).add j) = some u := by
  intro j u h
  have hn := heap_alloc_new ((w.alloc o).alloc o') (.cells #[x, y, z] t)
  rw [World.size_alloc, World.size_alloc] at hn
  have hw : Whole (((w.alloc o).alloc o').alloc (.cells #[x, y, z] t)) (w.heap.size + 1 + 1) t [x, y, z] := hn
  have hj := hw.cell j
  rw [h] at hj
  rw [← hj]
  by_cases h0 : j = 0
  · subst h0; simp [Addr.add]
  · simp [Addr.add, h0]
theorem three_oneF {a b c : Int} : ∀ u ∈ [Value.int .i64 a, Value.int .i64 b, Value.int .i64 c], u.oneCell' = true := by
  intro u hu
  simp only [List.mem_cons, List.not_mem_nil, or_false] at hu
  rcases hu with rfl | rfl | rfl <;> rfl
theorem three_farTB {w : World} {g a : Nat} {t : TypeId} {xs : List Value} {u0 u1 : Value} {B : Option Addr} {n cp : Nat} (h : Whole w g t xs) (hw : Whole w a 34 [.int .i64 0, .int .i64 0, .slice none 0 0]) (hne : t ≠ 34) : Whole (((w.setCell ⟨a, 0, none⟩ u0).setCell ⟨a, 1, none⟩ u1).setCell ⟨a, 2, none⟩ (.slice B n cp)) g t xs := by
  refine three_far h (fun e => ?_)
  subst e
  unfold Whole at h hw
  rw [h] at hw
  injection hw with hw
  injection hw with _ ht
  exact hne ht
theorem far_of {w : World} {g a : Nat} {t t' : TypeId} {xs ys : List Value} (h : Whole w g t xs) (hw : Whole w a t' ys) (hne : t ≠ t') : a ≠ g := by
  rintro rfl
  unfold Whole at h hw
  rw [h] at hw
  injection hw with hw
  injection hw with _ ht
  exact hne ht
theorem row_setFarW {w : World} {base : Nat} {e : TypeId} {size n : Nat} {v : Value} {xs : List Value} (h : w.ownsRow base e size v n xs) (p : Addr) (u : Value) (hne : some p.block ≠ v.ownBlock) : (w.setCell p u).ownsRow base e size v n xs := by
  refine ⟨h.1, ?_⟩
  rcases h.2 with h2 | ⟨g, cap, cur, rfl, h2, hh, h3⟩
  · exact .inl h2
  · have hne' : g ≠ p.block := fun e' => hne (by simp [Value.ownBlock, e'])
    exact .inr ⟨g, cap, cur, rfl, h2, (Below.heap_setCell w p u g hne').trans hh, h3⟩
end Go.Proofs.YtlambflmabecfaaGreat
namespace Go.Proofs.YtlambflmabecfaaGreat
open Go.ChangeShapes Go.WideShapes Go.ChangeAt Go.RowKit Go.Joins Go.Deep
set_option linter.unusedSimpArgs false
set_option linter.unusedVariables false
set_option maxRecDepth 100000
set_option maxHeartbeats 4000000
theorem okC'_parts {R C : Int} {l : List (Int × Int)} {cs : List Int} (h : okC' R C l cs = true) : goodB R C l = true ∧ cs.length ≤ 60 ∧ allI 0 (C - 1) cs = true := by
  unfold okC' at h
  simp only [Bool.and_eq_true, decide_eq_true_eq] at h
  exact ⟨h.1.1, h.1.2, h.2⟩
theorem row_base {w : World} {base base' : Nat} {e : TypeId} {size n : Nat} {v : Value} {xs : List Value} (h : w.ownsRow base e size v n xs) (hb : base' ≤ base) : w.ownsRow base' e size v n xs :=
  ⟨h.1, h.2.imp_right fun ⟨g, cap, cur, e1, e2, e3⟩ => ⟨g, cap, cur, e1, Nat.le_trans hb e2, e3⟩⟩
def fallsO (R C : Int) (l : List (Int × Int)) (cs : List Int) : List (Int × Int × Int) × List (Int × Int) := if okC' R C l cs then stA (numL C.toNat l) R.toNat C.toNat l cs cs.length else ([], [])
end Go.Proofs.YtlambflmabecfaaGreat
namespace Go.Proofs.YtlambflmabecfaaGreat
open Go.ChangeShapes Go.WideShapes Go.ChangeAt Go.RowKit Go.Joins Go.Deep
set_option linter.unusedSimpArgs false
set_option linter.unusedVariables false
set_option maxRecDepth 100000
set_option maxHeartbeats 4000000
def colsTo (R C : Int) (l : List (Int × Int)) (j : Int) : Nat → List Int
  | 0 => []
  | k + 1 => if (marO R C l k).e = 1 then (if (marO R C l k).col = j then colsTo R C l j k ++ [(k : Int)] else colsTo R C l j k) else colsTo R C l j k
theorem colsTo_le (R C : Int) (l : List (Int × Int)) (j : Int) (k : Nat) : (colsTo R C l j k).length ≤ k := by
  induction k with
  | zero => exact Nat.le_refl 0
  | succ k ih =>
    unfold colsTo
    split
    · split
      · rw [List.length_append, List.length_singleton]; omega
      · omega
    · omega
theorem colsTo_yes {R C : Int} {l : List (Int × Int)} {j : Int} {k : Nat} (h : (marO R C l k).e = 1) (h' : (marO R C l k).col = j) : ints (colsTo R C l j (k + 1)) = ints (colsTo R C l j k) ++ [.int .i64 (k : Int)] ∧ (colsTo R C l j (k + 1)).length = (colsTo R C l j k).length + 1 := by
  have e : colsTo R C l j (k + 1) = colsTo R C l j k ++ [(k : Int)] := by
    rw [colsTo, if_pos h, if_pos h']
  rw [e]
  simp [ints]
theorem colsTo_no {R C : Int} {l : List (Int × Int)} {j : Int} {k : Nat} (h : ¬ ((marO R C l k).e = 1 ∧ (marO R C l k).col = j)) : colsTo R C l j (k + 1) = colsTo R C l j k := by
  rw [colsTo]
  by_cases h1 : (marO R C l k).e = 1
  · rw [if_pos h1, if_neg (fun h2 => h ⟨h1, h2⟩)]
  · rw [if_neg h1]
def colsO (R C : Int) (l : List (Int × Int)) (j : Int) : List Int := if okF R C l j then colsTo R C l j C.toNat else []
end Go.Proofs.YtlambflmabecfaaGreat
namespace Go.Proofs.YtlambflmabecfaaGreat
open Go.ChangeShapes Go.WideShapes Go.ChangeAt Go.RowKit Go.Joins Go.Deep
set_option linter.unusedSimpArgs false
set_option linter.unusedVariables false
set_option maxRecDepth 100000
set_option maxHeartbeats 4000000
theorem heldFall : Tryz.prog.stoodInHeld 55 = false := by kernel_rfl
theorem guardFall : Tryz.prog.eqGuardType Tryz.prog.depth 55 = false := by kernel_rfl
def feq (R C : Int) (l : List (Int × Int)) (R' C' : Int) (m : List (Int × Int)) (k : Nat) : Bool := decide ((marO R C l k).e = (marO R' C' m k).e ∧ (marO R C l k).row = (marO R' C' m k).row ∧ (marO R C l k).col = (marO R' C' m k).col)
def feqTo (R C : Int) (l : List (Int × Int)) (R' C' : Int) (m : List (Int × Int)) : Nat → Bool
  | 0 => true
  | k + 1 => feqTo R C l R' C' m k && feq R C l R' C' m k
theorem feqTo_no {R C : Int} {l : List (Int × Int)} {R' C' : Int} {m : List (Int × Int)} {k : Nat} (h : feq R C l R' C' m k = false) : ∀ n, k < n → feqTo R C l R' C' m n = false
  | n + 1, hn => by
    rw [feqTo]
    by_cases hk : k = n
    · subst hk; rw [h, Bool.and_false]
    · rw [feqTo_no h n (by omega), Bool.false_and]
theorem feqTo_yes {R C : Int} {l : List (Int × Int)} {R' C' : Int} {m : List (Int × Int)} {k : Nat} (hF : feqTo R C l R' C' m k = true) (h : (marO R C l k).e = (marO R' C' m k).e ∧ (marO R C l k).row = (marO R' C' m k).row ∧ (marO R C l k).col = (marO R' C' m k).col) : feqTo R C l R' C' m (k + 1) = true := by
  rw [feqTo, hF, Bool.true_and]
  exact decide_eq_true h
theorem feqTo_not {R C : Int} {l : List (Int × Int)} {R' C' : Int} {m : List (Int × Int)} {k n : Nat} (hk : k < n) (h : ¬ ((marO R C l k).e = (marO R' C' m k).e ∧ (marO R C l k).row = (marO R' C' m k).row ∧ (marO R C l k).col = (marO R' C' m k).col)) : feqTo R C l R' C' m n = false :=
  feqTo_no (decide_eq_false h) n hk
def okS (R C : Int) (l : List (Int × Int)) (R' C' : Int) (m : List (Int × Int)) : Bool := goodB R C l && goodB R' C' m && decide (C = C')
def sameF (R C : Int) (l : List (Int × Int)) (R' C' : Int) (m : List (Int × Int)) : Bool := okS R C l R' C' m && feqTo R C l R' C' m C.toNat
theorem ret_bb {x y x' y' : Bool} (h : x = x') (h' : y = y') : Ending.returned (.tuple #[.bool x, .bool y]) = .returned (.tuple #[.bool x', .bool y']) := by rw [h, h']
end Go.Proofs.YtlambflmabecfaaGreat
namespace Go.Proofs.YtlambflmabecfaaGreat
open Go.ChangeShapes Go.WideShapes Go.ChangeAt Go.RowKit Go.Joins Go.Deep
set_option linter.unusedSimpArgs false
set_option linter.unusedVariables false
set_option maxRecDepth 100000
set_option maxHeartbeats 4000000
def okD (R C : Int) (l : List (Int × Int)) (R' C' : Int) (m : List (Int × Int)) (cs : List Int) : Bool := okC' R C l cs && goodB R' C' m && decide (C = C')
def firstAt (x y : List (Int × Int × Int)) : Nat → Nat → Option Nat
  | 0, _ => none
  | n + 1, k => if x.getD k (0, 0, 0) = y.getD k (0, 0, 0) then firstAt x y n (k + 1) else some k
theorem firstAt_same {x y : List (Int × Int × Int)} {n k : Nat} (h : k < n) (e : x.getD k (0, 0, 0) = y.getD k (0, 0, 0)) : firstAt x y (n - k) k = firstAt x y (n - (k + 1)) (k + 1) := by
  obtain ⟨d, hd⟩ : ∃ d, n - k = d + 1 := ⟨n - k - 1, by omega⟩
  rw [hd, firstAt, if_pos e, show n - (k + 1) = d by omega]
theorem firstAt_diff {x y : List (Int × Int × Int)} {n k : Nat} (h : k < n) (e : ¬ x.getD k (0, 0, 0) = y.getD k (0, 0, 0)) : firstAt x y (n - k) k = some k := by
  obtain ⟨d, hd⟩ : ∃ d, n - k = d + 1 := ⟨n - k - 1, by omega⟩
  rw [hd, firstAt, if_neg e]
theorem flatF_at (x : List (Int × Int × Int)) : ∀ k, k < x.length → (flatF x)[k * 3]? = some (.int .i64 (x.getD k (0, 0, 0)).1) ∧ (flatF x)[k * 3 + 1]? = some (.int .i64 (x.getD k (0, 0, 0)).2.1) ∧ (flatF x)[k * 3 + 2]? = some (.int .i64 (x.getD k (0, 0, 0)).2.2) := by
  induction x with
  | nil => intro k h; simp at h
  | cons a x ih =>
    intro k h
    have e : flatF (a :: x) = .int .i64 a.1 :: .int .i64 a.2.1 :: .int .i64 a.2.2 :: flatF x := rfl
    rw [e]
    cases k with
    | zero => exact ⟨rfl, rfl, rfl⟩
    | succ k =>
      obtain ⟨h0, h1, h2⟩ := ih k (by simpa using h)
      rw [show (k + 1) * 3 = k * 3 + 1 + 1 + 1 by omega]
      exact ⟨h0, h1, h2⟩
theorem row_fall {w : World} {base n cap k : Nat} {A : Option Addr} {x : List (Int × Int × Int)} (h : w.ownsRow base 55 3 (.slice A n cap) n (flatF x)) (hl : x.length = n) (hk : k < n) : ∃ g, A = some ⟨g, 0, none⟩ ∧ g < w.heap.size ∧ w.cell? ⟨g, k * 3, none⟩ = some (.int .i64 (x.getD k (0, 0, 0)).1) ∧ w.cell? ⟨g, k * 3 + 1, none⟩ = some (.int .i64 (x.getD k (0, 0, 0)).2.1) ∧ w.cell? ⟨g, k * 3 + 2, none⟩ = some (.int .i64 (x.getD k (0, 0, 0)).2.2) := by
  have ho := (own_of_row h).1
  obtain ⟨g, rest, rfl, X⟩ := ho (by rw [flatF_len]; omega)
  obtain ⟨h0, h1, h2⟩ := flatF_at x k (by omega)
  have hlen := flatF_len x
  refine ⟨g, rfl, X.lt, (X.cell _).trans ?_, (X.cell _).trans ?_, (X.cell _).trans ?_⟩
  · rw [List.getElem?_append_left (by omega)]; exact h0
  · rw [List.getElem?_append_left (by omega)]; exact h1
  · rw [List.getElem?_append_left (by omega)]; exact h2
def firstD (R C : Int) (l : List (Int × Int)) (R' C' : Int) (m : List (Int × Int)) (cs : List Int) : Option Nat := if okD R C l R' C' m cs then firstAt (stA (numL C.toNat l) R.toNat C.toNat l cs cs.length).1 (stA (numL C'.toNat m) R'.toNat C'.toNat m cs cs.length).1 cs.length 0 else none
end Go.Proofs.YtlambflmabecfaaGreat
namespace Go.Proofs.YtlambflmabecfaaGreat
open Go.ChangeShapes Go.WideShapes Go.ChangeAt Go.RowKit Go.Joins Go.Deep
set_option linter.unusedSimpArgs false
set_option linter.unusedVariables false
set_option maxRecDepth 100000
set_option maxHeartbeats 4000000
theorem field_kind (a b : Value) (w : World) : (Instr.field 95 (.agg #[a, b]) 0).run Tryz.prog w = .ok a w := by kernel_rfl
theorem spec_ggGroupsN (r c : Nat) (A : Option Addr) (cap : Nat) (l : List (Int × Int)) (w : World) (hG : Geo r c l.length) (hr : Rd w w.heap.size A (flat l)) :
    Calls Tryz.prog 64 #[.agg #[.int .i64 (r : Int), .int .i64 (c : Int), .slice A l.length cap]] w fun e w' => ∃ A' cap', e = .returned (.slice A' l.length cap') ∧ Own w' A' 3 (ints (numL c l)) ∧ New w A' ∧ Below w.heap.size w w' :=
  (spec_ggGroups r c A cap l w hG hr).mono fun e w' h => by
    obtain ⟨A', cap', rfl, a, b, d⟩ := h
    exact ⟨A', cap', by rw [numL_len], a, b, d⟩
def okT (R C : Int) (l : List (Int × Int)) (i j : Int) : Bool := hasB R C l i j && gearK l (atI C i j)
def turnG (R C : Int) (l : List (Int × Int)) (i j : Int) : List (Int × Int) := if okT R C l i j then tnS l (isIn C l (nmb C l (atI C i j))) else []
theorem turnG_len (R C : Int) (l : List (Int × Int)) (i j : Int) (h : l.length ≤ 1048576) : (turnG R C l i j).length ≤ 1048576 := by
  unfold turnG
  split
  · rw [tnS_len]; exact h
  · simp
theorem turnG_post {w w' : World} {R C : Int} {l : List (Int × Int)} {i j : Int} {e : Ending} {ok : Bool} (h : okT R C l i j = ok) (hp : if ok then PostB w R C (tnS l (isIn C l (nmb C l (atI C i j)))) true e w' else PostB w 0 0 [] false e w') :
    PostB w (selI (okT R C l i j) R) (selI (okT R C l i j) C) (turnG R C l i j) (okT R C l i j) e w' := by
  unfold turnG
  rw [h]
  cases ok
  · exact hp
  · exact hp
end Go.Proofs.YtlambflmabecfaaGreat
namespace Go.Proofs.YtlambflmabecfaaGreat
open Go.ChangeShapes Go.WideShapes Go.ChangeAt Go.RowKit Go.Joins Go.Deep
set_option linter.unusedSimpArgs false
set_option linter.unusedVariables false
set_option maxRecDepth 100000
set_option maxHeartbeats 4000000
theorem impl_groupWithN (r c : Nat) (A : Option Addr) (cap : Nat) (l : List (Int × Int)) (i : Nat) (w : World) (hG : Geo r c l.length) (hr : Rd w w.heap.size A (flat l)) (hi : i < l.length) (hJ : J l i = true) :
    Calls Tryz.prog 91 #[.agg #[.int .i64 (r : Int), .int .i64 (c : Int), .slice A l.length cap], .int .i64 (i : Int)] w fun e w' => ∃ A' cap', e = .returned (.slice A' (grpL (c : Int) l i).length cap') ∧ Own w' A' 3 (ints (nI (grpL (c : Int) l i))) ∧ New w A' ∧ Below w.heap.size w w' :=
  (impl_groupWith r c A cap l i w hG hr hi hJ).mono fun e w' h => by
    rw [grp_of_cell hG hi hJ] at h
    obtain ⟨A', cap', rfl, a, b, d⟩ := h
    exact ⟨A', cap', by rw [nI_length], a, b, d⟩
theorem impl_gearsAmongN (R C : Int) (A : Option Addr) (cap : Nat) (l : List (Int × Int)) (A1 : Option Addr) (cap1 : Nat) (q : List Nat) (w : World) (hr : Rd w w.heap.size A (flat l)) (hq : q.length ≤ 1048576) (hx : ∀ x ∈ q, x < l.length) (h1 : Rd w w.heap.size A1 (ints (nI q))) :
    Calls Tryz.prog 90 #[.agg #[.int .i64 R, .int .i64 C, .slice A l.length cap], .slice A1 q.length cap1] w fun e w' => ∃ A' cap', e = .returned (.slice A' (q.filter (gearK l)).length cap') ∧ Own w' A' 3 (ints (nI (q.filter (gearK l)))) ∧ New w A' ∧ Below w.heap.size w w' :=
  (impl_gearsAmong R C A cap l A1 cap1 q w hr hq hx h1).mono fun e w' h => by
    obtain ⟨A', cap', rfl, a, b, d⟩ := h
    exact ⟨A', cap', by rw [nI_length], a, b, d⟩
def gearsOf (C : Int) (l : List (Int × Int)) (k : Nat) : List Nat := (grpL C l k).filter (gearK l)
theorem gearsOf_at {C : Int} {l : List (Int × Int)} {k j : Nat} (hj : j < (gearsOf C l k).length) :
    (gearsOf C l k)[j] < l.length ∧ gearK l (gearsOf C l k)[j] = true ∧ (gearsOf C l k)[j] ∉ (gearsOf C l k).take j := by
  have hm := List.getElem_mem hj
  have hp : (gearsOf C l k).Pairwise (· < ·) := (List.pairwise_lt_range.filter _).filter _
  refine ⟨?_, ?_, fun h => ?_⟩
  · exact List.mem_range.1 (List.mem_filter.1 (List.mem_filter.1 hm).1).1
  · exact (List.mem_filter.1 hm).2
  · rw [List.mem_iff_getElem] at h
    obtain ⟨i, hi, hie⟩ := h
    rw [List.getElem_take] at hie
    rw [List.length_take] at hi
    have := List.pairwise_iff_getElem.1 hp i j (by omega) hj (by omega)
    omega
theorem gearsOf_len (C : Int) (l : List (Int × Int)) (k : Nat) : (gearsOf C l k).length ≤ l.length := by
  have h1 := List.length_filter_le (gearK l) (grpL C l k)
  have h2 := grpL_len C l k
  unfold gearsOf
  omega
theorem grpL_lt (C : Int) (l : List (Int × Int)) (k : Nat) : ∀ x ∈ grpL C l k, x < l.length := fun x hx => List.mem_range.1 (List.mem_filter.1 hx).1
def inTake (gs : List Nat) (j : Nat) (x : Nat) : Bool := (gs.take j).contains x
theorem inTake_step {l : List (Int × Int)} {gs : List Nat} {j : Nat} (hj : j < gs.length) (hx : gs[j] < l.length) :
    (tnS l (inTake gs j)).set gs[j] ((l.getD gs[j] (0, 0)).1, 1 - (l.getD gs[j] (0, 0)).2) = tnS l (inTake gs (j + 1)) := by
  refine tnS_set hx fun x _ => ?_
  unfold inTake
  rw [List.take_succ_eq_append_getElem hj, List.contains_eq_any_beq, List.contains_eq_any_beq, List.any_append]
  simp [eq_comm]
theorem inTake_zero {l : List (Int × Int)} {gs : List Nat} : tnS l (inTake gs 0) = l := by
  rw [show tnS l (inTake gs 0) = tnS l (fun _ => false) from tnS_congr fun x _ => by simp [inTake]]
  exact tnS_none
theorem inTake_all {C : Int} {l : List (Int × Int)} {k : Nat} : tnS l (inTake (gearsOf C l k) (gearsOf C l k).length) = tnS l (isIn C l (nmb C l k)) := by
  refine tnS_congr fun x hx => ?_
  unfold inTake isIn gearsOf grpL
  rw [List.take_length, Bool.eq_iff_iff, List.contains_iff_mem, List.mem_filter, List.mem_filter, List.mem_range, Bool.and_eq_true]
  exact ⟨fun h => ⟨h.1.2, h.2⟩, fun h => ⟨⟨hx, h.1⟩, h.2⟩⟩
theorem okT_join {R C : Int} {l : List (Int × Int)} {i j : Int} (h : okT R C l i j = true) : okJ R C l i j = true := by
  unfold okT at h
  rw [Bool.and_eq_true] at h
  unfold okJ
  rw [h.1, Bool.true_and]
  have h2 := h.2
  unfold gearK at h2
  rw [decide_eq_true_eq] at h2
  rw [h2]
  rfl
end Go.Proofs.YtlambflmabecfaaGreat
namespace Go.Proofs.YtlambflmabecfaaGreat
open Go.ChangeShapes Go.WideShapes Go.ChangeAt Go.RowKit Go.Joins Go.Deep
set_option linter.unusedSimpArgs false
set_option linter.unusedVariables false
set_option maxRecDepth 100000
set_option maxHeartbeats 1000000
theorem numL_congr {c : Nat} {l l' : List (Int × Int)} (hlen : l.length = l'.length) (hk : ∀ x, (l.getD x (0, 0)).1 = (l'.getD x (0, 0)).1) : numL c l = numL c l' := by
  unfold numL
  rw [show J l = J l' from funext fun x => by unfold J; rw [hk], hlen]
theorem tnS_kind {l : List (Int × Int)} {S : Nat → Bool} (x : Nat) : ((tnS l S).getD x (0, 0)).1 = (l.getD x (0, 0)).1 := by
  by_cases hx : x < l.length
  · have h1 : x < (tnS l S).length := by rw [tnS_len]; exact hx
    rw [List.getD_eq_getElem?_getD, List.getElem?_eq_getElem h1]
    show ((tnS l S)[x]).1 = _
    rw [tnS_at h1]
    split <;> rfl
  · have h1 : (tnS l S).getD x (0, 0) = (0, 0) := by rw [List.getD_eq_getElem?_getD, List.getElem?_eq_none (by rw [tnS_len]; omega)]; rfl
    have h2 : l.getD x (0, 0) = (0, 0) := by rw [List.getD_eq_getElem?_getD, List.getElem?_eq_none (by omega)]; rfl
    rw [h1, h2]
theorem passL_kind (nm : List Int) (l : List (Int × Int)) (i x : Nat) : ((passL nm l i).getD x (0, 0)).1 = (l.getD x (0, 0)).1 := by
  unfold passL
  split
  · rw [List.getD_eq_getElem?_getD, List.getElem?_set]
    by_cases e : i = x
    · subst e
      rw [if_pos rfl]
      by_cases hi : i < l.length
      · rw [if_pos hi, List.getD_eq_getElem?_getD]; rfl
      · rw [if_neg hi, List.getD_eq_getElem?_getD, List.getElem?_eq_none (by omega)]
    · rw [if_neg e, List.getD_eq_getElem?_getD]
  · split
    · exact tnS_kind x
    · rfl
theorem passL_num (c : Nat) (nm : List Int) (l : List (Int × Int)) (i : Nat) : numL c (passL nm l i) = numL c l :=
  numL_congr (passL_len nm l i) (passL_kind nm l i)
theorem numL_getD {c : Nat} {l : List (Int × Int)} {k : Nat} (hk : k < l.length) : (numL c l).getD k 0 = nmb (c : Int) l k := by
  have h := numL_at (c := c) hk
  unfold ints at h
  rw [List.getElem?_map] at h
  rw [List.getD_eq_getElem?_getD]
  cases he : (numL c l)[k]? with
  | none => rw [he] at h; simp at h
  | some v => rw [he] at h; simpa using h
theorem passL_gear {c : Nat} {l : List (Int × Int)} {i : Nat} (hi : i < l.length) (h6 : (l.getD i (0, 0)).1 = 6) : passL (numL c l) l i = tnS l (isIn (c : Int) l (nmb (c : Int) l i)) := by
  unfold passL
  rw [if_neg (by rw [h6]; decide), if_pos h6]
  refine tnS_congr fun x hx => ?_
  unfold pin isIn
  rw [numL_getD hx, numL_getD hi]
theorem passL_flip {nm : List Int} {l : List (Int × Int)} {i : Nat} (h3 : (l.getD i (0, 0)).1 = 3) : passL nm l i = l.set i (3, 1 - (l.getD i (0, 0)).2) := by
  unfold passL
  rw [if_pos h3, h3]
theorem passL_none {nm : List Int} {l : List (Int × Int)} {i : Nat} (h3 : (l.getD i (0, 0)).1 ≠ 3) (h6 : (l.getD i (0, 0)).1 ≠ 6) : passL nm l i = l := by
  unfold passL
  rw [if_neg h3, if_neg h6]
end Go.Proofs.YtlambflmabecfaaGreat
namespace Go.Proofs.YtlambflmabecfaaGreat
open Go.ChangeShapes Go.WideShapes Go.ChangeAt Go.RowKit Go.Joins Go.Deep
set_option linter.unusedSimpArgs false
set_option linter.unusedVariables false
set_option maxRecDepth 100000
set_option maxHeartbeats 4000000
theorem three_farC {w : World} {g a : Nat} {t : TypeId} {xs : List Value} {u0 u1 u2 : Value} (h : Whole w g t xs) (ne : a ≠ g) : Whole (((w.setCell ⟨a, 0, none⟩ u0).setCell ⟨a, 1, none⟩ u1).setCell ⟨a, 2, none⟩ u2) g t xs :=
  ((h.set_far ⟨a, 0, none⟩ u0 ne).set_far ⟨a, 1, none⟩ u1 ne).set_far ⟨a, 2, none⟩ u2 ne
theorem impl_cloneBoard (R C : Int) (b o cap : Nat) (l : List (Int × Int)) (w : World) (hn : l.length ≤ 1048576) (hr : Rd w w.heap.size (some ⟨b, o, none⟩) (flat l)) :
    Calls Tryz.prog 59 #[.agg #[.int .i64 R, .int .i64 C, .slice (some ⟨b, o, none⟩) l.length cap]] w (PostD w R C l) := by
  go_enter Tryz.func59, Tryz.ntmps59
  obtain ⟨v0, hv0, X0, X1, B0, hz0⟩ := two_boxes w [.int .i64 R, .int .i64 C, .slice (some ⟨b, o, none⟩) l.length cap] 34 [.int .i64 0, .int .i64 0, .slice none 0 0] 34; have HV := Lib.hid hv0; have hz : w.heap.size + 1 < v0.heap.size := (by omega); have hy : w.heap.size < v0.heap.size := (by omega); have hb0 := B0.size; clear hv0 hz0; go_wp2_with fail; rewrite [show (w.alloc (.cells ([.int .i64 R, .int .i64 C, .slice (some ⟨b, o, none⟩) l.length cap] : List Value).toArray 34)).alloc (.cells ([.int .i64 0, .int .i64 0, .slice none 0 0] : List Value).toArray 34) = v0 from HV.out]; clear HV
  have k0 : v0.cell? ⟨w.heap.size, 0, none⟩ = some (.int .i64 R) := (X0.cell 0).trans rfl
  have k1 : v0.cell? ⟨w.heap.size, 1, none⟩ = some (.int .i64 C) := (X0.cell 1).trans rfl
  have k2 : v0.cell? ⟨w.heap.size, 2, none⟩ = some (.slice (some ⟨b, o, none⟩) l.length cap) := (X0.cell 2).trans rfl
  have KS := Lib.hid (fun (w' : World) (h : Below v0.heap.size v0 w') => (⟨(h.cell (p := ⟨w.heap.size, 0, none⟩) hy).trans k0, (h.cell (p := ⟨w.heap.size, 1, none⟩) hy).trans k1, (h.cell (p := ⟨w.heap.size, 2, none⟩) hy).trans k2⟩ : w'.cell? ⟨w.heap.size, 0, none⟩ = some (.int .i64 R) ∧ w'.cell? ⟨w.heap.size, 1, none⟩ = some (.int .i64 C) ∧ w'.cell? ⟨w.heap.size, 2, none⟩ = some (.slice (some ⟨b, o, none⟩) l.length cap)))
  have KS2 := Lib.hid (fun (w' : World) (u u' u2 : Value) (h : Below v0.heap.size v0 w') => (⟨((three_farC (u0 := u) (u1 := u') (u2 := u2) (X0.below h X0.lt) (show w.heap.size + 1 ≠ w.heap.size by omega)).cell 0).trans rfl, ((three_farC (u0 := u) (u1 := u') (u2 := u2) (X0.below h X0.lt) (show w.heap.size + 1 ≠ w.heap.size by omega)).cell 1).trans rfl, ((three_farC (u0 := u) (u1 := u') (u2 := u2) (X0.below h X0.lt) (show w.heap.size + 1 ≠ w.heap.size by omega)).cell 2).trans rfl⟩ : (((w'.setCell ⟨w.heap.size + 1, 0, none⟩ u).setCell ⟨w.heap.size + 1, 1, none⟩ u').setCell ⟨w.heap.size + 1, 2, none⟩ u2).cell? ⟨w.heap.size, 0, none⟩ = some (.int .i64 R) ∧ (((w'.setCell ⟨w.heap.size + 1, 0, none⟩ u).setCell ⟨w.heap.size + 1, 1, none⟩ u').setCell ⟨w.heap.size + 1, 2, none⟩ u2).cell? ⟨w.heap.size, 1, none⟩ = some (.int .i64 C) ∧ (((w'.setCell ⟨w.heap.size + 1, 0, none⟩ u).setCell ⟨w.heap.size + 1, 1, none⟩ u').setCell ⟨w.heap.size + 1, 2, none⟩ u2).cell? ⟨w.heap.size, 2, none⟩ = some (.slice (some ⟨b, o, none⟩) l.length cap)))
  clear k0 k1 k2
  go_region_held3 (fun w' => w'.cell? ⟨w.heap.size, 0, none⟩ = some (.int .i64 R) ∧ w'.cell? ⟨w.heap.size, 1, none⟩ = some (.int .i64 C) ∧ w'.cell? ⟨w.heap.size, 2, none⟩ = some (.slice (some ⟨b, o, none⟩) l.length cap))
    (first | exact KS2.out w2 _ _ _ bb | exact KS.out _ (by (repeat' (first | (with_reducible exact Below.refl _ _) | (with_reducible assumption) | (with_reducible refine Below.alloc ?_ ?_ _) | (with_reducible refine Below.setCell ?_ ?_ _) | (with_reducible refine Below.drew ?_) | (with_reducible refine below_drewN ?_ _) | (with_reducible refine Below.trans ?_ (Below.mono (by assumption) ?_)) | go_size))) | fail)
    ((first
      | (go_at_call 67; (with_reducible refine (Clone_any b o cap l _ hn ?_).mono ?_); (focus exact (hr.below (B0.trans ((by (repeat' (first | (with_reducible exact Below.refl _ _) | (with_reducible assumption) | (with_reducible refine Below.alloc ?_ ?_ _) | (with_reducible refine Below.setCell ?_ ?_ _) | (with_reducible refine Below.drew ?_) | (with_reducible refine below_drewN ?_ _) | (with_reducible refine Below.trans ?_ (Below.mono (by assumption) ?_)) | go_size)) : Below v0.heap.size v0 _).mono B0.size))).mono (Nat.le_trans B0.size (by (repeat' (first | (with_reducible exact Below.refl _ _) | (with_reducible assumption) | (with_reducible refine Below.alloc ?_ ?_ _) | (with_reducible refine Below.setCell ?_ ?_ _) | (with_reducible refine Below.drew ?_) | (with_reducible refine below_drewN ?_ _) | (with_reducible refine Below.trans ?_ (Below.mono (by assumption) ?_)) | go_size)) : Below v0.heap.size v0 _).size)); rintro e w2 ⟨A5, c5, rfl, o5, n5, b2⟩; have bb : Below v0.heap.size v0 w2 := (by (repeat' (first | (with_reducible exact Below.refl _ _) | (with_reducible assumption) | (with_reducible refine Below.alloc ?_ ?_ _) | (with_reducible refine Below.setCell ?_ ?_ _) | (with_reducible refine Below.drew ?_) | (with_reducible refine below_drewN ?_ _) | (with_reducible refine Below.trans ?_ (Below.mono (by assumption) ?_)) | go_size))); have s2 : v0.heap.size ≤ w2.heap.size := bb.size; have Z := X1.below bb X1.lt; have Zk0 : w2.cell? ⟨w.heap.size + 1, 0, none⟩ = some (.int .i64 0) := (Z.cell 0).trans rfl; have Zk1 : w2.cell? ⟨w.heap.size + 1, 1, none⟩ = some (.int .i64 0) := (Z.cell 1).trans rfl; have Zk2 : w2.cell? ⟨w.heap.size + 1, 2, none⟩ = some (.slice none 0 0) := (Z.cell 2).trans rfl; have Zf0 := Z.frozen 0; have Zf1 := Z.frozen 1; have Zf2 := Z.frozen 2; replace n5 : New v0 A5 := n5.mono (by (repeat' (first | (with_reducible exact Below.refl _ _) | (with_reducible assumption) | (with_reducible refine Below.alloc ?_ ?_ _) | (with_reducible refine Below.setCell ?_ ?_ _) | (with_reducible refine Below.drew ?_) | (with_reducible refine below_drewN ?_ _) | (with_reducible refine Below.trans ?_ (Below.mono (by assumption) ?_)) | go_size)) : Below v0.heap.size v0 _).size)
      | fail))
  all_goals go_wp2
  all_goals (refine bodyPost_ret (v := .agg #[.int .i64 R, .int .i64 C, .slice A5 l.length c5]) ?_ rfl ?_; (focus (simp [results, Tryz.results59, go_sem, *]; done)))
  all_goals (have hap : ∀ a, A5 = some a → w.heap.size + 1 ≠ a.block := fun a ha => by have h := n5 a ha; omega)
  all_goals exact PostD.mk (((o5.set_far ⟨w.heap.size + 1, 0, none⟩ _ hap).set_far ⟨w.heap.size + 1, 1, none⟩ _ hap).set_far ⟨w.heap.size + 1, 2, none⟩ _ hap) (fun a ha => by have h := n5 a ha; omega) (by have b3 := B0.trans (bb.mono B0.size); exact ((b3.setCell (p := ⟨w.heap.size + 1, 0, none⟩) (by show w.heap.size ≤ w.heap.size + 1; omega) _).setCell (p := ⟨w.heap.size + 1, 1, none⟩) (by show w.heap.size ≤ w.heap.size + 1; omega) _).setCell (p := ⟨w.heap.size + 1, 2, none⟩) (by show w.heap.size ≤ w.heap.size + 1; omega) _)
end Go.Proofs.YtlambflmabecfaaGreat
namespace Go.Proofs.YtlambflmabecfaaGreat
open Go.ChangeShapes Go.WideShapes Go.ChangeAt Go.RowKit Go.Joins Go.Deep
set_option linter.unusedSimpArgs false
set_option linter.unusedVariables false
set_option maxRecDepth 100000
set_option maxHeartbeats 8000000
theorem Whole.rdA {w : World} {g : Nat} {t : TypeId} {xs rest : List Value} (h : Whole w g t (xs ++ rest)) : Rd w w.heap.size (some ⟨g, 0, none⟩) xs := Own.rd (t := t) (fun _ => ⟨g, rest, rfl, h⟩)
theorem impl_TurnCell_ok (a b : Int) (h : good a b = true) (ht : a = 3 ∨ a = 6) (w : World) :
    Calls Tryz.prog 82 #[.agg #[.int .i64 a, .int .i64 b]] w fun e w' => e = .returned (.tuple #[.agg #[.int .i64 a, .int .i64 (1 - b)], .bool true]) ∧ Below w.heap.size w w' :=
  (impl_TurnCell a b w).mono fun e w' ⟨h1, h2⟩ => ⟨by
    rw [h1, h]
    rcases ht with rfl | rfl <;> rfl, h2⟩
theorem impl_turnGroup (r c g5 cap : Nat) (l : List (Int × Int)) (rest5 : List Value) (i : Nat) (w : World) (hG : Geo r c l.length) (hi : i < l.length) (h6 : (l.getD i (0, 0)).1 = 6) (hn : l.length ≤ 1048576) (hgd : ∀ x ∈ l, good x.1 x.2 = true)
    (X7 : Whole w g5 95 (flat l ++ rest5)) :
    Calls Tryz.prog 83 #[.agg #[.int .i64 (r : Int), .int .i64 (c : Int), .slice (some ⟨g5, 0, none⟩) l.length cap], .int .i64 (i : Int)] w
      fun e w' => e = .returned (.tuple #[]) ∧ Whole w' g5 95 (flat (passL (numL c l) l i) ++ rest5) ∧ w.grownBy w' (some g5) := by
  have HJ := Lib.hid (show J l i = true by unfold J; rw [h6]; rfl)
  have HGood := Lib.hid (fun k (hk : k < l.length) => hgd _ (List.getElem_mem hk))
  have HP := Lib.hid ((passL_gear (c := c) hi h6).trans inTake_all.symm)
  clear hgd h6
  go_enter Tryz.func83, Tryz.ntmps83
  obtain ⟨v0, hv0⟩ : ∃ v, v = w.alloc (.cells #[.int .i64 (r : Int), .int .i64 (c : Int), .slice (some ⟨g5, 0, none⟩) l.length cap] 34) := ⟨_, rfl⟩
  have X0 : Whole v0 w.heap.size 34 [.int .i64 (r : Int), .int .i64 (c : Int), .slice (some ⟨g5, 0, none⟩) l.length cap] := by rw [hv0]; exact heap_alloc_new w _
  have hb : Below w.heap.size w v0 := by rw [hv0]; exact (Below.refl _ _).alloc (Nat.le_refl _) _
  have HV := Lib.hid hv0.symm
  clear hv0
  go_upto_region 1 with (fail)
  rewrite [HV.out]
  clear HV
  have h5 := X7.lt
  replace X7 := X7.below hb h5
  have hgb : w.grownBy v0 (some g5) := gb_below (gb_refl w g5) hb
  have hy := X0.lt
  have hb0 := hb.size
  have hr2 := X7.rdA
  have hgl := grpL_len (c : Int) l i
  have k0 : v0.cell? ⟨w.heap.size, 0, none⟩ = some (.int .i64 (r : Int)) := (X0.cell 0).trans rfl
  have k1 : v0.cell? ⟨w.heap.size, 1, none⟩ = some (.int .i64 (c : Int)) := (X0.cell 1).trans rfl
  have k2 : v0.cell? ⟨w.heap.size, 2, none⟩ = some (.slice (some ⟨g5, 0, none⟩) l.length cap) := (X0.cell 2).trans rfl
  have KS := Lib.hid (fun (w' : World) (h : Below v0.heap.size v0 w') => (⟨(h.cell (p := ⟨w.heap.size, 0, none⟩) hy).trans k0, (h.cell (p := ⟨w.heap.size, 1, none⟩) hy).trans k1, (h.cell (p := ⟨w.heap.size, 2, none⟩) hy).trans k2⟩ : w'.cell? ⟨w.heap.size, 0, none⟩ = some (.int .i64 (r : Int)) ∧ w'.cell? ⟨w.heap.size, 1, none⟩ = some (.int .i64 (c : Int)) ∧ w'.cell? ⟨w.heap.size, 2, none⟩ = some (.slice (some ⟨g5, 0, none⟩) l.length cap)))
  clear k0 k1 k2
  go_region_held3 (fun w' => w'.cell? ⟨w.heap.size, 0, none⟩ = some (.int .i64 (r : Int)) ∧ w'.cell? ⟨w.heap.size, 1, none⟩ = some (.int .i64 (c : Int)) ∧ w'.cell? ⟨w.heap.size, 2, none⟩ = some (.slice (some ⟨g5, 0, none⟩) l.length cap))
    (first | exact KS.out _ (by (repeat' (first | (with_reducible exact Below.refl _ _) | (with_reducible assumption) | (with_reducible refine Below.alloc ?_ ?_ _) | (with_reducible refine Below.setCell ?_ ?_ _) | (with_reducible refine Below.drew ?_) | (with_reducible refine below_drewN ?_ _) | (with_reducible refine Below.trans ?_ (Below.mono (by assumption) ?_)) | go_size))) | fail)
    ((first
      | (go_at_call 91; (with_reducible refine (impl_groupWithN r c _ cap l i _ hG ?_ hi HJ.out).mono ?_); (focus exact (hr2.below (by (repeat' (first | (with_reducible exact Below.refl _ _) | (with_reducible assumption) | (with_reducible refine Below.alloc ?_ ?_ _) | (with_reducible refine Below.setCell ?_ ?_ _) | (with_reducible refine Below.drew ?_) | (with_reducible refine below_drewN ?_ _) | (with_reducible refine Below.trans ?_ (Below.mono (by assumption) ?_)) | go_size)))).mono (by (repeat' (first | (with_reducible exact Below.refl _ _) | (with_reducible assumption) | (with_reducible refine Below.alloc ?_ ?_ _) | (with_reducible refine Below.setCell ?_ ?_ _) | (with_reducible refine Below.drew ?_) | (with_reducible refine below_drewN ?_ _) | (with_reducible refine Below.trans ?_ (Below.mono (by assumption) ?_)) | go_size)) : Below v0.heap.size v0 _).size); rintro e w3 ⟨A3, c3, rfl, o3, n3, b3⟩; have bb3 : Below v0.heap.size v0 w3 := (by (repeat' (first | (with_reducible exact Below.refl _ _) | (with_reducible assumption) | (with_reducible refine Below.alloc ?_ ?_ _) | (with_reducible refine Below.setCell ?_ ?_ _) | (with_reducible refine Below.drew ?_) | (with_reducible refine below_drewN ?_ _) | (with_reducible refine Below.trans ?_ (Below.mono (by assumption) ?_)) | go_size))); have s3 : v0.heap.size ≤ w3.heap.size := bb3.size)
      | (go_at_call 90; (with_reducible refine (impl_gearsAmongN (r : Int) (c : Int) _ cap l A3 c3 (grpL (c : Int) l i) _ ?_ (by omega) (grpL_lt _ _ _) ?_).mono ?_); (focus exact (hr2.below (by (repeat' (first | (with_reducible exact Below.refl _ _) | (with_reducible assumption) | (with_reducible refine Below.alloc ?_ ?_ _) | (with_reducible refine Below.setCell ?_ ?_ _) | (with_reducible refine Below.drew ?_) | (with_reducible refine below_drewN ?_ _) | (with_reducible refine Below.trans ?_ (Below.mono (by assumption) ?_)) | go_size)))).mono (by (repeat' (first | (with_reducible exact Below.refl _ _) | (with_reducible assumption) | (with_reducible refine Below.alloc ?_ ?_ _) | (with_reducible refine Below.setCell ?_ ?_ _) | (with_reducible refine Below.drew ?_) | (with_reducible refine below_drewN ?_ _) | (with_reducible refine Below.trans ?_ (Below.mono (by assumption) ?_)) | go_size)) : Below v0.heap.size v0 _).size); (focus exact (o3.rd.below (by (repeat' (first | (with_reducible exact Below.refl _ _) | (with_reducible assumption) | (with_reducible refine Below.alloc ?_ ?_ _) | (with_reducible refine Below.setCell ?_ ?_ _) | (with_reducible refine Below.drew ?_) | (with_reducible refine below_drewN ?_ _) | (with_reducible refine Below.trans ?_ (Below.mono (by assumption) ?_)) | go_size)))).mono (by (repeat' (first | (with_reducible exact Below.refl _ _) | (with_reducible assumption) | (with_reducible refine Below.alloc ?_ ?_ _) | (with_reducible refine Below.setCell ?_ ?_ _) | (with_reducible refine Below.drew ?_) | (with_reducible refine below_drewN ?_ _) | (with_reducible refine Below.trans ?_ (Below.mono (by assumption) ?_)) | go_size)) : Below w3.heap.size w3 _).size); rintro e w4 ⟨A4, c4, rfl, o4, n4, b4⟩; have bb4 : Below v0.heap.size v0 w4 := (by (repeat' (first | (with_reducible exact Below.refl _ _) | (with_reducible assumption) | (with_reducible refine Below.alloc ?_ ?_ _) | (with_reducible refine Below.setCell ?_ ?_ _) | (with_reducible refine Below.drew ?_) | (with_reducible refine below_drewN ?_ _) | (with_reducible refine Below.trans ?_ (Below.mono (by assumption) ?_)) | go_size))))
      | fail))
  rewrite [show (grpL (c : Int) l i).filter (gearK l) = gearsOf (c : Int) l i from rfl]
  rw [show (grpL (c : Int) l i).filter (gearK l) = gearsOf (c : Int) l i from rfl] at o4
  have n4' : ∀ a, A4 = some a → v0.heap.size ≤ a.block := fun a ha => Nat.le_trans s3 (n4 a ha)
  clear KS b3 b4 n3 n4 o3 s3 bb3 hr2
  have h5' : g5 < v0.heap.size := X7.lt
  replace X0 := X0.below bb4 X0.lt
  replace X7 := X7.below bb4 X7.lt
  replace hgb := gb_below hgb bb4
  clear bb4 hb hb0 hy
  rw [← inTake_zero (l := l) (gs := gearsOf (c : Int) l i)] at X7
  have hgn := gearsOf_len (c : Int) l i
  have HAt := Lib.hid (fun j => gearsOf_at (C := (c : Int)) (l := l) (k := i) (j := j))
  have HSt := Lib.hid (fun j => inTake_step (l := l) (gs := gearsOf (c : Int) l i) (j := j))
  generalize gearsOf (c : Int) l i = gs at *
  generalize v0.heap.size = base at *
  go_wp2_with fail
  go_loopw [12] (fun t wr => ∃ k : Nat, t = .int .i64 k ∧ k ≤ gs.length ∧ Whole wr w.heap.size 34 [.int .i64 (r : Int), .int .i64 (c : Int), .slice (some ⟨g5, 0, none⟩) l.length cap] ∧ Whole wr g5 95 (flat (tnS l (inTake gs k)) ++ rest5) ∧ Own wr A4 3 (ints (nI gs)) ∧ w.grownBy wr (some g5)) (fun t _ => gs.length - (intOf t).toNat)
  case atStart => exact ⟨0, rfl, Nat.zero_le _, X0, X7, o4, hgb⟩
  case round =>
    clear X0 X7 o4 hgb
    obtain ⟨k, rfl, hk, X0, X7, o4, hgb⟩ := hrel
    by_cases hlt : k < gs.length
    · obtain ⟨hyl, hyg, hyn⟩ := HAt.out k hlt
      have hstep := HSt.out k hlt hyl
      obtain ⟨g4, rest4, rfl, X4⟩ := o4 (by rw [ints_length, nI_length]; omega)
      have h4 : base ≤ g4 := n4' _ rfl
      have hck := row_num X4 hlt
      have hTl : gs[k] < (tnS l (inTake gs k)).length := by rw [tnS_len]; exact hyl
      have hget : l.getD gs[k] (0, 0) = l[gs[k]] := by rw [List.getD_eq_getElem?_getD, List.getElem?_eq_getElem hyl]; rfl
      have hT : (tnS l (inTake gs k))[gs[k]] = l[gs[k]] := by
        rw [tnS_at hTl, hget]
        have : inTake gs k gs[k] = false := by unfold inTake; simpa using hyn
        rw [this]
        rfl
      have h6 : l[gs[k]].1 = 6 := by unfold gearK at hyg; rw [hget] at hyg; simpa using hyg
      have hgood := HGood.out gs[k] hyl
      rw [hget, h6] at hstep
      have HSet := flat_set (tnS l (inTake gs k)) gs[k] 6 (1 - l[gs[k]].2) hTl rest5
      rw [hstep] at HSet
      have u0 : (flat (tnS l (inTake gs k)) ++ rest5)[gs[k] * 2]? = some (.int .i64 6) := by rw [List.getElem?_append_left (by rw [flat_length]; omega), (flat_at _ gs[k] hTl).1, hT, h6]
      have u1 : (flat (tnS l (inTake gs k)) ++ rest5)[gs[k] * 2 + 1]? = some (.int .i64 l[gs[k]].2) := by rw [List.getElem?_append_left (by rw [flat_length]; omega), (flat_at _ gs[k] hTl).2, hT]
      rw [h6] at hgood
      have HSet' := Lib.hid HSet
      have U0 := Lib.hid u0
      have U1 := Lib.hid u1
      have hs := hgb.size
      have hyw : w.heap.size < wr.heap.size := X0.lt
      have HTC := Lib.hid (impl_TurnCell_ok 6 l[gs[k]].2 hgood (.inr rfl))
      clear hTl hT hget h6 hstep hyg hyn HSet hgood u0 u1
      generalize l[gs[k]].2 = st' at *
      generalize gs[k] = y at *
      go_upto_region 4 with (fail)
      clear hck
      have bd : Below wr.heap.size wr wr.drew := (Below.refl _ _).drew
      replace X0 := X0.below bd X0.lt
      replace X4 := X4.below bd X4.lt
      replace X7 := X7.below bd X7.lt
      replace hgb := gb_below hgb bd
      have hk2 : wr.drew.cell? ⟨w.heap.size, 2, none⟩ = some (.slice (some ⟨g5, 0, none⟩) l.length cap) := (X0.cell 2).trans rfl
      have q0 : wr.drew.cell? ⟨g5, y * 2, none⟩ = some (.int .i64 6) := (X7.cell _).trans U0.out
      have q1 : wr.drew.cell? ⟨g5, y * 2 + 1, none⟩ = some (.int .i64 st') := (X7.cell _).trans U1.out
      clear bd
      go_region_law (first
        | (go_simp; (with_reducible refine Calls.mono (HTC.out _) ?_); rintro e w5 ⟨rfl, b5⟩; replace X0 := X0.below b5 X0.lt; replace X4 := X4.below b5 X4.lt; replace X7 := X7.below b5 X7.lt; replace hgb := gb_below hgb b5; replace hk2 : w5.cell? ⟨w.heap.size, 2, none⟩ = some (.slice (some ⟨g5, 0, none⟩) l.length cap) := (X0.cell 2).trans rfl; replace q0 : w5.cell? ⟨g5, y * 2, none⟩ = some (.int .i64 6) := (X7.cell _).trans U0.out; replace q1 : w5.cell? ⟨g5, y * 2 + 1, none⟩ = some (.int .i64 st') := (X7.cell _).trans U1.out; have f0 := X7.frozen (y * 2); have f1 := X7.frozen (y * 2 + 1); clear b5)
        | fail)
      all_goals (go_wp2; go_roundw)
      all_goals first
        | (refine ⟨k + 1, by go_num, by omega, X0.two_far (by omega), ?_, fun _ => ⟨g4, rest4, rfl, X4.two_far (by omega)⟩, gb_set2 hgb⟩; rewrite [← HSet'.out]; exact (X7.set (y * 2) (.int .i64 6)).set (y * 2 + 1) (.int .i64 (1 - st')))
        | (simp [intOf]; omega)
        | fail
    · obtain rfl : k = gs.length := by omega
      rw [← HP.out] at X7
      go_wp2
      go_returns
      exact ⟨rfl, X7, hgb⟩
end Go.Proofs.YtlambflmabecfaaGreat
namespace Go.Proofs.YtlambflmabecfaaGreat
open Go.ChangeShapes Go.WideShapes Go.ChangeAt Go.RowKit Go.Joins Go.Deep
set_option linter.unusedSimpArgs false
set_option linter.unusedVariables false
set_option maxRecDepth 100000
set_option maxHeartbeats 8000000
theorem impl_turnBehind (r c g5 cap : Nat) (l : List (Int × Int)) (rest5 : List Value) (i : Nat) (w : World) (hG : Geo r c l.length) (hi : i < l.length) (hn : l.length ≤ 1048576) (hgd : ∀ x ∈ l, good x.1 x.2 = true)
    (X7 : Whole w g5 95 (flat l ++ rest5)) :
    Calls Tryz.prog 78 #[.agg #[.int .i64 (r : Int), .int .i64 (c : Int), .slice (some ⟨g5, 0, none⟩) l.length cap], .int .i64 (i : Int)] w
      fun e w' => e = .returned (.tuple #[]) ∧ Whole w' g5 95 (flat (passL (numL c l) l i) ++ rest5) ∧ w.grownBy w' (some g5) := by
  have hget : l.getD i (0, 0) = l[i] := by rw [List.getD_eq_getElem?_getD, List.getElem?_eq_getElem hi]; rfl
  have u0 : (flat l ++ rest5)[i * 2]? = some (.int .i64 (l.getD i (0, 0)).1) := by rw [hget, List.getElem?_append_left (by rw [flat_length]; omega), (flat_at _ i hi).1]
  have u1 : (flat l ++ rest5)[i * 2 + 1]? = some (.int .i64 (l.getD i (0, 0)).2) := by rw [hget, List.getElem?_append_left (by rw [flat_length]; omega), (flat_at _ i hi).2]
  have hgood : good (l.getD i (0, 0)).1 (l.getD i (0, 0)).2 = true := by rw [hget]; exact hgd _ (List.getElem_mem hi)
  have HY3 := Lib.hid (passL_flip (nm := numL c l) (l := l) (i := i))
  have HY0 := Lib.hid (passL_none (nm := numL c l) (l := l) (i := i))
  have HQ := Lib.hid (fun w (h6 : (l.getD i (0, 0)).1 = 6) X => impl_turnGroup r c g5 cap l rest5 i w hG hi h6 hn hgd X)
  have HSet := Lib.hid (fun x y => flat_set l i x y hi rest5)
  generalize (l.getD i (0, 0)).1 = kd at *
  generalize (l.getD i (0, 0)).2 = st at *
  generalize passL (numL c l) l i = P at *
  clear hgd hG hget
  have hc0 : w.cell? ⟨g5, i * 2, none⟩ = some (.int .i64 kd) := (X7.cell _).trans u0
  have U0 := Lib.hid u0
  have U1 := Lib.hid u1
  clear u0 u1
  have h5 := X7.lt
  have hb1 : Below w.heap.size w (w.alloc (.cells #[.int .i64 (r : Int), .int .i64 (c : Int), .slice (some ⟨g5, 0, none⟩) l.length cap] 34)) := (Below.refl _ _).alloc (Nat.le_refl _) _
  by_cases h3 : kd = 3
  · subst h3
    go_enter Tryz.func78, Tryz.ntmps78
    go_upto_region 3 with (fail)
    obtain ⟨v0, hv0⟩ : ∃ v, v = w.alloc (.cells #[.int .i64 (r : Int), .int .i64 (c : Int), .slice (some ⟨g5, 0, none⟩) l.length cap] 34) := ⟨_, rfl⟩
    have X0 : Whole v0 w.heap.size 34 [.int .i64 (r : Int), .int .i64 (c : Int), .slice (some ⟨g5, 0, none⟩) l.length cap] := by rw [hv0]; exact heap_alloc_new w _
    rewrite [← hv0] at hb1 ⊢
    clear hv0
    replace X7 := X7.below hb1 h5
    have hgb : w.grownBy v0 (some g5) := gb_below (gb_refl w g5) hb1
    have bd : Below v0.heap.size v0 v0.drew := (Below.refl _ _).drew
    replace X0 := X0.below bd X0.lt
    replace X7 := X7.below bd X7.lt
    replace hgb := gb_below hgb bd
    have HTC := Lib.hid (impl_TurnCell_ok 3 st hgood (.inl rfl))
    have hk2 : v0.drew.cell? ⟨w.heap.size, 2, none⟩ = some (.slice (some ⟨g5, 0, none⟩) l.length cap) := (X0.cell 2).trans rfl
    have q0 : v0.drew.cell? ⟨g5, i * 2, none⟩ = some (.int .i64 3) := (X7.cell _).trans U0.out
    have q1 : v0.drew.cell? ⟨g5, i * 2 + 1, none⟩ = some (.int .i64 st) := (X7.cell _).trans U1.out
    clear bd hc0 hb1 hgood
    go_region_law (first
      | (go_simp; (with_reducible refine Calls.mono (HTC.out _) ?_); rintro e w5 ⟨rfl, b5⟩; replace X0 := X0.below b5 X0.lt; replace X7 := X7.below b5 X7.lt; replace hgb := gb_below hgb b5; replace hk2 : w5.cell? ⟨w.heap.size, 2, none⟩ = some (.slice (some ⟨g5, 0, none⟩) l.length cap) := (X0.cell 2).trans rfl; replace q0 : w5.cell? ⟨g5, i * 2, none⟩ = some (.int .i64 3) := (X7.cell _).trans U0.out; replace q1 : w5.cell? ⟨g5, i * 2 + 1, none⟩ = some (.int .i64 st) := (X7.cell _).trans U1.out; have f0 := X7.frozen (i * 2); have f1 := X7.frozen (i * 2 + 1); clear b5)
      | fail)
    all_goals (go_wp2; go_returns)
    all_goals (refine ⟨rfl, ?_, gb_set2 hgb⟩; rewrite [HY3.out trivial, ← HSet.out]; exact (X7.set (i * 2) (.int .i64 3)).set (i * 2 + 1) (.int .i64 (1 - st)))
  · by_cases h6 : kd = 6
    · subst h6
      go_enter Tryz.func78, Tryz.ntmps78
      go_wp2_with fail
      have X7' := X7.below hb1 h5
      refine (HQ.out _ trivial X7').mono ?_; rintro e w5 ⟨rfl, Y, gb⟩
      have hg2 : w.grownBy w5 (some g5) := ⟨gb.os.trans hb1.os, gb.tape.trans hb1.tape, gb.output.trans hb1.output, Nat.le_trans hb1.size gb.size, fun k hk hne => (gb.block k (Nat.lt_of_lt_of_le hk hb1.size) hne).trans (hb1.block k hk)⟩
      clear hc0 gb hb1 X7' HQ
      go_wp2
      go_returns
      exact ⟨rfl, Y, hg2⟩
    · go_enter Tryz.func78, Tryz.ntmps78
      have hE := HY0.out h3 h6
      have HG := Lib.hid (gb_below (gb_refl w g5) hb1)
      have HX := Lib.hid (X7.below hb1 h5)
      rewrite [hE]
      clear hE hb1 HQ HY0 HY3
      go_wp2
      go_returns
      exact ⟨rfl, HX.out, HG.out⟩
end Go.Proofs.YtlambflmabecfaaGreat
