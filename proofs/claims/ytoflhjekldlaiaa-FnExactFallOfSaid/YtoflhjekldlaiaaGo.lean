/- flGo, the model's: the way of a marble. -/
import Derived.Deep.RegionLaw
import Derived.Test.YtoflhjekldlaiaaPass
import Derived.Test.YtoflhjekldlaiaaLRow
namespace Go.Proofs.Ytoflhjekldlaiaa
open Go.ChangeShapes Go.WideShapes Go.ChangeAt Go.RowKit Go.Joins Go.Deep
set_option linter.unusedSimpArgs false
set_option linter.unusedVariables false
set_option maxRecDepth 100000
set_option maxHeartbeats 4000000
structure FlR where
  e : Int
  row : Int
  col : Int
  cells : List (Int × Int)
  way : List (List Nat)
def flG (nm : List Int) (r c : Nat) : Nat → Nat → List (Int × Int) → Nat → Int → List (List Nat) → FlR
  | 0, _, l, col, _, way => ⟨1, r, col, l, way⟩
  | n + 1, row, l, col, side, way =>
    if (l.getD (row * c + col) (0, 0)).1 = 5 then ⟨2, row, col, l, way ++ [[row, col]]⟩
    else if 0 ≤ (col : Int) + goN (l.getD (row * c + col) (0, 0)).1 (l.getD (row * c + col) (0, 0)).2 side ∧ (col : Int) + goN (l.getD (row * c + col) (0, 0)).1 (l.getD (row * c + col) (0, 0)).2 side < c
      then flG nm r c n (row + 1) (passL nm l (row * c + col)) ((col : Int) + goN (l.getD (row * c + col) (0, 0)).1 (l.getD (row * c + col) (0, 0)).2 side).toNat (-goN (l.getD (row * c + col) (0, 0)).1 (l.getD (row * c + col) (0, 0)).2 side) (way ++ [[row, col]])
      else ⟨3, row, (col : Int) + goN (l.getD (row * c + col) (0, 0)).1 (l.getD (row * c + col) (0, 0)).2 side, passL nm l (row * c + col), way ++ [[row, col]]⟩
theorem goN_range {a b d : Int} (hg : good a b = true) (h1 : -1 ≤ d) (h2 : d ≤ 1) : -1 ≤ goN a b d ∧ goN a b d ≤ 1 := by
  have h3 : 0 ≤ b ∧ b ≤ 1 := by unfold good at hg; simp at hg; omega
  unfold goN
  split
  · omega
  · split
    · omega
    · split
      · omega
      · split
        · omega
        · omega
theorem good_turned {a b : Int} (hg : good a b = true) (h : a = 3 ∨ a = 6) : good a (1 - b) = true := by
  unfold good at *
  simp at *
  omega
theorem passL_good {nm : List Int} {l : List (Int × Int)} {i : Nat} (hi : i < l.length) (h : ∀ x ∈ l, good x.1 x.2 = true) : ∀ x ∈ passL nm l i, good x.1 x.2 = true := by
  have hget : ∀ j, j < l.length → l.getD j (0, 0) ∈ l := fun j hj => by
    rw [List.getD_eq_getElem?_getD, List.getElem?_eq_getElem hj]
    exact List.getElem_mem hj
  intro x hx
  unfold passL at hx
  split at hx
  · next h3 =>
    rcases List.mem_or_eq_of_mem_set hx with h1 | rfl
    · exact h x h1
    · exact good_turned (h _ (hget i hi)) (.inl h3)
  · split at hx
    · next h6 =>
      unfold tnS at hx
      obtain ⟨j, hj, rfl⟩ := List.mem_map.1 hx
      have hj' := List.mem_range.1 hj
      split
      · next hp =>
        unfold pin gearK at hp
        simp only [Bool.and_eq_true, decide_eq_true_eq] at hp
        exact good_turned (h _ (hget j hj')) (.inr hp.2)
      · exact h _ (hget j hj')
    · exact h x hx
theorem Own.apart {w w' : World} {A : Option Addr} {t t' : TypeId} {xs ys : List Value} {g : Nat} (h : Own w A t xs) (hw : Whole w g t' ys) (hne : t ≠ t') (hg : w.grownBy w' (some g)) : Own w' A t xs := fun hx => by
  obtain ⟨k, rest, e, h1⟩ := h hx
  refine ⟨k, rest, e, h1.grown hg (fun e' => ?_)⟩
  cases e'
  unfold Whole at h1 hw
  rw [hw] at h1
  injection h1 with h1
  injection h1 with _ ht
  exact hne ht.symm
theorem LRow.apart {w w' : World} {base g : Nat} {v : Value} {L : List (List Nat)} {t : TypeId} {ys : List Value} (h : LRow w base v L) (hw : Whole w g t ys) (h1 : 45 ≠ t) (h2 : 3 ≠ t) (hg : w.grownBy w' (some g)) : LRow w' base v L := by
  obtain ⟨hs, q1, q2, q3⟩ := h
  refine ⟨hs, q1, World.ownsRow.kept q2 hg (.inr fun e => row_apart q2 hw h1 e.symm), fun k hk => ?_⟩
  obtain ⟨A, cap, e, ho, hb⟩ := q3 k hk
  exact ⟨A, cap, e, ho.apart hw h2 hg, hb⟩
theorem LRow.set_ {w : World} {base g j : Nat} {v u : Value} {L : List (List Nat)} {t : TypeId} {ys : List Value} (h : LRow w base v L) (hw : Whole w g t ys) (h1 : 45 ≠ t) (h2 : 3 ≠ t) : LRow (w.setCell ⟨g, j, none⟩ u) base v L := by
  refine h.apart hw h1 h2 ⟨rfl, rfl, rfl, by rw [World.size_setCell]; exact Nat.le_refl _, fun k _ hne => Below.heap_setCell _ _ _ _ (fun e => hne (by rw [e]))⟩
theorem six_whole {w : World} {a b g : Nat} {t : TypeId} {xs : List Value} {u0 u1 u2 y0 y1 y2 : Value} (h : Whole w g t xs) (ha : a ≠ g) (hb : b ≠ g) : Whole (((((((w.setCell ⟨a, 0, none⟩ u0).setCell ⟨a, 1, none⟩ u1).setCell ⟨a, 2, none⟩ u2).setCell ⟨b, 0, none⟩ y0).setCell ⟨b, 1, none⟩ y1).setCell ⟨b, 2, none⟩ y2).drew) g t xs := by
  have h1 := h.set_far ⟨a, 0, none⟩ u0 ha
  have h2 := h1.set_far ⟨a, 1, none⟩ u1 ha
  have h3 := h2.set_far ⟨a, 2, none⟩ u2 ha
  have h4 := h3.set_far ⟨b, 0, none⟩ y0 hb
  have h5 := h4.set_far ⟨b, 1, none⟩ y1 hb
  have h6 := h5.set_far ⟨b, 2, none⟩ y2 hb
  exact h6.below ((Below.refl _ _).drew) h6.lt
theorem six_below {B : Nat} {w0 w : World} {a b : Nat} {u0 u1 u2 y0 y1 y2 : Value} (h : Below B w0 w) (ha : B ≤ a) (hb : B ≤ b) : Below B w0 (((((((w.setCell ⟨a, 0, none⟩ u0).setCell ⟨a, 1, none⟩ u1).setCell ⟨a, 2, none⟩ u2).setCell ⟨b, 0, none⟩ y0).setCell ⟨b, 1, none⟩ y1).setCell ⟨b, 2, none⟩ y2).drew) :=
  ((((((h.setCell (p := ⟨a, 0, none⟩) ha u0).setCell (p := ⟨a, 1, none⟩) ha u1).setCell (p := ⟨a, 2, none⟩) ha u2).setCell (p := ⟨b, 0, none⟩) hb y0).setCell (p := ⟨b, 1, none⟩) hb y1).setCell (p := ⟨b, 2, none⟩) hb y2).drew
theorem three_lrow {w : World} {base a : Nat} {v : Value} {L : List (List Nat)} {t : TypeId} {p q s : Value} {u0 u1 u2 : Value} (h : LRow w base v L) (hw : Whole w a t [p, q, s]) (h1 : 45 ≠ t) (h2 : 3 ≠ t) : LRow (((w.setCell ⟨a, 0, none⟩ u0).setCell ⟨a, 1, none⟩ u1).setCell ⟨a, 2, none⟩ u2) base v L :=
  ((h.set_ hw h1 h2).set_ (hw.set 0 u0) h1 h2).set_ ((hw.set 0 u0).set 1 u1) h1 h2
theorem six_lrow {w : World} {base a b : Nat} {v : Value} {L : List (List Nat)} {p q s p' q' s' : Value} {u0 u1 u2 y0 y1 y2 : Value} (h : LRow w base v L) (hw : Whole w a 27 [p, q, s]) (hw' : Whole w b 32 [p', q', s']) (hne : a ≠ b) : LRow (((((((w.setCell ⟨a, 0, none⟩ u0).setCell ⟨a, 1, none⟩ u1).setCell ⟨a, 2, none⟩ u2).setCell ⟨b, 0, none⟩ y0).setCell ⟨b, 1, none⟩ y1).setCell ⟨b, 2, none⟩ y2).drew) base v L := by
  have h1 := three_lrow (u0 := u0) (u1 := u1) (u2 := u2) h hw (by decide) (by decide)
  have h2 : Whole (((w.setCell ⟨a, 0, none⟩ u0).setCell ⟨a, 1, none⟩ u1).setCell ⟨a, 2, none⟩ u2) b 32 [p', q', s'] := ((hw'.set_far ⟨a, 0, none⟩ u0 hne).set_far ⟨a, 1, none⟩ u1 hne).set_far ⟨a, 2, none⟩ u2 hne
  exact (three_lrow (u0 := y0) (u1 := y1) (u2 := y2) h1 h2 (by decide) (by decide)).keep ((Below.refl _ _).drew)
theorem flG_step (nm : List Int) (r c n row : Nat) (l : List (Int × Int)) (col : Nat) (side : Int) (way : List (List Nat)) (kd st : Int) (h1 : (l.getD (row * c + col) (0, 0)).1 = kd) (h2 : (l.getD (row * c + col) (0, 0)).2 = st) :
    flG nm r c (n + 1) row l col side way = if kd = 5 then ⟨2, row, col, l, way ++ [[row, col]]⟩
      else if 0 ≤ (col : Int) + goN kd st side ∧ (col : Int) + goN kd st side < c then flG nm r c n (row + 1) (passL nm l (row * c + col)) ((col : Int) + goN kd st side).toNat (-goN kd st side) (way ++ [[row, col]])
      else ⟨3, row, (col : Int) + goN kd st side, passL nm l (row * c + col), way ++ [[row, col]]⟩ := by
  subst h1 h2
  rfl
theorem spec_flGo (r c b o cap g6 c6 : Nat) (l : List (Int × Int)) (nm : List Int) (rest6 : List Value) (col : Nat) (w : World) (hG : Geo r c l.length) (hgd : goodB (r : Int) (c : Int) l = true) (hr : Rd w w.heap.size (some ⟨b, o, none⟩) (flat l)) (hnm : nm.length = l.length)
    (X6 : Whole w g6 3 (ints nm ++ rest6)) (hcol : col < c) :
    Calls Try.prog 60 #[.agg #[.int .i64 (r : Int), .int .i64 (c : Int), .slice (some ⟨b, o, none⟩) l.length cap], .slice (some ⟨g6, 0, none⟩) nm.length c6, .int .i64 (col : Int)] w
      fun e w' => ∃ A5 c5 v, e = .returned (.tuple #[.agg #[.int .i64 (flG nm r c r 0 l col 0 []).e, .int .i64 (flG nm r c r 0 l col 0 []).row, .int .i64 (flG nm r c r 0 l col 0 []).col], .agg #[.int .i64 (r : Int), .int .i64 (c : Int), .slice A5 l.length c5], v]) ∧
        Own w' A5 92 (flat (flG nm r c r 0 l col 0 []).cells) ∧ New w A5 ∧ LRow w' w.heap.size v (flG nm r c r 0 l col 0 []).way ∧ Below w.heap.size w w' := by
  obtain ⟨s1, s2, s3, s4⟩ := sizeB_iff.1 (goodB_iff.1 hgd).1
  have hpos := (goodB_parts hgd).2.2
  have hlrc : (l.length : Int) = (r : Int) * (c : Int) := (goodB_iff.1 hgd).2.1
  have hgd2 := (goodB_iff.1 hgd).2.2
  have n90 := hG.n90
  have HRC := Lib.hid hG.cells
  have HLRC := Lib.hid hlrc
  clear hlrc
  obtain ⟨b', o', e0, hbl, hc⟩ := hr (by rw [flat_length]; omega)
  cases e0
  rewrite [hnm]
  have HNm := Lib.hid hnm
  clear hnm
  go_enter Try.func60, Try.ntmps60
  obtain ⟨v0, hv0, X0, X1, X2, B0, hz0⟩ := three_boxes w [.int .i64 (r : Int), .int .i64 (c : Int), .slice (some ⟨b, o, none⟩) l.length cap] 32 [.int .i64 0, .int .i64 0, .int .i64 0] 27 [.int .i64 0, .int .i64 0, .slice none 0 0] 32; have HV := Lib.hid hv0; have hx : w.heap.size + 1 + 1 < v0.heap.size := (by omega); have hz : w.heap.size + 1 < v0.heap.size := (by omega); have hy : w.heap.size < v0.heap.size := (by omega); have hb0 := B0.size; clear hv0 hz0; go_wp2_with fail; rewrite [show ((w.alloc (.cells ([.int .i64 (r : Int), .int .i64 (c : Int), .slice (some ⟨b, o, none⟩) l.length cap] : List Value).toArray 32)).alloc (.cells ([.int .i64 0, .int .i64 0, .int .i64 0] : List Value).toArray 27)).alloc (.cells ([.int .i64 0, .int .i64 0, .slice none 0 0] : List Value).toArray 32) = v0 from HV.out]; clear HV
  refine (spec_boOwn _ _ b o cap l _ hpos (by omega) ((hr.below B0).mono B0.size)).mono ?_
  rintro e w1 ⟨A5, c5, rfl, o5, n5, b1⟩
  have X6' := X6.below B0 X6.lt
  have hg6 := X6.lt
  replace X6 := X6'.below b1 X6'.lt
  clear X6'
  replace X0 := X0.below b1 X0.lt; replace X1 := X1.below b1 X1.lt; replace X2 := X2.below b1 X2.lt; replace B0 := B0.trans (b1.mono B0.size); have hy := X0.lt; have hz := X1.lt; have hx := X2.lt; have hb0 := B0.size; clear b1
  obtain ⟨g5, rest5, rfl, X7⟩ := o5 (by rw [flat_length]; omega)
  have h5 : w.heap.size + 1 + 1 < g5 := by have := n5 _ rfl; show _ < (⟨g5, 0, none⟩ : Addr).block; omega
  clear o5 n5
  go_upto_region 2 with (fail)
  have X9 : Whole (w1.alloc (.cells #[.int .i64 (r : Int), .int .i64 (c : Int), .slice (some ⟨g5, 0, none⟩) l.length c5] 32)) w1.heap.size 32 [.int .i64 (r : Int), .int .i64 (c : Int), .slice (some ⟨g5, 0, none⟩) l.length c5] := heap_alloc_new w1 _
  have b2 : Below w1.heap.size w1 (w1.alloc (.cells #[.int .i64 (r : Int), .int .i64 (c : Int), .slice (some ⟨g5, 0, none⟩) l.length c5] 32)) := (Below.refl _ _).alloc (Nat.le_refl _) _
  have hG9 : w.heap.size + 1 + 1 < w1.heap.size := hx
  have hg5l := X7.lt
  replace X7 := X7.below b2 X7.lt
  replace X6 := X6.below b2 X6.lt
  replace X0 := X0.below b2 X0.lt; replace X1 := X1.below b2 X1.lt; replace X2 := X2.below b2 X2.lt; replace B0 := B0.trans (b2.mono B0.size); have hy := X0.lt; have hz := X1.lt; have hx := X2.lt; have hb0 := B0.size; clear b2
  generalize w1.alloc (.cells #[.int .i64 (r : Int), .int .i64 (c : Int), .slice (some ⟨g5, 0, none⟩) l.length c5] 32) = w2 at *
  have hg59 : g5 ≠ w1.heap.size := by omega
  generalize w1.heap.size = G at *
  go_wp2
  obtain ⟨F, hF⟩ : ∃ F, flG nm r c r 0 l col 0 [] = F := ⟨_, rfl⟩
  have hF0 : flG nm r c (r - 0) 0 l col 0 [] = F := hF
  have HFq := Lib.hid hF
  clear hF hc hr hgd
  go_loopw [2, 10, 11, 12] (fun cv wv sv rv wr => ∃ (k cl : Nat) (d : Int) (lk : List (Int × Int)) (wy : List (List Nat)), rv = .int .i64 k ∧ cv = .int .i64 cl ∧ sv = .int .i64 d ∧ k ≤ r ∧ cl < c ∧ -1 ≤ d ∧ d ≤ 1 ∧ lk.length = l.length ∧ (∀ x ∈ lk, good x.1 x.2 = true) ∧ wy.length = k ∧ flG nm r c (r - k) k lk cl d wy = F ∧
    Whole wr w.heap.size 32 [.int .i64 (r : Int), .int .i64 (c : Int), .slice (some ⟨b, o, none⟩) l.length cap] ∧ Whole wr (w.heap.size + 1) 27 [.int .i64 0, .int .i64 0, .int .i64 0] ∧ Whole wr (w.heap.size + 1 + 1) 32 [.int .i64 0, .int .i64 0, .slice none 0 0] ∧
    Whole wr G 32 [.int .i64 (r : Int), .int .i64 (c : Int), .slice (some ⟨g5, 0, none⟩) l.length c5] ∧ Whole wr g5 92 (flat lk ++ rest5) ∧ Whole wr g6 3 (ints nm ++ rest6) ∧ LRow wr w.heap.size wv wy ∧ Below w.heap.size w wr) (fun _ _ _ rv _ => r - (intOf rv).toNat)
  case atStart => exact ⟨0, col, 0, l, [], rfl, rfl, rfl, Nat.zero_le _, hcol, by omega, by omega, rfl, hgd2, rfl, hF0, X0, X1, X2, X9, X7, X6, LRow.nil, B0⟩
  case round =>
    clear X0 X1 X2 X9 X7 X6 B0 hx hz hy hb0 hF0 hgd2 hcol
    obtain ⟨k, cl, d, lk, wy, rfl, rfl, rfl, hk, hcl, hd1, hd2, hlk, hgk, hwy, hF, X0, X1, X2, X9, X7, X6, hL, B0⟩ := hrel
    have hs := B0.size
    by_cases hlt : k < r
    · have hidx : k * c + cl < l.length := by
        have h1 := Nat.mul_le_mul (show k + 1 ≤ r by omega) (Nat.le_refl c)
        rw [Nat.succ_mul] at h1
        have := HRC.out
        omega
      have hgB : goodB (r : Int) (c : Int) lk = true := goodB_iff.2 ⟨sizeB_iff.2 ⟨s1, s2, s3, s4⟩, by rw [hlk]; exact HLRC.out, hgk⟩
      obtain ⟨hs0, hq1, hrow0, hq3⟩ := hL
      have a0 := row_apart hrow0 X0 (by decide)
      have a1 := row_apart hrow0 X1 (by decide)
      have a2 := row_apart hrow0 X2 (by decide)
      have a9 := row_apart hrow0 X9 (by decide)
      have a7 := row_apart hrow0 X7 (by decide)
      have a6 := row_apart hrow0 X6 (by decide)
      have hL : LRow wr w.heap.size u10 wy := ⟨hs0, hq1, hrow0, hq3⟩
      clear hrow0 hq3 hq1
      have X0k0 : wr.cell? ⟨w.heap.size, 0, none⟩ = some (.int .i64 (r : Int)) := (X0.cell 0).trans rfl; have X0k1 : wr.cell? ⟨w.heap.size, 1, none⟩ = some (.int .i64 (c : Int)) := (X0.cell 1).trans rfl; have X0k2 : wr.cell? ⟨w.heap.size, 2, none⟩ = some (.slice (some ⟨b, o, none⟩) l.length cap) := (X0.cell 2).trans rfl
      go_upto_region 8 with (first | (at_builtin; go_loud (generalize hq : wr.alloc (.cells #[.int .i64 (k : Int), .int .i64 (cl : Int)] 3) = wq; have hqs : wr.heap.size + 1 = wq.heap.size := (by rw [← hq, World.size_alloc]); rewrite [hqs]; have bq : Below wr.heap.size wr wq := (by rw [← hq]; exact (Below.refl _ _).alloc (Nat.le_refl _) _); have xq : Whole wq wr.heap.size 3 (ints (nI [k, cl])) := (by rw [← hq]; exact heap_alloc_new wr _); refine wpList_pushL (x := [k, cl]) (A0 := some ⟨wr.heap.size, 0, none⟩) (cap0 := 2) (hL.keep bq) (by omega) (by omega) (xq.own) (fun a ha => by cases ha; exact hs) rfl _ _ rfl rfl rfl ?_; intro v3 w3 hL3 hg3 hb3 hv3)) | fail)
      have hg3' : ∀ {g : Nat} {t : TypeId} {xs : List Value}, Whole wr g t xs → some g ≠ u10.ownBlock → Whole w3 g t xs := fun hw hne => ((hw.below bq hw.lt).alloc _).grown hg3 hne
      clear X0k0 X0k1 X0k2
      replace X0 := hg3' X0 a0
      replace X1 := hg3' X1 a1
      replace X2 := hg3' X2 a2
      replace X9 := hg3' X9 a9
      replace X7 := hg3' X7 a7
      replace X6 := hg3' X6 a6
      replace B0 := B0.trans ((bq.mono hs).trans hb3)
      replace hs := B0.size
      have hwl : (wy ++ [[k, cl]]).length = k + 1 := by rw [List.length_append, hwy]; rfl
      have HF := Lib.hid hF
      have HW := Lib.hid hwy
      clear hg3' hg3 hb3 hv3 hL a0 a1 a2 a9 a7 a6 bq xq hq hqs hF hwy
      have hin : inB (r : Int) (c : Int) (k : Int) (cl : Int) = true := inB_iff.2 (by omega)
      have hat : atI (c : Int) (k : Int) (cl : Int) = k * c + cl := by
        unfold atI
        have : (k : Int) * (c : Int) + (cl : Int) = ((k * c + cl : Nat) : Int) := by push_cast; rfl
        rw [this, Int.toNat_natCast]
      have hrd : Rd w3 w3.heap.size (some ⟨g5, 0, none⟩) (flat lk) := fun _ => ⟨g5, 0, rfl, X7.lt, fun j u hu => by rw [Nat.zero_add, X7.cell j, List.getElem?_append_left (Array.getElem?_eq_some_iff.1 (by simpa using hu)).1]; exact hu⟩
      have HA := spec_boAt (r : Int) (c : Int) (some ⟨g5, 0, none⟩) c5 lk (k : Int) (cl : Int) w3 hgB hin hrd
      rw [hlk, hat] at HA
      have hxg : good (lk.getD (k * c + cl) (0, 0)).1 (lk.getD (k * c + cl) (0, 0)).2 = true := by
        rw [List.getD_eq_getElem?_getD, List.getElem?_eq_getElem (by omega)]
        exact hgk _ (List.getElem_mem _)
      have HSt := Lib.hid (flG_step nm r c (r - k - 1) k lk cl d wy _ _ rfl rfl)
      have er : r - k = r - k - 1 + 1 := by omega
      rw [er] at HF
      generalize (lk.getD (k * c + cl) (0, 0)).1 = kd at *
      generalize (lk.getD (k * c + cl) (0, 0)).2 = st at *
      have HFS := Lib.hid (HSt.out.symm.trans HF.out)
      clear HSt HF er
      have X9k0 : w3.cell? ⟨G, 0, none⟩ = some (.int .i64 (r : Int)) := (X9.cell 0).trans rfl; have X9k1 : w3.cell? ⟨G, 1, none⟩ = some (.int .i64 (c : Int)) := (X9.cell 1).trans rfl; have X9k2 : w3.cell? ⟨G, 2, none⟩ = some (.slice (some ⟨g5, 0, none⟩) l.length c5) := (X9.cell 2).trans rfl
      go_wp2_with fail
      refine HA.mono ?_; rintro e w4 ⟨rfl, b4⟩
      clear HA hrd hin hat
      clear X9k0 X9k1 X9k2
      replace X0 := X0.below b4 X0.lt; replace X1 := X1.below b4 X1.lt; replace X2 := X2.below b4 X2.lt; replace X9 := X9.below b4 X9.lt; replace X7 := X7.below b4 X7.lt; replace X6 := X6.below b4 X6.lt; replace hL3 := hL3.keep b4; replace B0 := B0.trans (b4.mono hs); replace hs := B0.size; clear b4
      have hs4 := hs
      go_upto_region 9 with (fail)
      have XX : Whole (w4.alloc (.cells #[.int .i64 kd, .int .i64 st] 92)) w4.heap.size 92 [.int .i64 kd, .int .i64 st] := heap_alloc_new w4 _
      have b5 : Below w4.heap.size w4 (w4.alloc (.cells #[.int .i64 kd, .int .i64 st] 92)) := (Below.refl _ _).alloc (Nat.le_refl _) _
      have h5Q : g5 < w4.heap.size := X7.lt
      have hGQ : G < w4.heap.size := X9.lt
      replace X0 := X0.below b5 X0.lt; replace X1 := X1.below b5 X1.lt; replace X2 := X2.below b5 X2.lt; replace X9 := X9.below b5 X9.lt; replace X7 := X7.below b5 X7.lt; replace X6 := X6.below b5 X6.lt; replace hL3 := hL3.keep b5; replace B0 := B0.trans (b5.mono hs); replace hs := B0.size; clear b5
      generalize w4.alloc (.cells #[.int .i64 kd, .int .i64 st] 92) = w5 at *
      generalize w4.heap.size = Q at *
      have y0 : w5.cell? ⟨Q, 0, none⟩ = some (.int .i64 kd) := (XX.cell 0).trans rfl
      by_cases h5k : kd = 5
      · have HF := HFS.out
        rw [if_pos h5k] at HF
        have HEq := Lib.hid (HFq.out.trans HF.symm)
        clear HF HFS
        subst h5k
        have X9k0 : w5.cell? ⟨G, 0, none⟩ = some (.int .i64 (r : Int)) := (X9.cell 0).trans rfl; have X9k1 : w5.cell? ⟨G, 1, none⟩ = some (.int .i64 (c : Int)) := (X9.cell 1).trans rfl; have X9k2 : w5.cell? ⟨G, 2, none⟩ = some (.slice (some ⟨g5, 0, none⟩) l.length c5) := (X9.cell 2).trans rfl
        have X1k0 : w5.cell? ⟨w.heap.size + 1, 0, none⟩ = some (.int .i64 0) := (X1.cell 0).trans rfl; have X1k1 : w5.cell? ⟨w.heap.size + 1, 1, none⟩ = some (.int .i64 0) := (X1.cell 1).trans rfl; have X1k2 : w5.cell? ⟨w.heap.size + 1, 2, none⟩ = some (.int .i64 0) := (X1.cell 2).trans rfl
        have X1f0 := X1.frozen 0; have X1f1 := X1.frozen 1; have X1f2 := X1.frozen 2
        have X2k0 : w5.cell? ⟨w.heap.size + 1 + 1, 0, none⟩ = some (.int .i64 0) := (X2.cell 0).trans rfl; have X2k1 : w5.cell? ⟨w.heap.size + 1 + 1, 1, none⟩ = some (.int .i64 0) := (X2.cell 1).trans rfl; have X2k2 : w5.cell? ⟨w.heap.size + 1 + 1, 2, none⟩ = some (.slice none 0 0) := (X2.cell 2).trans rfl
        have X2f0 := X2.frozen 0; have X2f1 := X2.frozen 1; have X2f2 := X2.frozen 2
        have z1 := X1.lt
        have z2 := X2.lt
        have z9 := X9.lt
        go_upto_region 10 with (fail)
        clear y0
        go_region
        go_wp2; (refine bodyPost_ret (v := .tuple #[.agg #[.int .i64 2, .int .i64 (k : Int), .int .i64 (cl : Int)], .agg #[.int .i64 (r : Int), .int .i64 (c : Int), .slice (some ⟨g5, 0, none⟩) l.length c5], v3]) ?_ rfl ?_); (focus (simp [results, Try.results60, go_sem, *]; done)); rewrite [HEq.out]; exact ⟨some ⟨g5, 0, none⟩, c5, v3, rfl, fun _ => ⟨g5, rest5, rfl, six_whole X7 (by omega) (by omega)⟩, fun a ha => by cases ha; show w.heap.size ≤ g5; omega, six_lrow hL3 X1 X2 (by omega), six_below B0 (by omega) (by omega)⟩
      · rw [if_neg h5k] at HFS
        obtain ⟨hg1, hg2⟩ := goN_range hxg hd1 hd2
        have m1 : IntKind.i64.wrap ((k : Int) * (c : Int)) = (k : Int) * (c : Int) := by
          have e : (k : Int) * (c : Int) = ((k * c : Nat) : Int) := by push_cast; rfl
          rw [e]; exact IntWalk.i64_in _ (by omega)
        have m2 : IntKind.i64.wrap ((k : Int) * (c : Int) + (cl : Int)) = ((k * c + cl : Nat) : Int) := by
          have e : (k : Int) * (c : Int) + (cl : Int) = ((k * c + cl : Nat) : Int) := by push_cast; rfl
          rw [e]; exact IntWalk.i64_in _ (by omega)
        have HG1 := Lib.hid (spec_paGoes kd st d hxg hd1 hd2)
        generalize goN kd st d = gs at *
        have m3 : IntKind.i64.wrap ((cl : Int) + gs) = (cl : Int) + gs := IntWalk.i64_in _ (by omega)
        have m4 : IntKind.i64.wrap (-gs) = -gs := IntWalk.i64_in _ (by omega)
        have m5 : IntKind.i64.wrap ((c : Int) - 1) = (c : Int) - 1 := IntWalk.i64_in _ (by omega)
        have HPg := Lib.hid (passL_good (nm := nm) (show k * c + cl < lk.length by omega) hgk)
        have HPl := Lib.hid (passL_len nm lk (k * c + cl))
        have hxQ := XX.lt
        have y1 := (XX.cell 1).trans rfl
        go_wp2_with fail
        refine (HG1.out _).mono ?_; rintro e w6 ⟨rfl, b6⟩
        replace X0 := X0.below b6 X0.lt; replace X1 := X1.below b6 X1.lt; replace X2 := X2.below b6 X2.lt; replace X9 := X9.below b6 X9.lt; replace X7 := X7.below b6 X7.lt; replace X6 := X6.below b6 X6.lt; replace hL3 := hL3.keep b6; replace B0 := B0.trans (b6.mono hs); replace hs := B0.size; clear b6
        clear y0 y1 HG1
        have X9k0 : w6.cell? ⟨G, 0, none⟩ = some (.int .i64 (r : Int)) := (X9.cell 0).trans rfl; have X9k1 : w6.cell? ⟨G, 1, none⟩ = some (.int .i64 (c : Int)) := (X9.cell 1).trans rfl; have X9k2 : w6.cell? ⟨G, 2, none⟩ = some (.slice (some ⟨g5, 0, none⟩) l.length c5) := (X9.cell 2).trans rfl
        have X0k0 : w6.cell? ⟨w.heap.size, 0, none⟩ = some (.int .i64 (r : Int)) := (X0.cell 0).trans rfl; have X0k1 : w6.cell? ⟨w.heap.size, 1, none⟩ = some (.int .i64 (c : Int)) := (X0.cell 1).trans rfl; have X0k2 : w6.cell? ⟨w.heap.size, 2, none⟩ = some (.slice (some ⟨b, o, none⟩) l.length cap) := (X0.cell 2).trans rfl
        have HQ := spec_flPass (r : Int) (c : Int) g5 c5 g6 c6 lk nm rest5 rest6 (k * c + cl) w6 (by omega) (by omega) (by rw [HNm.out, hlk]) hgk X7 X6
        rw [hlk, HNm.out] at HQ
        generalize hidxe : k * c + cl = ix at *
        go_wp2_with fail
        refine HQ.mono ?_; rintro e w7 ⟨rfl, X7', gb⟩
        clear X9k0 X9k1 X9k2
        clear X0k0 X0k1 X0k2
        have n5 : ∀ {g : Nat}, g ≠ g5 → some g ≠ some g5 := fun h e => h (by injection e)
        replace X0 := X0.grown gb (n5 (by omega))
        replace X1 := X1.grown gb (n5 (by omega))
        replace X2 := X2.grown gb (n5 (by omega))
        replace X9 := X9.grown gb (n5 (by omega))
        replace X6 := X6.grown gb (n5 (by omega))
        replace hL3 := hL3.apart X7 (by decide) (by decide) gb
        replace B0 := B0.grown gb hs (fun k e => by cases e; omega)
        replace hs := B0.size
        replace X7 := X7'
        clear gb X7' HQ n5 XX m1 m2
        by_cases hin2 : 0 ≤ (cl : Int) + gs ∧ (cl : Int) + gs < (c : Int)
        · have HF := HFS.out
          rw [if_pos hin2] at HF
          have hb1 : (decide (0 ≤ (cl : Int) + gs) && decide ((cl : Int) + gs ≤ (c : Int) - 1)) = true := by rw [decide_eq_true hin2.1, decide_eq_true (by omega)]; rfl
          have HB := Lib.hid hb1
          have hnx : ((cl : Int) + gs) = ((((cl : Int) + gs).toNat : Nat) : Int) := by omega
          have HNx := Lib.hid hnx
          have hF' : flG nm r c (r - (k + 1)) (k + 1) (passL nm lk ix) ((cl : Int) + gs).toNat (-gs) (wy ++ [[k, cl]]) = F := by rw [show r - (k + 1) = r - k - 1 by omega]; exact HF
          have HF' := Lib.hid hF'
          clear hb1 hnx HFS hF' HF
          have X0k0 : w7.cell? ⟨w.heap.size, 0, none⟩ = some (.int .i64 (r : Int)) := (X0.cell 0).trans rfl; have X0k1 : w7.cell? ⟨w.heap.size, 1, none⟩ = some (.int .i64 (c : Int)) := (X0.cell 1).trans rfl; have X0k2 : w7.cell? ⟨w.heap.size, 2, none⟩ = some (.slice (some ⟨b, o, none⟩) l.length cap) := (X0.cell 2).trans rfl
          go_wp2_with fail
          refine (spec_l1In _ _ _ _).mono ?_; rintro e w8 ⟨rfl, rfl⟩
          rewrite [HB.out]
          clear X0k0 X0k1 X0k2
          go_wp2
          go_roundw
          case rel => exact ⟨k + 1, ((cl : Int) + gs).toNat, -gs, passL nm lk ix, wy ++ [[k, cl]], by go_num, by rw [← HNx.out], rfl, by omega, by omega, by omega, by omega, by rw [HPl.out, hlk], HPg.out, hwl, HF'.out, X0, X1, X2, X9, X7, X6, hL3, B0⟩
          case measure => simp [intOf]; omega
        · have HF := HFS.out
          rw [if_neg hin2] at HF
          have HEq := Lib.hid (HFq.out.trans HF.symm)
          have hb1 : (decide (0 ≤ (cl : Int) + gs) && decide ((cl : Int) + gs ≤ (c : Int) - 1)) = false := by
            rw [Bool.eq_false_iff]; intro h; rw [Bool.and_eq_true, decide_eq_true_eq, decide_eq_true_eq] at h; exact hin2 ⟨h.1, by omega⟩
          have HB := Lib.hid hb1
          clear hb1 HF HFS hin2
          have X0k0 : w7.cell? ⟨w.heap.size, 0, none⟩ = some (.int .i64 (r : Int)) := (X0.cell 0).trans rfl; have X0k1 : w7.cell? ⟨w.heap.size, 1, none⟩ = some (.int .i64 (c : Int)) := (X0.cell 1).trans rfl; have X0k2 : w7.cell? ⟨w.heap.size, 2, none⟩ = some (.slice (some ⟨b, o, none⟩) l.length cap) := (X0.cell 2).trans rfl
          go_wp2_with fail
          refine (spec_l1In _ _ _ _).mono ?_; rintro e w8 ⟨rfl, rfl⟩
          rewrite [HB.out]
          clear X0k0 X0k1 X0k2
          have X9k0 : w7.cell? ⟨G, 0, none⟩ = some (.int .i64 (r : Int)) := (X9.cell 0).trans rfl; have X9k1 : w7.cell? ⟨G, 1, none⟩ = some (.int .i64 (c : Int)) := (X9.cell 1).trans rfl; have X9k2 : w7.cell? ⟨G, 2, none⟩ = some (.slice (some ⟨g5, 0, none⟩) l.length c5) := (X9.cell 2).trans rfl
          have X1k0 : w7.cell? ⟨w.heap.size + 1, 0, none⟩ = some (.int .i64 0) := (X1.cell 0).trans rfl; have X1k1 : w7.cell? ⟨w.heap.size + 1, 1, none⟩ = some (.int .i64 0) := (X1.cell 1).trans rfl; have X1k2 : w7.cell? ⟨w.heap.size + 1, 2, none⟩ = some (.int .i64 0) := (X1.cell 2).trans rfl
          have X1f0 := X1.frozen 0; have X1f1 := X1.frozen 1; have X1f2 := X1.frozen 2
          have X2k0 : w7.cell? ⟨w.heap.size + 1 + 1, 0, none⟩ = some (.int .i64 0) := (X2.cell 0).trans rfl; have X2k1 : w7.cell? ⟨w.heap.size + 1 + 1, 1, none⟩ = some (.int .i64 0) := (X2.cell 1).trans rfl; have X2k2 : w7.cell? ⟨w.heap.size + 1 + 1, 2, none⟩ = some (.slice none 0 0) := (X2.cell 2).trans rfl
          have X2f0 := X2.frozen 0; have X2f1 := X2.frozen 1; have X2f2 := X2.frozen 2
          have z1 := X1.lt
          have z2 := X2.lt
          have z9 := X9.lt
          go_upto_region 16 with (fail)
          go_region
          go_wp2; (refine bodyPost_ret (v := .tuple #[.agg #[.int .i64 3, .int .i64 (k : Int), .int .i64 ((cl : Int) + gs)], .agg #[.int .i64 (r : Int), .int .i64 (c : Int), .slice (some ⟨g5, 0, none⟩) l.length c5], v3]) ?_ rfl ?_); (focus (simp [results, Try.results60, go_sem, *]; done)); rewrite [HEq.out]; exact ⟨some ⟨g5, 0, none⟩, c5, v3, rfl, fun _ => ⟨g5, rest5, rfl, six_whole X7 (by omega) (by omega)⟩, fun a ha => by cases ha; show w.heap.size ≤ g5; omega, six_lrow hL3 X1 X2 (by omega), six_below B0 (by omega) (by omega)⟩
    · obtain rfl : k = r := by omega
      have HEq : Hid (flG nm k c k 0 l col 0 [] = ⟨1, k, cl, lk, wy⟩) := Lib.hid (HFq.out.trans (by rw [← hF, Nat.sub_self]; rfl))
      have hL3 := hL
      clear hL hF HFq
      generalize u10 = v3 at *
      have X0k0 : wr.cell? ⟨w.heap.size, 0, none⟩ = some (.int .i64 (k : Int)) := (X0.cell 0).trans rfl; have X0k1 : wr.cell? ⟨w.heap.size, 1, none⟩ = some (.int .i64 (c : Int)) := (X0.cell 1).trans rfl; have X0k2 : wr.cell? ⟨w.heap.size, 2, none⟩ = some (.slice (some ⟨b, o, none⟩) l.length cap) := (X0.cell 2).trans rfl
      have X9k0 : wr.cell? ⟨G, 0, none⟩ = some (.int .i64 (k : Int)) := (X9.cell 0).trans rfl; have X9k1 : wr.cell? ⟨G, 1, none⟩ = some (.int .i64 (c : Int)) := (X9.cell 1).trans rfl; have X9k2 : wr.cell? ⟨G, 2, none⟩ = some (.slice (some ⟨g5, 0, none⟩) l.length c5) := (X9.cell 2).trans rfl
      have X1k0 : wr.cell? ⟨w.heap.size + 1, 0, none⟩ = some (.int .i64 0) := (X1.cell 0).trans rfl; have X1k1 : wr.cell? ⟨w.heap.size + 1, 1, none⟩ = some (.int .i64 0) := (X1.cell 1).trans rfl; have X1k2 : wr.cell? ⟨w.heap.size + 1, 2, none⟩ = some (.int .i64 0) := (X1.cell 2).trans rfl
      have X1f0 := X1.frozen 0; have X1f1 := X1.frozen 1; have X1f2 := X1.frozen 2
      have X2k0 : wr.cell? ⟨w.heap.size + 1 + 1, 0, none⟩ = some (.int .i64 0) := (X2.cell 0).trans rfl; have X2k1 : wr.cell? ⟨w.heap.size + 1 + 1, 1, none⟩ = some (.int .i64 0) := (X2.cell 1).trans rfl; have X2k2 : wr.cell? ⟨w.heap.size + 1 + 1, 2, none⟩ = some (.slice none 0 0) := (X2.cell 2).trans rfl
      have X2f0 := X2.frozen 0; have X2f1 := X2.frozen 1; have X2f2 := X2.frozen 2
      have z0 := X0.lt
      have z1 := X1.lt
      have z2 := X2.lt
      have z9 := X9.lt
      go_upto_region 17 with (fail)
      go_region
      go_wp2; (refine bodyPost_ret (v := .tuple #[.agg #[.int .i64 1, .int .i64 (k : Int), .int .i64 (cl : Int)], .agg #[.int .i64 (k : Int), .int .i64 (c : Int), .slice (some ⟨g5, 0, none⟩) l.length c5], v3]) ?_ rfl ?_); (focus (simp [results, Try.results60, go_sem, *]; done)); rewrite [HEq.out]; exact ⟨some ⟨g5, 0, none⟩, c5, v3, rfl, fun _ => ⟨g5, rest5, rfl, six_whole X7 (by omega) (by omega)⟩, fun a ha => by cases ha; show w.heap.size ≤ g5; omega, six_lrow hL3 X1 X2 (by omega), six_below B0 (by omega) (by omega)⟩
end Go.Proofs.Ytoflhjekldlaiaa
