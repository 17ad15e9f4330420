/- flPass, the model's: what a marble turns in a cell. -/
import Derived.Deep.RegionHeld3
import Derived.Deep.DeepCutAuto
import Derived.Test.YtoflhjekldlaiaaBoxes
import Derived.Test.YtoflhjekldlaiaaGoes
import Derived.Test.YtoflhjekldlaiaaTurnS
namespace Go.Proofs.Ytoflhjekldlaiaa
open Go.ChangeShapes Go.WideShapes Go.ChangeAt Go.RowKit Go.Joins Go.Deep
set_option linter.unusedSimpArgs false
set_option linter.unusedVariables false
set_option maxRecDepth 100000
set_option maxHeartbeats 4000000
def pin (nm : List Int) (gn : Int) (l : List (Int × Int)) (x : Nat) : Bool := decide (nm.getD x 0 = gn) && gearK l x
def pup (nm : List Int) (gn : Int) (l : List (Int × Int)) (k : Nat) (x : Nat) : Bool := decide (x < k) && pin nm gn l x
def passL (nm : List Int) (l : List (Int × Int)) (i : Nat) : List (Int × Int) :=
  if (l.getD i (0, 0)).1 = 3 then l.set i ((l.getD i (0, 0)).1, 1 - (l.getD i (0, 0)).2) else if (l.getD i (0, 0)).1 = 6 then tnS l (pin nm (nm.getD i 0) l) else l
theorem pup_zero {nm : List Int} {l : List (Int × Int)} {gn : Int} : tnS l (pup nm gn l 0) = l := by
  rw [show tnS l (pup nm gn l 0) = tnS l (fun _ => false) from tnS_congr fun x _ => by simp [pup]]
  exact tnS_none
theorem pup_yes {nm : List Int} {l : List (Int × Int)} {gn : Int} {k : Nat} (hk : k < l.length) (h : pin nm gn l k = true) : (tnS l (pup nm gn l k)).set k ((l.getD k (0, 0)).1, 1 - (l.getD k (0, 0)).2) = tnS l (pup nm gn l (k + 1)) := by
  refine tnS_set hk fun x _ => ?_
  unfold pup
  by_cases e : x = k
  · subst e; simp [h]
  · have e1 : decide (x < k + 1) = decide (x < k) := by rw [decide_eq_decide]; omega
    have e2 : (x == k) = false := by simp [e]
    rw [e1, e2, Bool.or_false]
theorem pup_no {nm : List Int} {l : List (Int × Int)} {gn : Int} {k : Nat} (h : pin nm gn l k = false) : tnS l (pup nm gn l (k + 1)) = tnS l (pup nm gn l k) := by
  refine tnS_congr fun x _ => ?_
  unfold pup
  by_cases e : x = k
  · subst e; simp [h]
  · have e1 : decide (x < k + 1) = decide (x < k) := by rw [decide_eq_decide]; omega
    rw [e1]
theorem pup_all {nm : List Int} {l : List (Int × Int)} {gn : Int} : tnS l (pup nm gn l l.length) = tnS l (pin nm gn l) :=
  tnS_congr fun x hx => by unfold pup; rw [decide_eq_true hx, Bool.true_and]
theorem passL_len (nm : List Int) (l : List (Int × Int)) (i : Nat) : (passL nm l i).length = l.length := by
  unfold passL
  split
  · rw [List.length_set]
  · split
    · rw [tnS_len]
    · rfl
theorem gb_below {w v v' : World} {g : Nat} (h : w.grownBy v (some g)) (hb : Below v.heap.size v v') : w.grownBy v' (some g) :=
  ⟨hb.os.trans h.os, hb.tape.trans h.tape, hb.output.trans h.output, Nat.le_trans h.size hb.size, fun k hk hne => (hb.block k (Nat.lt_of_lt_of_le hk h.size)).trans (h.block k hk hne)⟩
theorem gb_set2 {w v : World} {g j j' : Nat} {u u' : Value} (h : w.grownBy v (some g)) : w.grownBy ((v.setCell ⟨g, j, none⟩ u).setCell ⟨g, j', none⟩ u') (some g) :=
  ⟨h.os, h.tape, h.output, by rw [World.size_setCell, World.size_setCell]; exact h.size, fun k hk hne => by
    have e : k ≠ g := fun e => hne (by rw [e])
    rw [Below.heap_setCell _ _ _ _ e, Below.heap_setCell _ _ _ _ e]
    exact h.block k hk hne⟩
theorem gb_refl (w : World) (g : Nat) : w.grownBy w (some g) := ⟨rfl, rfl, rfl, Nat.le_refl _, fun _ _ _ => rfl⟩
theorem spec_flPass (R C : Int) (g5 cap g6 c6 : Nat) (l : List (Int × Int)) (nm : List Int) (rest5 rest6 : List Value) (i : Nat) (w : World) (hi : i < l.length) (hn : l.length ≤ 1048576) (hnm : nm.length = l.length) (hgd : ∀ x ∈ l, good x.1 x.2 = true)
    (X7 : Whole w g5 92 (flat l ++ rest5)) (X6 : Whole w g6 3 (ints nm ++ rest6)) :
    Calls Try.prog 82 #[.agg #[.int .i64 R, .int .i64 C, .slice (some ⟨g5, 0, none⟩) l.length cap], .slice (some ⟨g6, 0, none⟩) nm.length c6, .int .i64 (i : Int)] w
      fun e w' => e = .returned (.tuple #[]) ∧ Whole w' g5 92 (flat (passL nm l i) ++ rest5) ∧ w.grownBy w' (some g5) := by
  have HGood := Lib.hid (fun k (hk : k < l.length) => hgd _ (List.getElem_mem hk))
  have hget : l.getD i (0, 0) = l[i] := by rw [List.getD_eq_getElem?_getD, List.getElem?_eq_getElem hi]; rfl
  have hc0 : w.cell? ⟨g5, i * 2, none⟩ = some (.int .i64 l[i].1) := (X7.cell _).trans (by rw [List.getElem?_append_left (by rw [flat_length]; omega)]; exact (flat_at l i hi).1)
  have hc1 : w.cell? ⟨g5, i * 2 + 1, none⟩ = some (.int .i64 l[i].2) := (X7.cell _).trans (by rw [List.getElem?_append_left (by rw [flat_length]; omega)]; exact (flat_at l i hi).2)
  have hgi := HGood.out i hi
  have h5l := X7.lt
  have hne65 : g6 ≠ g5 := fun e => by
    subst e
    unfold Whole at X7 X6
    rw [X7] at X6
    injection X6 with X6
    injection X6 with _ ht
    exact absurd ht (by decide)
  rewrite [hnm]
  have HNm := Lib.hid hnm
  clear hgd hnm
  go_enter Try.func82, Try.ntmps82
  go_upto_region 2 with (fail)
  obtain ⟨v0, hv0, X0, X1, B0, hz0⟩ := two_boxes w [.int .i64 R, .int .i64 C, .slice (some ⟨g5, 0, none⟩) l.length cap] 32 [.int .i64 l[i].1, .int .i64 l[i].2] 92
  rewrite [show (w.alloc (.cells ([.int .i64 R, .int .i64 C, .slice (some ⟨g5, 0, none⟩) l.length cap] : List Value).toArray 32)).alloc (.cells ([.int .i64 l[i].1, .int .i64 l[i].2] : List Value).toArray 92) = v0 from hv0]
  have hg6l := X6.lt
  replace X7 := X7.below B0 X7.lt
  replace X6 := X6.below B0 X6.lt
  have hgb : w.grownBy v0 (some g5) := gb_below (gb_refl w g5) B0
  clear hv0 hc0 hc1 B0
  have k0 : v0.cell? ⟨w.heap.size + 1, 0, none⟩ = some (.int .i64 l[i].1) := (X1.cell 0).trans rfl
  by_cases h3 : l[i].1 = 3
  · have HE := Lib.hid (show passL nm l i = l.set i (3, 1 - l[i].2) by unfold passL; rw [hget, if_pos h3, h3])
    have hgood := hgi
    rw [h3] at hgood k0 X1
    have HSet := Lib.hid (flat_set l i 3 (1 - l[i].2) hi rest5)
    have q0 : (flat l ++ rest5)[i * 2]? = some (.int .i64 l[i].1) := by rw [List.getElem?_append_left (by rw [flat_length]; omega)]; exact (flat_at _ i hi).1
    have q1 : (flat l ++ rest5)[i * 2 + 1]? = some (.int .i64 l[i].2) := by rw [List.getElem?_append_left (by rw [flat_length]; omega)]; exact (flat_at _ i hi).2
    rw [h3] at q0
    rw [h3]
    clear hgi hget h3
    generalize l[i].2 = st at *
    have Q0 := Lib.hid q0
    have Q1 := Lib.hid q1
    clear q0 q1
    have hx0 := X0.lt
    have hx1 := X1.lt
    go_upto_region 4 with (fail)
    have KS := Lib.hid (fun (w' : World) (h : Below v0.heap.size v0 w') => (⟨(h.cell (p := ⟨w.heap.size, 2, none⟩) hx0).trans ((X0.cell 2).trans rfl), (h.cell (p := ⟨w.heap.size + 1, 0, none⟩) hx1).trans k0, (h.cell (p := ⟨w.heap.size + 1, 1, none⟩) hx1).trans ((X1.cell 1).trans rfl)⟩ : w'.cell? ⟨w.heap.size, 2, none⟩ = some (.slice (some ⟨g5, 0, none⟩) l.length cap) ∧ w'.cell? ⟨w.heap.size + 1, 0, none⟩ = some (.int .i64 3) ∧ w'.cell? ⟨w.heap.size + 1, 1, none⟩ = some (.int .i64 st)))
    have KS2 := Lib.hid (fun (w' : World) (u u' : Value) (h : Below v0.heap.size v0 w') => (⟨(cell_two_far (j := i * 2) (j' := i * 2 + 1) (u := u) (u' := u') (show w.heap.size ≠ g5 by omega)).trans (KS.out w' h).1, (cell_two_far (j := i * 2) (j' := i * 2 + 1) (u := u) (u' := u') (show w.heap.size + 1 ≠ g5 by omega)).trans (KS.out w' h).2.1, (cell_two_far (j := i * 2) (j' := i * 2 + 1) (u := u) (u' := u') (show w.heap.size + 1 ≠ g5 by omega)).trans (KS.out w' h).2.2⟩ : ((w'.setCell ⟨g5, i * 2, none⟩ u).setCell ⟨g5, i * 2 + 1, none⟩ u').cell? ⟨w.heap.size, 2, none⟩ = some (.slice (some ⟨g5, 0, none⟩) l.length cap) ∧ ((w'.setCell ⟨g5, i * 2, none⟩ u).setCell ⟨g5, i * 2 + 1, none⟩ u').cell? ⟨w.heap.size + 1, 0, none⟩ = some (.int .i64 3) ∧ ((w'.setCell ⟨g5, i * 2, none⟩ u).setCell ⟨g5, i * 2 + 1, none⟩ u').cell? ⟨w.heap.size + 1, 1, none⟩ = some (.int .i64 st)))
    clear k0
    go_region_held3 (fun w' => w'.cell? ⟨w.heap.size, 2, none⟩ = some (.slice (some ⟨g5, 0, none⟩) l.length cap) ∧ w'.cell? ⟨w.heap.size + 1, 0, none⟩ = some (.int .i64 3) ∧ w'.cell? ⟨w.heap.size + 1, 1, none⟩ = some (.int .i64 st))
            (first | exact KS2.out w5 _ _ bb5 | exact KS.out _ (by (repeat' (first | (with_reducible exact Below.refl _ _) | (with_reducible assumption) | (with_reducible refine Below.alloc ?_ ?_ _) | (with_reducible refine Below.setCell ?_ ?_ _) | (with_reducible refine Below.drew ?_) | (with_reducible refine below_drewN ?_ _) | (with_reducible refine Below.trans ?_ (Below.mono (by assumption) ?_)) | go_size))) | fail)
            ((first | (go_at_call 95; (with_reducible refine (spec_paTurn 3 st hgood _).mono ?_); rintro e w5 ⟨rfl, b5⟩; have bb5 : Below v0.heap.size v0 w5 := (by (repeat' (first | (with_reducible exact Below.refl _ _) | (with_reducible assumption) | (with_reducible refine Below.alloc ?_ ?_ _) | (with_reducible refine Below.setCell ?_ ?_ _) | (with_reducible refine Below.drew ?_) | (with_reducible refine below_drewN ?_ _) | (with_reducible refine Below.trans ?_ (Below.mono (by assumption) ?_)) | go_size))); have X75 := X7.below bb5 X7.lt; have hq0 := (X75.cell (i * 2)).trans Q0.out; have hq1 := (X75.cell (i * 2 + 1)).trans Q1.out; have hf0 := X75.frozen (i * 2); have hf1 := X75.frozen (i * 2 + 1)) | fail))
    have X7' := (X75.set (i * 2) (.int .i64 3)).set (i * 2 + 1) (.int .i64 (1 - st))
    rw [HSet.out, ← HE.out] at X7'
    have hgb' := gb_set2 (j := i * 2) (j' := i * 2 + 1) (u := .int .i64 3) (u' := .int .i64 (1 - st)) (gb_below hgb bb5)
    clear KS KS2 X0 X1 X6 X7 X75 hgb hq0 hq1 hf0 hf1 bb5 b5
    go_wp2
    go_returns
    exact ⟨rfl, X7', hgb'⟩
  · by_cases h6 : l[i].1 = 6
    · have HE := Lib.hid (show passL nm l i = tnS l (pin nm (nm.getD i 0) l) by unfold passL; rw [hget, if_neg h3, if_pos h6])
      rw [h6] at k0 ⊢
      rw [← pup_zero (nm := nm) (l := l) (gn := nm.getD i 0)] at X7
      generalize hgn : nm.getD i 0 = gn at *
      have hx0 := X0.lt
      have kb := (X0.cell 2).trans rfl
      go_upto_region 7 with (fail)
      clear k0 kb hgi h3 h6 X1 hget
      generalize l[i].2 = sti
      go_wp2
      go_loopw [29] (fun t wr => ∃ k : Nat, t = .int .i64 k ∧ k ≤ l.length ∧ Whole wr w.heap.size 32 [.int .i64 R, .int .i64 C, .slice (some ⟨g5, 0, none⟩) l.length cap] ∧ Whole wr g5 92 (flat (tnS l (pup nm gn l k)) ++ rest5) ∧ Whole wr g6 3 (ints nm ++ rest6) ∧ w.grownBy wr (some g5)) (fun t _ => l.length - (intOf t).toNat)
      case atStart => exact ⟨0, rfl, Nat.zero_le _, X0, X7, X6, hgb⟩
      case round =>
        clear X0 X7 X6 hgb hx0
        obtain ⟨k, rfl, hk, X0, X7, X6, hgb⟩ := hrel
        by_cases hlt : k < l.length
        · have hTl : k < (tnS l (pup nm gn l k)).length := by rw [tnS_len]; exact hlt
          have hget : l.getD k (0, 0) = l[k] := by rw [List.getD_eq_getElem?_getD, List.getElem?_eq_getElem hlt]; rfl
          have hTk : (tnS l (pup nm gn l k))[k] = l[k] := by rw [tnS_at hTl, ← hget]; unfold pup; simp
          have hc0 : wr.cell? ⟨g5, k * 2, none⟩ = some (.int .i64 l[k].1) := (X7.cell _).trans (by rw [List.getElem?_append_left (by rw [flat_length, tnS_len]; omega), ← hTk]; exact (flat_at _ k hTl).1)
          have hc1 : wr.cell? ⟨g5, k * 2 + 1, none⟩ = some (.int .i64 l[k].2) := (X7.cell _).trans (by rw [List.getElem?_append_left (by rw [flat_length, tnS_len]; omega), ← hTk]; exact (flat_at _ k hTl).2)
          have hn0 : ∀ x, x < nm.length → (ints nm ++ rest6)[x]? = some (.int .i64 (nm.getD x 0)) := fun x hx => by
            rw [List.getElem?_append_left (by rw [ints_length]; exact hx), ints_at nm x hx, List.getD_eq_getElem?_getD, List.getElem?_eq_getElem hx]; rfl
          have hgood := HGood.out k hlt
          have HIn := Lib.hid (show pin nm gn l k = (decide (nm.getD k 0 = gn) && decide (l[k].1 = 6)) by unfold pin gearK; rw [hget])
          have HY := Lib.hid (pup_yes (nm := nm) (gn := gn) hlt)
          have HN := Lib.hid (pup_no (nm := nm) (l := l) (gn := gn) (k := k))
          rw [hget] at HY
          have HSet := Lib.hid (fun y => flat_set (tnS l (pup nm gn l k)) k 6 y hTl rest5)
          have q0 : (flat (tnS l (pup nm gn l k)) ++ rest5)[k * 2]? = some (.int .i64 l[k].1) := by rw [List.getElem?_append_left (by rw [flat_length, tnS_len]; omega), ← hTk]; exact (flat_at _ k hTl).1
          have q1 : (flat (tnS l (pup nm gn l k)) ++ rest5)[k * 2 + 1]? = some (.int .i64 l[k].2) := by rw [List.getElem?_append_left (by rw [flat_length, tnS_len]; omega), ← hTk]; exact (flat_at _ k hTl).2
          clear hget hTk
          generalize l[k].1 = kd at *
          generalize l[k].2 = st at *
          go_upto_region 9 with (fail)
          have X9 : Whole (wr.alloc (.cells #[.int .i64 kd, .int .i64 st] 92)) wr.heap.size 92 [.int .i64 kd, .int .i64 st] := heap_alloc_new wr _
          have b9 : Below wr.heap.size wr (wr.alloc (.cells #[.int .i64 kd, .int .i64 st] 92)) := (Below.refl _ _).alloc (Nat.le_refl _) _
          have hsz := hgb.size
          have hg5r := X7.lt
          have hYw : w.heap.size < wr.heap.size := X0.lt
          replace X0 := X0.below b9 X0.lt
          replace X7 := X7.below b9 X7.lt
          replace X6 := X6.below b9 X6.lt
          replace hgb := gb_below hgb b9
          clear b9 hc0 hc1
          generalize wr.alloc (.cells #[.int .i64 kd, .int .i64 st] 92) = v9 at *
          generalize wr.heap.size = Y at *
          have y0 : v9.cell? ⟨Y, 0, none⟩ = some (.int .i64 kd) := (X9.cell 0).trans rfl
          have hnk : v9.cell? ⟨g6, k, none⟩ = some (.int .i64 (nm.getD k 0)) := (X6.cell k).trans (hn0 k (by have := HNm.out; omega))
          have hni : v9.cell? ⟨g6, i, none⟩ = some (.int .i64 gn) := by rw [← hgn]; exact (X6.cell i).trans (hn0 i (by have := HNm.out; omega))
          by_cases h66 : kd = 6
          · subst h66
            by_cases hnm2 : nm.getD k 0 = gn
            · have HE2 := Lib.hid (HY.out (by rw [HIn.out, decide_eq_true hnm2]; rfl))
              rw [hnm2] at hnk
              clear HY HN HIn hnm2 hn0
              have Q0 := Lib.hid q0
              have Q1 := Lib.hid q1
              clear q0 q1
              have hx0 := X0.lt
              have hx1 := X9.lt
              go_upto_region 9 with (fail)
              go_quiet (fail)
              have bq : Below v9.heap.size v9 (v9.drewN nq) := below_drewN (Below.refl _ _) _
              replace X0 := X0.below bq X0.lt
              replace X7 := X7.below bq X7.lt
              replace X6 := X6.below bq X6.lt
              replace hgb := gb_below hgb bq
              replace X9 := X9.below bq X9.lt
              replace y0 := (X9.cell 0).trans rfl
              clear hnk hni
              clear bq
              generalize v9.drewN nq = v9 at *
              replace hx0 := X0.lt
              replace hx1 := X9.lt
              go_upto_region 10 with (fail)
              have KS := Lib.hid (fun (w' : World) (h : Below v9.heap.size v9 w') => (⟨(h.cell (p := ⟨w.heap.size, 2, none⟩) hx0).trans ((X0.cell 2).trans rfl), (h.cell (p := ⟨Y, 0, none⟩) hx1).trans y0, (h.cell (p := ⟨Y, 1, none⟩) hx1).trans ((X9.cell 1).trans rfl)⟩ : w'.cell? ⟨w.heap.size, 2, none⟩ = some (.slice (some ⟨g5, 0, none⟩) l.length cap) ∧ w'.cell? ⟨Y, 0, none⟩ = some (.int .i64 6) ∧ w'.cell? ⟨Y, 1, none⟩ = some (.int .i64 st)))
              have KS2 := Lib.hid (fun (w' : World) (u u' : Value) (h : Below v9.heap.size v9 w') => (⟨(cell_two_far (j := k * 2) (j' := k * 2 + 1) (u := u) (u' := u') (show w.heap.size ≠ g5 by omega)).trans (KS.out w' h).1, (cell_two_far (j := k * 2) (j' := k * 2 + 1) (u := u) (u' := u') (show Y ≠ g5 by omega)).trans (KS.out w' h).2.1, (cell_two_far (j := k * 2) (j' := k * 2 + 1) (u := u) (u' := u') (show Y ≠ g5 by omega)).trans (KS.out w' h).2.2⟩ : ((w'.setCell ⟨g5, k * 2, none⟩ u).setCell ⟨g5, k * 2 + 1, none⟩ u').cell? ⟨w.heap.size, 2, none⟩ = some (.slice (some ⟨g5, 0, none⟩) l.length cap) ∧ ((w'.setCell ⟨g5, k * 2, none⟩ u).setCell ⟨g5, k * 2 + 1, none⟩ u').cell? ⟨Y, 0, none⟩ = some (.int .i64 6) ∧ ((w'.setCell ⟨g5, k * 2, none⟩ u).setCell ⟨g5, k * 2 + 1, none⟩ u').cell? ⟨Y, 1, none⟩ = some (.int .i64 st)))
              clear y0
              go_region_held3 (fun w' => w'.cell? ⟨w.heap.size, 2, none⟩ = some (.slice (some ⟨g5, 0, none⟩) l.length cap) ∧ w'.cell? ⟨Y, 0, none⟩ = some (.int .i64 6) ∧ w'.cell? ⟨Y, 1, none⟩ = some (.int .i64 st))
            (first | exact KS2.out w5 _ _ bb5 | exact KS.out _ (by (repeat' (first | (with_reducible exact Below.refl _ _) | (with_reducible assumption) | (with_reducible refine Below.alloc ?_ ?_ _) | (with_reducible refine Below.setCell ?_ ?_ _) | (with_reducible refine Below.drew ?_) | (with_reducible refine below_drewN ?_ _) | (with_reducible refine Below.trans ?_ (Below.mono (by assumption) ?_)) | go_size))) | fail)
            ((first | (go_at_call 95; (with_reducible refine (spec_paTurn 6 st hgood _).mono ?_); rintro e w5 ⟨rfl, b5⟩; have bb5 : Below v9.heap.size v9 w5 := (by (repeat' (first | (with_reducible exact Below.refl _ _) | (with_reducible assumption) | (with_reducible refine Below.alloc ?_ ?_ _) | (with_reducible refine Below.setCell ?_ ?_ _) | (with_reducible refine Below.drew ?_) | (with_reducible refine below_drewN ?_ _) | (with_reducible refine Below.trans ?_ (Below.mono (by assumption) ?_)) | go_size))); have X75 := X7.below bb5 X7.lt; have hq0 := (X75.cell (k * 2)).trans Q0.out; have hq1 := (X75.cell (k * 2 + 1)).trans Q1.out; have hf0 := X75.frozen (k * 2); have hf1 := X75.frozen (k * 2 + 1)) | fail))
              have X7' := (X75.set (k * 2) (.int .i64 6)).set (k * 2 + 1) (.int .i64 (1 - st))
              rw [HSet.out, HE2.out] at X7'
              have hgb' := gb_set2 (j := k * 2) (j' := k * 2 + 1) (u := .int .i64 6) (u' := .int .i64 (1 - st)) (gb_below hgb bb5)
              have X0' := (X0.below bb5 X0.lt).two_far (u := .int .i64 6) (u' := .int .i64 (1 - st)) (j := k * 2) (j' := k * 2 + 1) (show w.heap.size ≠ g5 by omega)
              have X6' := (X6.below bb5 X6.lt).two_far (u := .int .i64 6) (u' := .int .i64 (1 - st)) (j := k * 2) (j' := k * 2 + 1) hne65
              clear KS KS2 X0 X9 X6 X7 X75 hgb hq0 hq1 hf0 hf1 bb5 b5
              go_wp2
              go_roundw
              case rel => exact ⟨k + 1, by go_num, by omega, X0', X7', X6', hgb'⟩
              case measure => simp [intOf]; omega
            · have HE2 := Lib.hid (HN.out (by rw [HIn.out, decide_eq_false hnm2, Bool.false_and]))
              clear HY HN HIn hn0
              generalize nm.getD k 0 = nk at *
              go_upto_region 9 with (fail)
              go_quiet (fail)
              have bq : Below v9.heap.size v9 (v9.drewN nq) := below_drewN (Below.refl _ _) _
              replace X0 := X0.below bq X0.lt
              replace X7 := X7.below bq X7.lt
              replace X6 := X6.below bq X6.lt
              replace hgb := gb_below hgb bq
              clear y0 hnk hni X9
              clear bq
              generalize v9.drewN nq = v9 at *
              go_wp2
              go_roundw
              case rel => exact ⟨k + 1, by go_num, by omega, X0, by rw [HE2.out]; exact X7, X6, hgb⟩
              case measure => simp [intOf]; omega
          · have HE2 := Lib.hid (HN.out (by rw [HIn.out, decide_eq_false h66, Bool.and_false]))
            clear HY HN HIn hnk hni
            go_upto_region 9 with (fail)
            go_quiet (fail)
            have bq : Below v9.heap.size v9 (v9.drewN nq) := below_drewN (Below.refl _ _) _
            replace X0 := X0.below bq X0.lt
            replace X7 := X7.below bq X7.lt
            replace X6 := X6.below bq X6.lt
            replace hgb := gb_below hgb bq
            clear y0 X9
            clear bq
            generalize v9.drewN nq = v9 at *
            go_wp2
            go_roundw
            case rel => exact ⟨k + 1, by go_num, by omega, X0, by rw [HE2.out]; exact X7, X6, hgb⟩
            case measure => simp [intOf]; omega
        · obtain rfl : k = l.length := by omega
          rw [pup_all, ← HE.out] at X7
          go_wp2
          go_returns
          exact ⟨rfl, X7, hgb⟩
    · have HE := Lib.hid (show passL nm l i = l by unfold passL; rw [hget, if_neg h3, if_neg h6])
      generalize l[i].1 = kd at *
      go_wp2
      go_returns
      exact ⟨rfl, by rw [HE.out]; exact X7, hgb⟩
end Go.Proofs.Ytoflhjekldlaiaa
