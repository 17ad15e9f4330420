/- Drawn boards: anyBoard. -/
import Derived.Deep.RegionHeld3
import Derived.Test.YtpfjbecpfdgnpaaBeside
import Derived.Test.YtpfjbecpfdgnpaaPut
import Derived.Test.YtpfjbecpfdgnpaaDrawA
namespace Go.Proofs.Ytpfjbecpfdgnpaa
open Go.ChangeShapes Go.WideShapes Go.ChangeAt Go.RowKit Go.Joins Go.Deep
set_option linter.unusedSimpArgs false
set_option linter.unusedVariables false
set_option maxRecDepth 100000
set_option maxHeartbeats 4000000
/-- A slice of the call's own that may begin inside its block. -/
def OwnAt (w : World) (A : Option Addr) (t : TypeId) (xs : List Value) : Prop :=
  0 < xs.length → ∃ (g : Nat) (pre rest : List Value), A = some ⟨g, pre.length, none⟩ ∧ Whole w g t (pre ++ xs ++ rest)
theorem OwnAt.rd {w : World} {A : Option Addr} {t : TypeId} {xs : List Value} (h : OwnAt w A t xs) : Rd w w.heap.size A xs := fun hx => by
  obtain ⟨g, pre, rest, e, hw⟩ := h hx
  refine ⟨g, pre.length, e, hw.lt, fun j u hu => ?_⟩
  have hj := (List.getElem?_eq_some_iff.1 hu).1
  rw [hw.cell, List.append_assoc, List.getElem?_append_right (by omega), List.getElem?_append_left (by omega)]
  rw [← hu]; congr 1; omega
theorem OwnAt.grownC {w w' : World} {A : Option Addr} {t : TypeId} {xs : List Value} {p : Nat} (h : OwnAt w A t xs) (hg : w.grownBy w' (some p)) (hne : ∀ a, A = some a → a.block ≠ p) : OwnAt w' A t xs := fun hx => by
  obtain ⟨g, pre, rest, e, hw⟩ := h hx
  exact ⟨g, pre, rest, e, hw.grownC hg (hne _ e)⟩
theorem OwnAt.new {w w' : World} {A : Option Addr} {t : TypeId} {xs : List Value} (h : OwnAt w A t xs) (hb : Below w.heap.size w w') : OwnAt w' A t xs := fun hx => by
  obtain ⟨g, pre, rest, e, hw⟩ := h hx
  exact ⟨g, pre, rest, e, hw.new hb⟩
theorem OwnAt.set_far {w : World} {A : Option Addr} {t : TypeId} {xs : List Value} (h : OwnAt w A t xs) (p : Addr) (u : Value) (hne : ∀ a, A = some a → p.block ≠ a.block) : OwnAt (w.setCell p u) A t xs := fun hx => by
  obtain ⟨g, pre, rest, e, hw⟩ := h hx
  exact ⟨g, pre, rest, e, hw.set_far p u (hne _ e)⟩
/-- What a draw of any board leaves: a board of its own, mostly a good one. -/
def AnyDraw (w : World) (p m : Nat) (e : Ending) (w' : World) : Prop := ∃ (R C : Int) (A : Option Addr) (cap : Nat) (l : List (Int × Int)), e = .returned (.agg #[.int .i64 R, .int .i64 C, .slice A l.length cap]) ∧ (0 ≤ R ∧ R ≤ 11) ∧ (0 ≤ C ∧ C ≤ 10) ∧ l.length ≤ 90 ∧ l.length ≤ cap ∧ OwnAt w' A 27 (flat l) ∧ New w A ∧ Cr w' p m ∧ w.grownBy w' (some p)
theorem keep_set {w : World} {g q j i : Nat} {u : Value} {x : Option Value} (h : w.cell? ⟨q, i, none⟩ = x) (hne : g ≠ q) : (w.setCell ⟨g, j, none⟩ u).cell? ⟨q, i, none⟩ = x :=
  (World.cell?_of_block (a := ⟨q, i, none⟩) (Below.heap_setCell w ⟨g, j, none⟩ u q (fun e => hne e.symm))).trans h
theorem cell_left {xs ys : List Value} {j : Nat} {u : Value} (h : xs[j]? = some u) : (xs ++ ys)[j]? = some u := by
  rw [List.getElem?_append_left (List.getElem?_eq_some_iff.1 h).1, h]
theorem run_makeN (n : Nat) (hn : n ≤ 1048576) (w : World) :
    (Instr.makeSlice 23 (.int .i64 (n : Int)) (.int .i64 (n : Int))).run Try.prog w = .ok (.slice (some ⟨w.heap.size, 0, none⟩) n n) (w.alloc (.cells (zrow (2 * n)).toArray 27)) := by
  obtain ⟨i0, hi, hz0, hz1, hz2⟩ := info_parts cellInfo
  have h := run_make (P := Try.prog) w 23 27 i0 _ Try.underlying23 hi hz0 .i64 .i64 (n : Int) (n : Int) (by omega) (by omega) (by rw [hz2]; omega) (by omega)
  rw [hz1] at h
  simp only [Int.toNat_natCast] at h
  rw [h, made_cells]
theorem anyBoard_any (p n : Nat) (w : World) (h : Cr w p n) (hn : n ≤ 600000) :
    Calls Try.prog 65 #[.pointer (some ⟨p, 0, none⟩)] w (AnyDraw w p (n + 2200)) := by
  have hp := h.lt
  obtain ⟨v0, hv0, Y, B0, hz0⟩ := one_box w [.int .i64 0, .int .i64 0, .slice none 0 0] 25
  have HV := Lib.hid hv0
  clear hv0
  have C0 : Cr v0 p n := h.keep (below_grown (row := none) B0) (by simp)
  have gw : w.grownBy v0 (some p) := below_grown B0
  go_enter Try.func65, Try.ntmps65
  go_wp2_with fail
  rewrite [show w.alloc (.cells ([.int .i64 0, .int .i64 0, .slice none 0 0] : List Value).toArray 25) = v0 from HV.out]
  clear HV B0
  refine (board_any p n _ C0 (by omega)).mono ?_; rintro e w1 ⟨R, C, A, cap, l, rfl, hg, hcap, ho, hn1, c1, g1⟩
  obtain ⟨hgl, hl90, hl0⟩ := goodB_parts hg
  obtain ⟨hsz, hlen, -⟩ := goodB_iff.1 hg
  rw [sizeB_iff] at hsz
  obtain ⟨g, rest, rfl, WG⟩ := ho (by rw [flat_length]; omega)
  have hgn : w.heap.size < g := by have := hn1 _ rfl; simp at this; omega
  have hgl1 := WG.lt
  replace Y := Y.grownC g1 (by omega)
  replace gw := gw.trans g1
  have HL := Lib.hid hlen
  clear C0 g1 hz0 ho hn1 hgl hlen
  obtain ⟨v1, hv1, XB, B1, hz1⟩ := one_box w1 [.int .i64 R, .int .i64 C, .slice (some ⟨g, 0, none⟩) l.length cap] 25
  have HV := Lib.hid hv1
  clear hv1
  go_wp2_with fail
  rewrite [show w1.alloc (.cells ([.int .i64 R, .int .i64 C, .slice (some ⟨g, 0, none⟩) l.length cap] : List Value).toArray 25) = v1 from HV.out]
  clear HV
  refine (pick_any p _ 36 _ (c1.keep (below_grown (row := none) B1) (by simp)) (by omega) (by omega) (by omega)).mono ?_; rintro e w3 ⟨x, rfl, x0, x1, c3, g3⟩
  replace Y := (Y.new B1).grownC g3 (by omega)
  replace XB := XB.grownC g3 (by have := c1.lt; omega)
  replace WG := (WG.new B1).grownC g3 (by omega)
  replace gw := (gw.trans (below_grown B1)).trans g3
  have hs3 := XB.lt
  have hp3 := c1.lt
  clear B1 hz1 g3 c1
  by_cases h0 : x = 0
  · subst h0
    obtain ⟨v3, hv3, Z0, B1, hz1⟩ := one_box w3 (ints [0, R + 1, 10, 11]) 3
    have HV := Lib.hid hv3
    clear hv3
    have k0 : w3.cell? ⟨w1.heap.size, 0, none⟩ = some (.int .i64 R) := (XB.cell 0).trans rfl
    go_wp2_with fail
    rewrite [show w3.alloc (.cells ([.int .i64 0, .int .i64 (R + 1), .int .i64 10, .int .i64 11] : List Value).toArray 3) = v3 from HV.out]
    clear HV k0
    refine (among_any p _ (some ⟨w3.heap.size, 0, none⟩) 4 [0, R + 1, 10, 11] _ (c3.keep (below_grown (row := none) B1) (by simp)) (by omega) (by simp) (by simp) Z0.rdI (by simp; omega)).mono ?_; rintro e w4 ⟨y, rfl, hy, c4, g4⟩
    replace Y := (Y.new B1).grownC g4 (by omega)
    replace XB := (XB.new B1).grownC g4 (by omega)
    replace WG := (WG.new B1).grownC g4 (by omega)
    replace gw := (gw.trans (below_grown B1)).trans g4
    clear Z0 B1 hz1 g4 c3
    have q0 : w4.cell? ⟨w.heap.size, 0, none⟩ = some (.int .i64 0) := (Y.cell 0).trans rfl
    have q1 : w4.cell? ⟨w.heap.size, 1, none⟩ = some (.int .i64 0) := (Y.cell 1).trans rfl
    have q2 : w4.cell? ⟨w.heap.size, 2, none⟩ = some (.slice none 0 0) := (Y.cell 2).trans rfl
    have k0 : w4.cell? ⟨w1.heap.size, 0, none⟩ = some (.int .i64 R) := (XB.cell 0).trans rfl
    have k1 : w4.cell? ⟨w1.heap.size, 1, none⟩ = some (.int .i64 C) := (XB.cell 1).trans rfl
    have k2 : w4.cell? ⟨w1.heap.size, 2, none⟩ = some (.slice (some ⟨g, 0, none⟩) l.length cap) := (XB.cell 2).trans rfl
    have Yf0 := Y.frozen 0; have Yf1 := Y.frozen 1; have Yf2 := Y.frozen 2
    have k3 := XB.frozen 0
    have k4 := XB.frozen 1
    have k5 := XB.frozen 2
    go_wp2
    refine bodyPost_ret (v := .agg #[.int .i64 y, .int .i64 C, .slice (some ⟨g, 0, none⟩) l.length cap]) ?_ rfl ?_; (focus (simp [results, Try.results65, go_sem, *]; done))
    refine ⟨y, C, _, cap, l, rfl, (by simp at hy; omega), (by simp at hy; omega), hl90, hcap, fun _ => ⟨g, [], rest, rfl, (((WG.set_far _ _ (by simp; omega)).set_far _ _ (by simp; omega)).set_far _ _ (by simp; omega)).set_far _ _ (by simp; omega)⟩, fun a ha => by cases ha; exact Nat.le_of_lt hgn, ((((c4.mono (by omega)).set_far (by omega)).set_far hp).set_far hp).set_far hp, grown_set_new (grown_set_new (grown_set_new (grown_set_new gw (by omega)) (Nat.le_refl _)) (Nat.le_refl _)) (Nat.le_refl _)⟩
  · by_cases h1 : x = 1
    · subst h1
      obtain ⟨v3, hv3, Z0, B1, hz1⟩ := one_box w3 (ints [0, C + 1, 9, 10]) 3
      have HV := Lib.hid hv3
      clear hv3
      have k0 : w3.cell? ⟨w1.heap.size, 1, none⟩ = some (.int .i64 C) := (XB.cell 1).trans rfl
      go_wp2_with fail
      rewrite [show w3.alloc (.cells ([.int .i64 0, .int .i64 (C + 1), .int .i64 9, .int .i64 10] : List Value).toArray 3) = v3 from HV.out]
      clear HV k0
      refine (among_any p _ (some ⟨w3.heap.size, 0, none⟩) 4 [0, C + 1, 9, 10] _ (c3.keep (below_grown (row := none) B1) (by simp)) (by omega) (by simp) (by simp) Z0.rdI (by simp; omega)).mono ?_; rintro e w4 ⟨y, rfl, hy, c4, g4⟩
      replace Y := (Y.new B1).grownC g4 (by omega)
      replace XB := (XB.new B1).grownC g4 (by omega)
      replace WG := (WG.new B1).grownC g4 (by omega)
      replace gw := (gw.trans (below_grown B1)).trans g4
      clear Z0 B1 hz1 g4 c3
      have q0 : w4.cell? ⟨w.heap.size, 0, none⟩ = some (.int .i64 0) := (Y.cell 0).trans rfl
      have q1 : w4.cell? ⟨w.heap.size, 1, none⟩ = some (.int .i64 0) := (Y.cell 1).trans rfl
      have q2 : w4.cell? ⟨w.heap.size, 2, none⟩ = some (.slice none 0 0) := (Y.cell 2).trans rfl
      have k0 : w4.cell? ⟨w1.heap.size, 0, none⟩ = some (.int .i64 R) := (XB.cell 0).trans rfl
      have k1 : w4.cell? ⟨w1.heap.size, 1, none⟩ = some (.int .i64 C) := (XB.cell 1).trans rfl
      have k2 : w4.cell? ⟨w1.heap.size, 2, none⟩ = some (.slice (some ⟨g, 0, none⟩) l.length cap) := (XB.cell 2).trans rfl
      have Yf0 := Y.frozen 0; have Yf1 := Y.frozen 1; have Yf2 := Y.frozen 2
      have k3 := XB.frozen 0
      have k4 := XB.frozen 1
      have k5 := XB.frozen 2
      go_wp2
      refine bodyPost_ret (v := .agg #[.int .i64 R, .int .i64 y, .slice (some ⟨g, 0, none⟩) l.length cap]) ?_ rfl ?_; (focus (simp [results, Try.results65, go_sem, *]; done))
      refine ⟨R, y, _, cap, l, rfl, (by simp at hy; omega), (by simp at hy; omega), hl90, hcap, fun _ => ⟨g, [], rest, rfl, (((WG.set_far _ _ (by simp; omega)).set_far _ _ (by simp; omega)).set_far _ _ (by simp; omega)).set_far _ _ (by simp; omega)⟩, fun a ha => by cases ha; exact Nat.le_of_lt hgn, ((((c4.mono (by omega)).set_far (by omega)).set_far hp).set_far hp).set_far hp, grown_set_new (grown_set_new (grown_set_new (grown_set_new gw (by omega)) (Nat.le_refl _)) (Nat.le_refl _)) (Nat.le_refl _)⟩
    · by_cases h2 : x = 2
      · subst h2
        have k2 : w3.cell? ⟨w1.heap.size, 2, none⟩ = some (.slice (some ⟨g, 0, none⟩) l.length cap) := (XB.cell 2).trans rfl
        have hgne : g ≠ w1.heap.size := by omega
        have hgne' : w1.heap.size ≠ g := by omega
        go_upto_region 8 with fail
        go_region_held3 (fun w' => w'.cell? ⟨w1.heap.size, 2, none⟩ = some (.slice (some ⟨g, 0, none⟩) l.length cap))
          (first | exact keep_set (keep_set (((XB5.new (by (repeat' (first | (with_reducible exact Below.refl _ _) | (with_reducible assumption) | (with_reducible refine Below.alloc ?_ ?_ _) | (with_reducible refine Below.setCell ?_ ?_ _) | (with_reducible refine Below.drew ?_) | (with_reducible refine below_drewN ?_ _) | (with_reducible refine Below.trans ?_ (Below.mono (by assumption) ?_)) | go_size)) : Below w5.heap.size w5 _)).cell 2).trans rfl) hgne) hgne | exact ((XB5.new (by (repeat' (first | (with_reducible exact Below.refl _ _) | (with_reducible assumption) | (with_reducible refine Below.alloc ?_ ?_ _) | (with_reducible refine Below.setCell ?_ ?_ _) | (with_reducible refine Below.drew ?_) | (with_reducible refine below_drewN ?_ _) | (with_reducible refine Below.trans ?_ (Below.mono (by assumption) ?_)) | go_size)) : Below w5.heap.size w5 _)).cell 2).trans rfl | exact ((XB4.new (by (repeat' (first | (with_reducible exact Below.refl _ _) | (with_reducible assumption) | (with_reducible refine Below.alloc ?_ ?_ _) | (with_reducible refine Below.setCell ?_ ?_ _) | (with_reducible refine Below.drew ?_) | (with_reducible refine below_drewN ?_ _) | (with_reducible refine Below.trans ?_ (Below.mono (by assumption) ?_)) | go_size)) : Below w4.heap.size w4 _)).cell 2).trans rfl | exact ((XB.new (by (repeat' (first | (with_reducible exact Below.refl _ _) | (with_reducible assumption) | (with_reducible refine Below.alloc ?_ ?_ _) | (with_reducible refine Below.setCell ?_ ?_ _) | (with_reducible refine Below.drew ?_) | (with_reducible refine below_drewN ?_ _) | (with_reducible refine Below.trans ?_ (Below.mono (by assumption) ?_)) | go_size)) : Below w3.heap.size w3 _)).cell 2).trans rfl | fail)
          ((first | (go_at_call 75; (with_reducible refine (pick_any p (n + 2100 + 2) l.length _ ?_ (by omega) (by omega) (by omega)).mono ?_); (focus exact c3.keep (below_grown (row := none) (by (repeat' (first | (with_reducible exact Below.refl _ _) | (with_reducible assumption) | (with_reducible refine Below.alloc ?_ ?_ _) | (with_reducible refine Below.setCell ?_ ?_ _) | (with_reducible refine Below.drew ?_) | (with_reducible refine below_drewN ?_ _) | (with_reducible refine Below.trans ?_ (Below.mono (by assumption) ?_)) | go_size)) : Below w3.heap.size w3 _)) (by simp)); rintro e w4 ⟨y, rfl, y0, y1, c4, g4⟩; (obtain ⟨k, rfl⟩ := Int.eq_ofNat_of_zero_le y0); have hk : k < l.length := (by omega); have hki : (k : Int) < (l.length : Int) := (by omega); have G4 := (below_grown (row := some p) (by (repeat' (first | (with_reducible exact Below.refl _ _) | (with_reducible assumption) | (with_reducible refine Below.alloc ?_ ?_ _) | (with_reducible refine Below.setCell ?_ ?_ _) | (with_reducible refine Below.drew ?_) | (with_reducible refine below_drewN ?_ _) | (with_reducible refine Below.trans ?_ (Below.mono (by assumption) ?_)) | go_size)) : Below w3.heap.size w3 _)).trans g4; have XB4 := XB.grownC G4 (by omega); have WG4 := WG.grownC G4 (by omega); clear g4) | (go_at_call 68; (with_reducible refine (anyCell_any p (n + 2100 + 2 + 2) _ ?_ (by omega)).mono ?_); (focus exact c4.keep (below_grown (row := none) (by (repeat' (first | (with_reducible exact Below.refl _ _) | (with_reducible assumption) | (with_reducible refine Below.alloc ?_ ?_ _) | (with_reducible refine Below.setCell ?_ ?_ _) | (with_reducible refine Below.drew ?_) | (with_reducible refine below_drewN ?_ _) | (with_reducible refine Below.trans ?_ (Below.mono (by assumption) ?_)) | go_size)) : Below w4.heap.size w4 _)) (by simp)); rintro e w5 ⟨a, b, rfl, hab, c5, g5⟩; have G5 := G4.trans ((below_grown (row := some p) (by (repeat' (first | (with_reducible exact Below.refl _ _) | (with_reducible assumption) | (with_reducible refine Below.alloc ?_ ?_ _) | (with_reducible refine Below.setCell ?_ ?_ _) | (with_reducible refine Below.drew ?_) | (with_reducible refine below_drewN ?_ _) | (with_reducible refine Below.trans ?_ (Below.mono (by assumption) ?_)) | go_size)) : Below w4.heap.size w4 _)).trans g5); have XB5 := XB.grownC G5 (by omega); have WG5 := WG.grownC G5 (by omega); clear g5; have m0 : w5.cell? ⟨g, k * 2, none⟩ = some (.int .i64 l[k].1) := (WG5.cell (k * 2)).trans (cell_left (flat_at l k hk).1); have m1 : w5.cell? ⟨g, k * 2 + 1, none⟩ = some (.int .i64 l[k].2) := (WG5.cell (k * 2 + 1)).trans (cell_left (flat_at l k hk).2); have m2 := WG5.frozen (k * 2); have m3 := WG5.frozen (k * 2 + 1)) | fail))
        have WF := (WG5.set (k * 2) (.int .i64 a)).set (k * 2 + 1) (.int .i64 b)
        rw [flat_set _ _ _ _ hk] at WF
        replace Y := ((Y.grownC G5 (by omega)).set_far ⟨g, k * 2, none⟩ (.int .i64 a) (by simp; omega)).set_far ⟨g, k * 2 + 1, none⟩ (.int .i64 b) (by simp; omega)
        replace XB := (XB5.set_far ⟨g, k * 2, none⟩ (.int .i64 a) hgne).set_far ⟨g, k * 2 + 1, none⟩ (.int .i64 b) hgne
        have c6 := (c5.set_far (show p < g by omega) (j := k * 2) (u := .int .i64 a)).set_far (show p < g by omega) (j := k * 2 + 1) (u := .int .i64 b)
        replace gw := grown_set_new (grown_set_new (gw.trans G5) (show w.heap.size ≤ g by omega) (j := k * 2) (u := .int .i64 a)) (show w.heap.size ≤ g by omega) (j := k * 2 + 1) (u := .int .i64 b)
        clear XB4 XB5 WG4 WG5 WG G4 G5 m0 m1 m2 m3 k2 c5 c4
        generalize (w5.setCell ⟨g, k * 2, none⟩ (.int .i64 a)).setCell ⟨g, k * 2 + 1, none⟩ (.int .i64 b) = w6 at *
        have q0 : w6.cell? ⟨w.heap.size, 0, none⟩ = some (.int .i64 0) := (Y.cell 0).trans rfl
        have q1 : w6.cell? ⟨w.heap.size, 1, none⟩ = some (.int .i64 0) := (Y.cell 1).trans rfl
        have q2 : w6.cell? ⟨w.heap.size, 2, none⟩ = some (.slice none 0 0) := (Y.cell 2).trans rfl
        have k0 : w6.cell? ⟨w1.heap.size, 0, none⟩ = some (.int .i64 R) := (XB.cell 0).trans rfl
        have k1 : w6.cell? ⟨w1.heap.size, 1, none⟩ = some (.int .i64 C) := (XB.cell 1).trans rfl
        have k2 : w6.cell? ⟨w1.heap.size, 2, none⟩ = some (.slice (some ⟨g, 0, none⟩) l.length cap) := (XB.cell 2).trans rfl
        have Yf0 := Y.frozen 0; have Yf1 := Y.frozen 1; have Yf2 := Y.frozen 2
        have k3 := XB.frozen 0
        have k4 := XB.frozen 1
        have k5 := XB.frozen 2
        go_wp2
        refine bodyPost_ret (v := .agg #[.int .i64 R, .int .i64 C, .slice (some ⟨g, 0, none⟩) l.length cap]) ?_ rfl ?_; (focus (simp [results, Try.results65, go_sem, *]; done))
        refine ⟨R, C, some ⟨g, 0, none⟩, cap, l.set k (a, b), by rw [List.length_set], by omega, by omega, by rw [List.length_set]; exact hl90, by rw [List.length_set]; exact hcap, fun _ => ⟨g, [], rest, rfl, ((WF.set_far _ _ (by simp; omega)).set_far _ _ (by simp; omega)).set_far _ _ (by simp; omega)⟩, fun a ha => by cases ha; exact Nat.le_of_lt hgn, (((c6.mono (by omega)).set_far hp).set_far hp).set_far hp, grown_set_new (grown_set_new (grown_set_new gw (Nat.le_refl _)) (Nat.le_refl _)) (Nat.le_refl _)⟩
      · by_cases h3 : x = 3
        · subst h3
          have q0 : w3.cell? ⟨w.heap.size, 0, none⟩ = some (.int .i64 0) := (Y.cell 0).trans rfl
          have q1 : w3.cell? ⟨w.heap.size, 1, none⟩ = some (.int .i64 0) := (Y.cell 1).trans rfl
          have q2 : w3.cell? ⟨w.heap.size, 2, none⟩ = some (.slice none 0 0) := (Y.cell 2).trans rfl
          have k0 : w3.cell? ⟨w1.heap.size, 0, none⟩ = some (.int .i64 R) := (XB.cell 0).trans rfl
          have k1 : w3.cell? ⟨w1.heap.size, 1, none⟩ = some (.int .i64 C) := (XB.cell 1).trans rfl
          have k2 : w3.cell? ⟨w1.heap.size, 2, none⟩ = some (.slice (some ⟨g, 0, none⟩) l.length cap) := (XB.cell 2).trans rfl
          have Yf0 := Y.frozen 0; have Yf1 := Y.frozen 1; have Yf2 := Y.frozen 2
          have k3 := XB.frozen 0
          have k4 := XB.frozen 1
          have k5 := XB.frozen 2
          have e1 : (1 : Int) ≤ (l.length : Int) := by omega
          have e2 : (1 : Int) ≤ (cap : Int) := by omega
          go_wp2
          case inl =>
            have hl1 : l.length - 1 = 0 := by omega
            refine bodyPost_ret (v := .agg #[.int .i64 R, .int .i64 C, .slice (some ⟨g, 0, none⟩) (l.length - 1) 0]) ?_ rfl ?_; (focus (simp [results, Try.results65, go_sem, *]; done))
            refine ⟨R, C, some ⟨g, 0, none⟩, 0, [], (by rw [hl1]; rfl), by omega, by omega, by simp, Nat.zero_le _, fun hx => absurd hx (by simp [flat]), fun a ha => by cases ha; exact Nat.le_of_lt hgn, ((((c3.mono (by omega)).set_far (by omega)).set_far hp).set_far hp).set_far hp, grown_set_new (grown_set_new (grown_set_new (grown_set_new gw (by omega)) (Nat.le_refl _)) (Nat.le_refl _)) (Nat.le_refl _)⟩
          case inr =>
            refine bodyPost_ret (v := .agg #[.int .i64 R, .int .i64 C, .slice (some ⟨g, 2, none⟩) (l.length - 1) (cap - 1)]) ?_ rfl ?_; (focus (simp [results, Try.results65, go_sem, *]; done))
            obtain ⟨u, l', rfl⟩ : ∃ u l', l = u :: l' := by
              cases l with
              | nil => simp at hl0
              | cons u l' => exact ⟨u, l', rfl⟩
            simp only [List.length_cons] at hl90 hcap
            refine ⟨R, C, some ⟨g, 2, none⟩, cap - 1, l', (by simp), by omega, by omega, by omega, by omega, fun _ => ⟨g, [.int .i64 u.1, .int .i64 u.2], rest, rfl, ?_⟩, fun a ha => by cases ha; exact Nat.le_of_lt hgn, ((((c3.mono (by omega)).set_far (by omega)).set_far hp).set_far hp).set_far hp, grown_set_new (grown_set_new (grown_set_new (grown_set_new gw (by omega)) (Nat.le_refl _)) (Nat.le_refl _)) (Nat.le_refl _)⟩
            have WF := (((WG.set_far ⟨w1.heap.size, 2, none⟩ (.slice (some ⟨g, 2, none⟩) ((u :: l').length - 1) (cap - 1)) (by simp; omega)).set_far ⟨w.heap.size, 0, none⟩ (.int .i64 R) (by simp; omega)).set_far ⟨w.heap.size, 1, none⟩ (.int .i64 C) (by simp; omega)).set_far ⟨w.heap.size, 2, none⟩ (.slice (some ⟨g, 2, none⟩) ((u :: l').length - 1) (cap - 1)) (by simp; omega)
            simpa [flat] using WF
        · by_cases h4 : x = 4
          · subst h4
            obtain ⟨v3, hv3, Z0, B1, hz1⟩ := one_box w3 (zrow (2 * 22)) 27
            have hmk : (Instr.makeSlice 23 (.int .i64 22) (.int .i64 22)).run Try.prog w3 = .ok (.slice (some ⟨w3.heap.size, 0, none⟩) 22 22) v3 := by rw [← hv3]; exact run_makeN 22 (by omega) w3
            clear hv3
            replace Y := Y.new B1
            replace XB := XB.new B1
            replace gw := gw.trans (below_grown (row := some p) B1)
            have c4 := c3.keep (below_grown (row := none) B1) (by simp)
            clear B1
            have q0 : v3.cell? ⟨w.heap.size, 0, none⟩ = some (.int .i64 0) := (Y.cell 0).trans rfl
            have q1 : v3.cell? ⟨w.heap.size, 1, none⟩ = some (.int .i64 0) := (Y.cell 1).trans rfl
            have q2 : v3.cell? ⟨w.heap.size, 2, none⟩ = some (.slice none 0 0) := (Y.cell 2).trans rfl
            have k0 : v3.cell? ⟨w1.heap.size, 0, none⟩ = some (.int .i64 R) := (XB.cell 0).trans rfl
            have k1 : v3.cell? ⟨w1.heap.size, 1, none⟩ = some (.int .i64 C) := (XB.cell 1).trans rfl
            have k2 : v3.cell? ⟨w1.heap.size, 2, none⟩ = some (.slice (some ⟨g, 0, none⟩) l.length cap) := (XB.cell 2).trans rfl
            have Yf0 := Y.frozen 0; have Yf1 := Y.frozen 1; have Yf2 := Y.frozen 2
            have k3 := XB.frozen 0
            have k4 := XB.frozen 1
            have k5 := XB.frozen 2
            go_wp2
            refine bodyPost_ret (v := .agg #[.int .i64 11, .int .i64 2, .slice (some ⟨w3.heap.size, 0, none⟩) 22 22]) ?_ rfl ?_; (focus (simp [results, Try.results65, go_sem, *]; done))
            refine ⟨11, 2, some ⟨w3.heap.size, 0, none⟩, 22, List.replicate 22 (0, 0), rfl, by omega, by omega, by simp, by simp, fun _ => ⟨w3.heap.size, [], [], rfl, ?_⟩, fun a ha => by cases ha; simp; omega, ((((((c4.mono (by omega)).set_far (by omega)).set_far (by omega)).set_far (by omega)).set_far hp).set_far hp).set_far hp, grown_set_new (grown_set_new (grown_set_new (grown_set_new (grown_set_new (grown_set_new gw (by omega)) (by omega)) (by omega)) (Nat.le_refl _)) (Nat.le_refl _)) (Nat.le_refl _)⟩
            exact (((((Z0.set_far _ _ (by simp; omega)).set_far _ _ (by simp; omega)).set_far _ _ (by simp; omega)).set_far _ _ (by simp; omega)).set_far _ _ (by simp; omega)).set_far _ _ (by simp; omega)
          · by_cases h5 : x = 5
            · subst h5
              obtain ⟨v3, hv3, Z0, B1, hz1⟩ := one_box w3 (zrow (2 * 20)) 27
              have hmk : (Instr.makeSlice 23 (.int .i64 20) (.int .i64 20)).run Try.prog w3 = .ok (.slice (some ⟨w3.heap.size, 0, none⟩) 20 20) v3 := by rw [← hv3]; exact run_makeN 20 (by omega) w3
              clear hv3
              replace Y := Y.new B1
              replace XB := XB.new B1
              replace gw := gw.trans (below_grown (row := some p) B1)
              have c4 := c3.keep (below_grown (row := none) B1) (by simp)
              clear B1
              have q0 : v3.cell? ⟨w.heap.size, 0, none⟩ = some (.int .i64 0) := (Y.cell 0).trans rfl
              have q1 : v3.cell? ⟨w.heap.size, 1, none⟩ = some (.int .i64 0) := (Y.cell 1).trans rfl
              have q2 : v3.cell? ⟨w.heap.size, 2, none⟩ = some (.slice none 0 0) := (Y.cell 2).trans rfl
              have k0 : v3.cell? ⟨w1.heap.size, 0, none⟩ = some (.int .i64 R) := (XB.cell 0).trans rfl
              have k1 : v3.cell? ⟨w1.heap.size, 1, none⟩ = some (.int .i64 C) := (XB.cell 1).trans rfl
              have k2 : v3.cell? ⟨w1.heap.size, 2, none⟩ = some (.slice (some ⟨g, 0, none⟩) l.length cap) := (XB.cell 2).trans rfl
              have Yf0 := Y.frozen 0; have Yf1 := Y.frozen 1; have Yf2 := Y.frozen 2
              have k3 := XB.frozen 0
              have k4 := XB.frozen 1
              have k5 := XB.frozen 2
              go_wp2
              refine bodyPost_ret (v := .agg #[.int .i64 2, .int .i64 10, .slice (some ⟨w3.heap.size, 0, none⟩) 20 20]) ?_ rfl ?_; (focus (simp [results, Try.results65, go_sem, *]; done))
              refine ⟨2, 10, some ⟨w3.heap.size, 0, none⟩, 20, List.replicate 20 (0, 0), rfl, by omega, by omega, by simp, by simp, fun _ => ⟨w3.heap.size, [], [], rfl, ?_⟩, fun a ha => by cases ha; simp; omega, ((((((c4.mono (by omega)).set_far (by omega)).set_far (by omega)).set_far (by omega)).set_far hp).set_far hp).set_far hp, grown_set_new (grown_set_new (grown_set_new (grown_set_new (grown_set_new (grown_set_new gw (by omega)) (by omega)) (by omega)) (Nat.le_refl _)) (Nat.le_refl _)) (Nat.le_refl _)⟩
              exact (((((Z0.set_far _ _ (by simp; omega)).set_far _ _ (by simp; omega)).set_far _ _ (by simp; omega)).set_far _ _ (by simp; omega)).set_far _ _ (by simp; omega)).set_far _ _ (by simp; omega)
            · have q0 : w3.cell? ⟨w.heap.size, 0, none⟩ = some (.int .i64 0) := (Y.cell 0).trans rfl
              have q1 : w3.cell? ⟨w.heap.size, 1, none⟩ = some (.int .i64 0) := (Y.cell 1).trans rfl
              have q2 : w3.cell? ⟨w.heap.size, 2, none⟩ = some (.slice none 0 0) := (Y.cell 2).trans rfl
              have k0 : w3.cell? ⟨w1.heap.size, 0, none⟩ = some (.int .i64 R) := (XB.cell 0).trans rfl
              have k1 : w3.cell? ⟨w1.heap.size, 1, none⟩ = some (.int .i64 C) := (XB.cell 1).trans rfl
              have k2 : w3.cell? ⟨w1.heap.size, 2, none⟩ = some (.slice (some ⟨g, 0, none⟩) l.length cap) := (XB.cell 2).trans rfl
              have Yf0 := Y.frozen 0; have Yf1 := Y.frozen 1; have Yf2 := Y.frozen 2
              have k3 := XB.frozen 0
              have k4 := XB.frozen 1
              have k5 := XB.frozen 2
              go_wp2
              refine bodyPost_ret (v := .agg #[.int .i64 R, .int .i64 C, .slice (some ⟨g, 0, none⟩) l.length cap]) ?_ rfl ?_; (focus (simp [results, Try.results65, go_sem, *]; done))
              refine ⟨R, C, _, cap, l, rfl, by omega, by omega, hl90, hcap, fun _ => ⟨g, [], rest, rfl, ((WG.set_far _ _ (by simp; omega)).set_far _ _ (by simp; omega)).set_far _ _ (by simp; omega)⟩, fun a ha => by cases ha; exact Nat.le_of_lt hgn, (((c3.mono (by omega)).set_far hp).set_far hp).set_far hp, grown_set_new (grown_set_new (grown_set_new gw (Nat.le_refl _)) (Nat.le_refl _)) (Nat.le_refl _)⟩
end Go.Proofs.Ytpfjbecpfdgnpaa
