/- The gear or cog in a row and a column; groups by a cell. -/
import Derived.Test.YtdpgbgniejlilaaGsW
namespace Go.Proofs.Ytdpgbgniejlilaa
open Go.ChangeShapes Go.WideShapes Go.ChangeAt Go.RowKit Go.Joins Go.Deep
set_option linter.unusedSimpArgs false
set_option linter.unusedVariables false
set_option maxRecDepth 100000
set_option maxHeartbeats 2000000
def okJ (R C : Int) (l : List (Int × Int)) (i j : Int) : Bool := hasB R C l i j && joins (l.getD (atI C i j) (0, 0)).1
theorem okJ_parts {R C : Int} {l : List (Int × Int)} {i j : Int} (h : okJ R C l i j = true) : goodB R C l = true ∧ inB R C i j = true ∧ J l (atI C i j) = true := by
  unfold okJ at h
  rw [Bool.and_eq_true] at h
  obtain ⟨a, b⟩ := hasB_and h.1
  exact ⟨a, b, h.2⟩
theorem geo_of {R C : Int} {l : List (Int × Int)} (h : goodB R C l = true) : ∃ r c : Nat, R = (r : Int) ∧ C = (c : Int) ∧ Geo r c l.length := by
  obtain ⟨hs, hl, _⟩ := goodB_iff.1 h
  obtain ⟨s1, s2, s3, s4⟩ := sizeB_iff.1 hs
  refine ⟨R.toNat, C.toNat, by omega, by omega, by omega, by omega, by omega, by omega, ?_⟩
  have e : ((R.toNat * C.toNat : Nat) : Int) = R * C := by
    rw [Int.natCast_mul]
    rw [show (R.toNat : Int) = R by omega, show (C.toNat : Int) = C by omega]
  omega
theorem impl_joiningIndex (R C : Int) (A : Option Addr) (cap : Nat) (l : List (Int × Int)) (i j : Int) (w : World) (hn : l.length ≤ 1048576) (hr : Rd w w.heap.size A (flat l)) :
    Calls Try.prog 35 #[.agg #[.int .i64 R, .int .i64 C, .slice A l.length cap], .int .i64 i, .int .i64 j] w fun e w' => e = .returned (.tuple #[.int .i64 (selI (okJ R C l i j) (atI C i j)), .bool (okJ R C l i j)]) ∧ Below w.heap.size w w' := by
  rcases Bool.eq_false_or_eq_true (hasB R C l i j) with hh | hh
  · obtain ⟨hg, hi⟩ := hasB_and hh
    obtain ⟨_, _, hlt, h90⟩ := at_bound hg hi
    obtain ⟨b, o, rfl, hbl, hc⟩ := hr (by rw [flat_length]; omega)
    have hr' : Rd w w.heap.size (some ⟨b, o, none⟩) (flat l) := fun _ => ⟨b, o, rfl, hbl, hc⟩
    have hget : l.getD (atI C i j) (0, 0) = l[atI C i j] := by rw [List.getD_eq_getElem?_getD, List.getElem?_eq_getElem hlt]; rfl
    have HH := Lib.hid hh
    rw [show okJ R C l i j = joins l[atI C i j].1 by unfold okJ; rw [hh, hget, Bool.true_and]]
    clear hg hi hh hr hget
    generalize hk : atI C i j = k at *
    generalize hx : l[k].1 = x
    go_enter Try.func35, Try.ntmps35
    go_wp2_with fail
    refine (impl_cellIndex _ _ _ _ l _ _ _ hn ((hr'.below (by (repeat' (first | (with_reducible exact Below.refl _ _) | (with_reducible assumption) | (with_reducible refine Below.alloc ?_ ?_ _) | (with_reducible refine Below.setCell ?_ ?_ _) | (with_reducible refine Below.drew ?_) | (with_reducible refine below_drewN ?_ _) | (with_reducible refine Below.trans ?_ (Below.mono (by assumption) ?_)) | (with_reducible exact Nat.le_refl _) | (simp; done) | omega | (simp at *; omega))) : Below w.heap.size w _)).mono (by go_size))).mono ?_; rintro e w1 ⟨rfl, b1⟩
    have x0 : Whole (w.alloc (.cells #[.int .i64 R, .int .i64 C, .slice (some ⟨b, o, none⟩) l.length cap] 30)) w.heap.size 30 [.int .i64 R, .int .i64 C, .slice (some ⟨b, o, none⟩) l.length cap] := heap_alloc_new w _
    have X0 := x0.below b1 x0.lt
    have X0k0 : w1.cell? ⟨w.heap.size, 0, none⟩ = some (.int .i64 R) := (X0.cell 0).trans rfl; have X0k1 : w1.cell? ⟨w.heap.size, 1, none⟩ = some (.int .i64 C) := (X0.cell 1).trans rfl; have X0k2 : w1.cell? ⟨w.heap.size, 2, none⟩ = some (.slice (some ⟨b, o, none⟩) l.length cap) := (X0.cell 2).trans rfl
    have z1 : w.heap.size < w1.heap.size := X0.lt
    clear x0
    have B1 : Below w.heap.size w w1 := by (repeat' (first | (with_reducible exact Below.refl _ _) | (with_reducible assumption) | (with_reducible refine Below.alloc ?_ ?_ _) | (with_reducible refine Below.setCell ?_ ?_ _) | (with_reducible refine Below.drew ?_) | (with_reducible refine below_drewN ?_ _) | (with_reducible refine Below.trans ?_ (Below.mono (by assumption) ?_)) | (with_reducible exact Nat.le_refl _) | (simp; done) | omega | (simp at *; omega)))
    obtain ⟨hc0, hc1⟩ := cell_at2 B1 hbl hc hlt
    rewrite [HH.out, hk]
    have HS := Lib.hid (show selI true (k : Int) = (k : Int) from rfl)
    rewrite [HS.out]
    rw [hx] at hc0
    clear HS HH hx hk
    generalize l[k].2 = y at *
    rcases Bool.eq_false_or_eq_true (joins x) with hj | hj
    · go_wp2_with fail
      refine (impl_isJoining _ _ _).mono ?_; rintro e w2 ⟨rfl, b2⟩
      rewrite [hj]
      go_wp2
      go_returns
      exact ⟨by rw [hj]; rfl, by (repeat' (first | (with_reducible exact Below.refl _ _) | (with_reducible assumption) | (with_reducible refine Below.alloc ?_ ?_ _) | (with_reducible refine Below.setCell ?_ ?_ _) | (with_reducible refine Below.drew ?_) | (with_reducible refine below_drewN ?_ _) | (with_reducible refine Below.trans ?_ (Below.mono (by assumption) ?_)) | (with_reducible exact Nat.le_refl _) | (simp; done) | omega | (simp at *; omega)))⟩
    · go_wp2_with fail
      refine (impl_isJoining _ _ _).mono ?_; rintro e w2 ⟨rfl, b2⟩
      rewrite [hj]
      go_wp2
      go_returns
      exact ⟨by rw [hj]; rfl, by (repeat' (first | (with_reducible exact Below.refl _ _) | (with_reducible assumption) | (with_reducible refine Below.alloc ?_ ?_ _) | (with_reducible refine Below.setCell ?_ ?_ _) | (with_reducible refine Below.drew ?_) | (with_reducible refine below_drewN ?_ _) | (with_reducible refine Below.trans ?_ (Below.mono (by assumption) ?_)) | (with_reducible exact Nat.le_refl _) | (simp; done) | omega | (simp at *; omega)))⟩
  · have HH := Lib.hid hh
    rw [show okJ R C l i j = false by unfold okJ; rw [hh, Bool.false_and]]
    clear hh
    go_enter Try.func35, Try.ntmps35
    go_wp2_with fail
    refine (impl_cellIndex _ _ _ _ l _ _ _ hn ((hr.below (by (repeat' (first | (with_reducible exact Below.refl _ _) | (with_reducible assumption) | (with_reducible refine Below.alloc ?_ ?_ _) | (with_reducible refine Below.setCell ?_ ?_ _) | (with_reducible refine Below.drew ?_) | (with_reducible refine below_drewN ?_ _) | (with_reducible refine Below.trans ?_ (Below.mono (by assumption) ?_)) | (with_reducible exact Nat.le_refl _) | (simp; done) | omega | (simp at *; omega))) : Below w.heap.size w _)).mono (by go_size))).mono ?_; rintro e w1 ⟨rfl, b1⟩
    rewrite [HH.out]
    go_wp2
    go_returns
    exact ⟨rfl, by (repeat' (first | (with_reducible exact Below.refl _ _) | (with_reducible assumption) | (with_reducible refine Below.alloc ?_ ?_ _) | (with_reducible refine Below.setCell ?_ ?_ _) | (with_reducible refine Below.drew ?_) | (with_reducible refine below_drewN ?_ _) | (with_reducible refine Below.trans ?_ (Below.mono (by assumption) ?_)) | (with_reducible exact Nat.le_refl _) | (simp; done) | omega | (simp at *; omega)))⟩
def GG (C : Int) (l : List (Int × Int)) : List (List Nat) := gat (J l) (nearL C.toNat l.length) l.length l.length
def nmb (C : Int) (l : List (Int × Int)) (x : Nat) : Int := num (GG C l) 0 x
theorem groups_all {r c : Nat} {l : List (Int × Int)} (hG : Geo r c l.length) : Groups (J l) (nearL c l.length) l.length l.length (GG (c : Int) l) := by
  unfold GG
  rw [Int.toNat_natCast]
  exact groups_at hG.near hG.sym l.length (Nat.le_refl _)
def grpL (C : Int) (l : List (Int × Int)) (k : Nat) : List Nat := (List.range l.length).filter fun x => decide (nmb C l x = nmb C l k)
/-- The group that the program takes from a cell is that of the cell's number. -/
theorem grp_of_cell {r c k : Nat} {l : List (Int × Int)} (hG : Geo r c l.length) (hk : k < l.length) (hJ : J l k = true) : sortN l.length (brs (J l) (nearL c l.length) [] [k] l.length) = grpL (c : Int) l k := by
  have hA := groups_all hG
  obtain ⟨g, hg, hkg⟩ := List.mem_flatten.1 (hA.all k hk hJ)
  obtain ⟨m, hm, rfl⟩ := List.getElem_of_mem hg
  have e1 : nmb (c : Int) l k = ((0 + m : Nat) : Int) := (num_is _ 0 m hA.apart (List.getElem?_eq_getElem hm)).2 hkg
  unfold sortN grpL
  refine List.filter_congr fun x _ => ?_
  rw [e1, Bool.eq_iff_iff, List.contains_iff_mem, decide_eq_true_eq, hA.each _ hg k hkg x]
  exact (num_is _ 0 m hA.apart (List.getElem?_eq_getElem hm)).symm
end Go.Proofs.Ytdpgbgniejlilaa
