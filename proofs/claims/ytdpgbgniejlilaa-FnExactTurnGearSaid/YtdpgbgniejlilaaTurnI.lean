/- TurnGear, the program's. -/
import Derived.Test.YtdpgbgniejlilaaTurnG
namespace Go.Proofs.Ytdpgbgniejlilaa
open Go.ChangeShapes Go.WideShapes Go.ChangeAt Go.RowKit Go.Joins Go.Deep
set_option linter.unusedSimpArgs false
set_option linter.unusedVariables false
set_option maxRecDepth 100000
set_option maxHeartbeats 4000000
theorem impl_groupWithN (r c : Nat) (A : Option Addr) (cap : Nat) (l : List (Int × Int)) (i : Nat) (w : World) (hG : Geo r c l.length) (hr : Rd w w.heap.size A (flat l)) (hi : i < l.length) (hJ : J l i = true) :
    Calls Try.prog 54 #[.agg #[.int .i64 (r : Int), .int .i64 (c : Int), .slice A l.length cap], .int .i64 (i : Int)] w fun e w' => ∃ A' cap', e = .returned (.slice A' (grpL (c : Int) l i).length cap') ∧ Own w' A' 3 (ints (nI (grpL (c : Int) l i))) ∧ New w A' ∧ Below w.heap.size w w' :=
  (impl_groupWith r c A cap l i w hG hr hi hJ).mono fun e w' h => by
    rw [grp_of_cell hG hi hJ] at h
    obtain ⟨A', cap', rfl, a, b, d⟩ := h
    exact ⟨A', cap', by rw [nI_length], a, b, d⟩
theorem impl_gearsAmongN (R C : Int) (A : Option Addr) (cap : Nat) (l : List (Int × Int)) (A1 : Option Addr) (cap1 : Nat) (q : List Nat) (w : World) (hr : Rd w w.heap.size A (flat l)) (hq : q.length ≤ 1048576) (hx : ∀ x ∈ q, x < l.length) (h1 : Rd w w.heap.size A1 (ints (nI q))) :
    Calls Try.prog 42 #[.agg #[.int .i64 R, .int .i64 C, .slice A l.length cap], .slice A1 q.length cap1] w fun e w' => ∃ A' cap', e = .returned (.slice A' (q.filter (gearK l)).length cap') ∧ Own w' A' 3 (ints (nI (q.filter (gearK l)))) ∧ New w A' ∧ Below w.heap.size w w' :=
  (impl_gearsAmong R C A cap l A1 cap1 q w hr hq hx h1).mono fun e w' h => by
    obtain ⟨A', cap', rfl, a, b, d⟩ := h
    exact ⟨A', cap', by rw [nI_length], a, b, d⟩
def gearsOf (C : Int) (l : List (Int × Int)) (k : Nat) : List Nat := (grpL C l k).filter (gearK l)
theorem gearsOf_at {C : Int} {l : List (Int × Int)} {k j : Nat} (hj : j < (gearsOf C l k).length) :
    (gearsOf C l k)[j] < l.length ∧ gearK l (gearsOf C l k)[j] = true ∧ (gearsOf C l k)[j] ∉ (gearsOf C l k).take j := by
  have hm := List.getElem_mem hj
  have hp : (gearsOf C l k).Pairwise (· < ·) := (List.pairwise_lt_range.filter _).filter _
  refine ⟨?_, ?_, fun h => ?_⟩
  · exact List.mem_range.1 (List.mem_filter.1 (List.mem_filter.1 hm).1).1
  · exact (List.mem_filter.1 hm).2
  · rw [List.mem_iff_getElem] at h
    obtain ⟨i, hi, hie⟩ := h
    rw [List.getElem_take] at hie
    rw [List.length_take] at hi
    have := List.pairwise_iff_getElem.1 hp i j (by omega) hj (by omega)
    omega
theorem gearsOf_len (C : Int) (l : List (Int × Int)) (k : Nat) : (gearsOf C l k).length ≤ l.length := by
  have h1 := List.length_filter_le (gearK l) (grpL C l k)
  have h2 := grpL_len C l k
  unfold gearsOf
  omega
theorem grpL_lt (C : Int) (l : List (Int × Int)) (k : Nat) : ∀ x ∈ grpL C l k, x < l.length := fun x hx => List.mem_range.1 (List.mem_filter.1 hx).1
def inTake (gs : List Nat) (j : Nat) (x : Nat) : Bool := (gs.take j).contains x
theorem inTake_step {l : List (Int × Int)} {gs : List Nat} {j : Nat} (hj : j < gs.length) (hx : gs[j] < l.length) :
    (tnS l (inTake gs j)).set gs[j] ((l.getD gs[j] (0, 0)).1, 1 - (l.getD gs[j] (0, 0)).2) = tnS l (inTake gs (j + 1)) := by
  refine tnS_set hx fun x _ => ?_
  unfold inTake
  rw [List.take_succ_eq_append_getElem hj, List.contains_eq_any_beq, List.contains_eq_any_beq, List.any_append]
  simp [eq_comm]
theorem inTake_zero {l : List (Int × Int)} {gs : List Nat} : tnS l (inTake gs 0) = l := by
  rw [show tnS l (inTake gs 0) = tnS l (fun _ => false) from tnS_congr fun x _ => by simp [inTake]]
  exact tnS_none
theorem inTake_all {C : Int} {l : List (Int × Int)} {k : Nat} : tnS l (inTake (gearsOf C l k) (gearsOf C l k).length) = tnS l (isIn C l (nmb C l k)) := by
  refine tnS_congr fun x hx => ?_
  unfold inTake isIn gearsOf grpL
  rw [List.take_length, Bool.eq_iff_iff, List.contains_iff_mem, List.mem_filter, List.mem_filter, List.mem_range, Bool.and_eq_true]
  exact ⟨fun h => ⟨h.1.2, h.2⟩, fun h => ⟨⟨hx, h.1⟩, h.2⟩⟩
theorem okT_join {R C : Int} {l : List (Int × Int)} {i j : Int} (h : okT R C l i j = true) : okJ R C l i j = true := by
  unfold okT at h
  rw [Bool.and_eq_true] at h
  unfold okJ
  rw [h.1, Bool.true_and]
  have h2 := h.2
  unfold gearK at h2
  rw [decide_eq_true_eq] at h2
  rw [h2]
  rfl
theorem impl_TurnGear_not (R C : Int) (A : Option Addr) (cap : Nat) (l : List (Int × Int)) (i j : Int) (w : World) (hh : okJ R C l i j = false) (hn : l.length ≤ 1048576) (hr : Rd w w.heap.size A (flat l)) : Calls Try.prog 16 #[.agg #[.int .i64 R, .int .i64 C, .slice A l.length cap], .int .i64 i, .int .i64 j] w (PostB w 0 0 [] false) := by
  have HH := Lib.hid hh
  clear hh
  go_enter Try.func16, Try.ntmps16
  obtain ⟨v0, hv0, X0, X1, B0, hz0⟩ := two_boxes w [.int .i64 R, .int .i64 C, .slice A l.length cap] 30 [.int .i64 0, .int .i64 0, .slice none 0 0] 30; have HV := Lib.hid hv0; have hz : w.heap.size + 1 < v0.heap.size := (by omega); have hy : w.heap.size < v0.heap.size := (by omega); have hb0 := B0.size; clear hv0 hz0; go_wp2_with fail; rewrite [show (w.alloc (.cells ([.int .i64 R, .int .i64 C, .slice A l.length cap] : List Value).toArray 30)).alloc (.cells ([.int .i64 0, .int .i64 0, .slice none 0 0] : List Value).toArray 30) = v0 from HV.out]; clear HV
  refine (impl_joiningIndex _ _ _ _ l _ _ _ hn ((hr.below B0).mono B0.size)).mono ?_; rintro e w1 ⟨rfl, b1⟩
  rewrite [HH.out]
  replace X0 := X0.below b1 X0.lt; replace X1 := X1.below b1 X1.lt; replace B0 := B0.trans (b1.mono B0.size); have hy := X0.lt; have hz := X1.lt; have hb0 := B0.size; clear b1
  (have X1k0 : w1.cell? ⟨w.heap.size + 1, 0, none⟩ = some (.int .i64 0) := (X1.cell 0).trans rfl; have X1k1 : w1.cell? ⟨w.heap.size + 1, 1, none⟩ = some (.int .i64 0) := (X1.cell 1).trans rfl; have X1k2 : w1.cell? ⟨w.heap.size + 1, 2, none⟩ = some (.slice none 0 0) := (X1.cell 2).trans rfl; have X1f0 := X1.frozen 0; have X1f1 := X1.frozen 1; have X1f2 := X1.frozen 2)
  go_wp2
  refine bodyPost_ret (v := .tuple #[.agg #[.int .i64 0, .int .i64 0, .slice none 0 0], .bool false]) ?_ rfl ?_; (focus (simp [results, Try.results16, go_sem, *]; done))
  exact PostB.none_ (by (repeat' (first | (with_reducible exact Below.refl _ _) | (with_reducible assumption) | (with_reducible refine Below.alloc ?_ ?_ _) | (with_reducible refine Below.setCell ?_ ?_ _) | (with_reducible refine Below.drew ?_) | (with_reducible refine below_drewN ?_ _) | (with_reducible refine Below.trans ?_ (Below.mono (by assumption) ?_)) | (with_reducible exact Nat.le_refl _) | (simp; done) | omega | (simp at *; omega))))
theorem impl_TurnGear_cog (R C : Int) (A : Option Addr) (cap : Nat) (l : List (Int × Int)) (i j : Int) (w : World) (hh : okJ R C l i j = true) (hk : okT R C l i j = false) (hn : l.length ≤ 1048576) (hr : Rd w w.heap.size A (flat l)) : Calls Try.prog 16 #[.agg #[.int .i64 R, .int .i64 C, .slice A l.length cap], .int .i64 i, .int .i64 j] w (PostB w 0 0 [] false) := by
  have HH := Lib.hid hh
  obtain ⟨hg, hi, _⟩ := okJ_parts hh
  obtain ⟨-, -, hkl, h90⟩ := at_bound hg hi
  obtain ⟨b, o, rfl, hbl, hc⟩ := hr (by rw [flat_length]; omega)
  have hr' : Rd w w.heap.size (some ⟨b, o, none⟩) (flat l) := fun _ => ⟨b, o, rfl, hbl, hc⟩
  have hk6 : ¬ l[atI C i j].1 = 6 := by
    unfold okT gearK at hk
    rw [show hasB R C l i j = true by unfold hasB; rw [hg, hi]; rfl, Bool.true_and, List.getD_eq_getElem?_getD, List.getElem?_eq_getElem hkl] at hk
    simpa using hk
  clear hh hg hi hk hr
  go_enter Try.func16, Try.ntmps16
  obtain ⟨v0, hv0, X0, X1, B0, hz0⟩ := two_boxes w [.int .i64 R, .int .i64 C, .slice (some ⟨b, o, none⟩) l.length cap] 30 [.int .i64 0, .int .i64 0, .slice none 0 0] 30; have HV := Lib.hid hv0; have hz : w.heap.size + 1 < v0.heap.size := (by omega); have hy : w.heap.size < v0.heap.size := (by omega); have hb0 := B0.size; clear hv0 hz0; go_wp2_with fail; rewrite [show (w.alloc (.cells ([.int .i64 R, .int .i64 C, .slice (some ⟨b, o, none⟩) l.length cap] : List Value).toArray 30)).alloc (.cells ([.int .i64 0, .int .i64 0, .slice none 0 0] : List Value).toArray 30) = v0 from HV.out]; clear HV
  refine (impl_joiningIndex _ _ _ _ l _ _ _ hn ((hr'.below B0).mono B0.size)).mono ?_; rintro e w1 ⟨rfl, b1⟩
  rewrite [HH.out, show selI true (atI C i j : Int) = (atI C i j : Int) from rfl]
  replace X0 := X0.below b1 X0.lt; replace X1 := X1.below b1 X1.lt; replace B0 := B0.trans (b1.mono B0.size); have hy := X0.lt; have hz := X1.lt; have hb0 := B0.size; clear b1
  obtain ⟨hc0, hc1⟩ := cell_at2 B0 hbl hc hkl
  have X0k0 : w1.cell? ⟨w.heap.size, 0, none⟩ = some (.int .i64 R) := (X0.cell 0).trans rfl; have X0k1 : w1.cell? ⟨w.heap.size, 1, none⟩ = some (.int .i64 C) := (X0.cell 1).trans rfl; have X0k2 : w1.cell? ⟨w.heap.size, 2, none⟩ = some (.slice (some ⟨b, o, none⟩) l.length cap) := (X0.cell 2).trans rfl
  (have X1k0 : w1.cell? ⟨w.heap.size + 1, 0, none⟩ = some (.int .i64 0) := (X1.cell 0).trans rfl; have X1k1 : w1.cell? ⟨w.heap.size + 1, 1, none⟩ = some (.int .i64 0) := (X1.cell 1).trans rfl; have X1k2 : w1.cell? ⟨w.heap.size + 1, 2, none⟩ = some (.slice none 0 0) := (X1.cell 2).trans rfl; have X1f0 := X1.frozen 0; have X1f1 := X1.frozen 1; have X1f2 := X1.frozen 2)
  generalize atI C i j = k0 at *
  generalize l[k0].1 = kd at *
  generalize l[k0].2 = st at *
  go_wp2
  refine bodyPost_ret (v := .tuple #[.agg #[.int .i64 0, .int .i64 0, .slice none 0 0], .bool false]) ?_ rfl ?_; (focus (simp [results, Try.results16, go_sem, *]; done))
  exact PostB.none_ (by (repeat' (first | (with_reducible exact Below.refl _ _) | (with_reducible assumption) | (with_reducible refine Below.alloc ?_ ?_ _) | (with_reducible refine Below.setCell ?_ ?_ _) | (with_reducible refine Below.drew ?_) | (with_reducible refine below_drewN ?_ _) | (with_reducible refine Below.trans ?_ (Below.mono (by assumption) ?_)) | (with_reducible exact Nat.le_refl _) | (simp; done) | omega | (simp at *; omega))))
end Go.Proofs.Ytdpgbgniejlilaa
