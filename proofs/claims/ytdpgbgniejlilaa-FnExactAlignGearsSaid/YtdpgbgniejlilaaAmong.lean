/- Gears among cells; boards in which some gears are turned. -/
import Derived.Test.YtdpgbgniejlilaaGearG
namespace Go.Proofs.Ytdpgbgniejlilaa
open Go.ChangeShapes Go.WideShapes Go.ChangeAt Go.RowKit Go.Joins Go.Deep
set_option linter.unusedSimpArgs false
set_option linter.unusedVariables false
set_option maxRecDepth 100000
set_option maxHeartbeats 2000000
def gearK (l : List (Int × Int)) (x : Nat) : Bool := decide ((l.getD x (0, 0)).1 = 6)
theorem among_yes {l : List (Int × Int)} {q : List Nat} {k : Nat} (h : k < q.length) (hg : gearK l q[k] = true) : (q.take (k + 1)).filter (gearK l) = (q.take k).filter (gearK l) ++ [q[k]] := by
  rw [List.take_succ_eq_append_getElem h, List.filter_append]
  simp [hg]
theorem among_no {l : List (Int × Int)} {q : List Nat} {k : Nat} (h : k < q.length) (hg : gearK l q[k] = false) : (q.take (k + 1)).filter (gearK l) = (q.take k).filter (gearK l) := by
  rw [List.take_succ_eq_append_getElem h, List.filter_append]
  simp [hg]
theorem among_len (l : List (Int × Int)) (q : List Nat) (k : Nat) : ((q.take k).filter (gearK l)).length ≤ q.length := by
  have h1 := List.length_filter_le (gearK l) (q.take k)
  rw [List.length_take] at h1
  omega
theorem impl_gearsAmong (R C : Int) (A : Option Addr) (cap : Nat) (l : List (Int × Int)) (A1 : Option Addr) (cap1 : Nat) (q : List Nat) (w : World) (hr : Rd w w.heap.size A (flat l)) (hq : q.length ≤ 1048576) (hx : ∀ x ∈ q, x < l.length) (h1 : Rd w w.heap.size A1 (ints (nI q))) :
    Calls Try.prog 42 #[.agg #[.int .i64 R, .int .i64 C, .slice A l.length cap], .slice A1 q.length cap1] w (PostI w (nI (q.filter (gearK l)))) := by
  go_enter Try.func42, Try.ntmps42
  obtain ⟨v0, hv0⟩ : ∃ v, v = w.alloc (.cells #[.int .i64 R, .int .i64 C, .slice A l.length cap] 30) := ⟨_, rfl⟩
  have X0 : Whole v0 w.heap.size 30 [.int .i64 R, .int .i64 C, .slice A l.length cap] := by rw [hv0]; exact heap_alloc_new w _
  have hb : Below w.heap.size w v0 := by rw [hv0]; exact (Below.refl _ _).alloc (Nat.le_refl _) _
  have hs : w.heap.size + 1 ≤ v0.heap.size := X0.lt
  have HV := Lib.hid hv0.symm
  clear hv0
  go_upto_region 1 with (fail)
  rewrite [HV.out]
  clear HV
  go_wp2_with fail
  go_loopw [10, 5] (fun t v wr => ∃ k : Nat, t = .int .i64 k ∧ k ≤ q.length ∧ IRow wr (w.heap.size + 1) v (nI ((q.take k).filter (gearK l))) ∧ Whole wr w.heap.size 30 [.int .i64 R, .int .i64 C, .slice A l.length cap] ∧ Below w.heap.size w wr ∧ w.heap.size + 1 ≤ wr.heap.size) (fun t _ _ => q.length - (intOf t).toNat)
  case atStart => exact ⟨0, rfl, Nat.zero_le _, IRow.nil, X0, hb, hs⟩
  case round =>
    clear X0 hb hs
    obtain ⟨k, rfl, hk, hrow, X0, hb, hs⟩ := hrel
    by_cases hlt : k < q.length
    · obtain ⟨b1, o1, rfl, hbl1, hc1⟩ := h1 (by rw [ints_length, nI_length]; omega)
      have hck : wr.cell? ⟨b1, o1 + k, none⟩ = some (.int .i64 (q[k] : Int)) := (hb.cell (p := ⟨b1, o1 + k, none⟩) hbl1).trans (hc1 k _ (nI_at q k hlt))
      have hxl := hx _ (List.getElem_mem hlt)
      obtain ⟨b, o, rfl, hbl, hc⟩ := hr (by rw [flat_length]; omega)
      obtain ⟨hd0, hd1⟩ := cell_at2 hb hbl hc hxl
      have HY := Lib.hid (among_yes (l := l) hlt)
      have HN := Lib.hid (among_no (l := l) hlt)
      have hle := among_len l q k
      have hl5 : (nI ((q.take k).filter (gearK l))).length ≤ 1048576 := by rw [nI_length]; omega
      have hgk : gearK l q[k] = decide (l[q[k]].1 = 6) := by unfold gearK; rw [List.getD_eq_getElem?_getD, List.getElem?_eq_getElem hxl]; rfl
      have X0k0 : wr.cell? ⟨w.heap.size, 0, none⟩ = some (.int .i64 R) := (X0.cell 0).trans rfl; have X0k1 : wr.cell? ⟨w.heap.size, 1, none⟩ = some (.int .i64 C) := (X0.cell 1).trans rfl; have X0k2 : wr.cell? ⟨w.heap.size, 2, none⟩ = some (.slice (some ⟨b, o, none⟩) l.length cap) := (X0.cell 2).trans rfl
      clear hr hc hc1
      generalize l[q[k]].1 = kd at *
      generalize l[q[k]].2 = st at *
      generalize hyy : q[k] = y at *
      by_cases h6 : kd = 6
      · subst h6
        have HE := Lib.hid (HY.out (by rw [hgk]; rfl))
        clear HY HN hgk
        go_wp2_with (first | (at_builtin; refine wpList_push (x0 := (y : Int)) hrow hl5 hs rfl _ _ rfl rfl rfl ?_; intro v6 w6 hrow6 hg6 hb6 hl6; have hX6 := X0.below hb6 (Nat.lt_succ_self _); have hb7 := hb.trans (hb6.mono (Nat.le_succ _)); have hs6 := Nat.le_trans hs hb6.size) | fail)
        go_roundw
        case rel => exact ⟨k + 1, by go_num, by omega, by rw [HE.out, nI_append]; exact hrow6, hX6, hb7, hs6⟩
        case measure => simp [intOf]; omega
      · have HE := Lib.hid (HN.out (by rw [hgk]; exact decide_eq_false h6))
        clear HY HN hgk
        go_wp2_with fail
        go_roundw
        case rel => exact ⟨k + 1, by go_num, by omega, by rw [HE.out]; exact hrow, X0, hb, hs⟩
        case measure => simp [intOf]; omega
    · obtain rfl : k = q.length := by omega
      rw [List.take_length] at hrow
      go_wp2
      go_returns
      exact PostI.of_irow hrow (Nat.le_succ _) hb
def tnS (l : List (Int × Int)) (S : Nat → Bool) : List (Int × Int) := (List.range l.length).map fun x => if S x then ((l.getD x (0, 0)).1, 1 - (l.getD x (0, 0)).2) else l.getD x (0, 0)
theorem tnS_len (l : List (Int × Int)) (S : Nat → Bool) : (tnS l S).length = l.length := by simp [tnS]
theorem tnS_congr {l : List (Int × Int)} {S T : Nat → Bool} (h : ∀ x, x < l.length → S x = T x) : tnS l S = tnS l T := by
  unfold tnS
  exact List.map_congr_left fun x hx => by rw [h x (List.mem_range.1 hx)]
theorem tnS_at {l : List (Int × Int)} {S : Nat → Bool} {x : Nat} (h : x < (tnS l S).length) : (tnS l S)[x] = if S x then ((l.getD x (0, 0)).1, 1 - (l.getD x (0, 0)).2) else l.getD x (0, 0) := by
  simp [tnS]
theorem tnS_none {l : List (Int × Int)} : tnS l (fun _ => false) = l := by
  apply List.ext_getElem (tnS_len _ _)
  intro i h1 h2
  rw [tnS_at h1]
  simp only [Bool.false_eq_true, if_false]
  rw [List.getD_eq_getElem?_getD, List.getElem?_eq_getElem h2]
  rfl
theorem tnS_set {l : List (Int × Int)} {S T : Nat → Bool} {k : Nat} (hk : k < l.length) (hT : ∀ x, x < l.length → T x = (S x || x == k)) :
    (tnS l S).set k ((l.getD k (0, 0)).1, 1 - (l.getD k (0, 0)).2) = tnS l T := by
  apply List.ext_getElem (by rw [List.length_set, tnS_len, tnS_len])
  intro i h1 h2
  rw [List.getElem_set]
  have hi : i < l.length := by rw [tnS_len] at h2; exact h2
  by_cases e : k = i
  · subst e
    rw [if_pos rfl, tnS_at h2, hT k hk]
    simp
  · rw [if_neg e, tnS_at (by rw [tnS_len]; exact hi), tnS_at h2, hT i hi]
    have : (i == k) = false := by simp; omega
    rw [this, Bool.or_false]
theorem cell_two_far {w : World} {g j j' b o : Nat} {u u' : Value} (hne : b ≠ g) : ((w.setCell ⟨g, j, none⟩ u).setCell ⟨g, j', none⟩ u').cell? ⟨b, o, none⟩ = w.cell? ⟨b, o, none⟩ := by
  have h1 := Below.heap_setCell (w.setCell ⟨g, j, none⟩ u) ⟨g, j', none⟩ u' b hne
  have h2 := Below.heap_setCell w ⟨g, j, none⟩ u b hne
  simp only [World.cell?]
  rw [h1, h2]
end Go.Proofs.Ytdpgbgniejlilaa
