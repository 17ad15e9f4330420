/- The program's search: open cells in a map, the cells reached from one. -/
import Derived.Test.YtdpgbgniejlilaaKeys
import Derived.Test.YtdpgbgniejlilaaPut
import Derived.Test.YtdpgbgniejlilaaNearW
namespace Go.Proofs.Ytdpgbgniejlilaa
open Go.ChangeShapes Go.WideShapes Go.ChangeAt Go.RowKit Go.Joins Go.Deep
set_option linter.unusedSimpArgs false
set_option linter.unusedVariables false
set_option maxRecDepth 100000
set_option maxHeartbeats 2000000
open Go.Maps
def J (l : List (Int × Int)) (i : Nat) : Bool := joins (l.getD i (0, 0)).1
theorem J_at {l : List (Int × Int)} {k : Nat} (h : k < l.length) : J l k = joins l[k].1 := by unfold J; rw [List.getD_eq_getElem?_getD, List.getElem?_eq_getElem h]; rfl
theorem J_lt {l : List (Int × Int)} {k : Nat} (h : J l k = true) : k < l.length := by
  refine Classical.byContradiction fun hno => ?_
  unfold J at h
  rw [List.getD_eq_getElem?_getD, List.getElem?_eq_none (by omega)] at h
  simp [joins] at h
/-- A board's measures. -/
structure Geo (r c n : Nat) : Prop where
  r1 : 1 ≤ r
  r2 : r ≤ 10
  c1 : 1 ≤ c
  c2 : c ≤ 9
  cells : n = r * c
theorem Geo.n90 {r c n : Nat} (h : Geo r c n) : n ≤ 90 := by
  obtain ⟨_, h2, _, h4, h5⟩ := h
  have := Nat.mul_le_mul h2 h4
  omega
theorem Geo.near {r c n : Nat} (h : Geo r c n) : ∀ x, x < n → ∀ y ∈ nearL c n x, y < n := by
  intro x hx y hy
  have e := h.cells
  subst e
  exact near_lt hx hy
theorem Geo.sym {r c n : Nat} (h : Geo r c n) : ∀ x, x < n → ∀ y ∈ nearL c n x, x ∈ nearL c n y := by
  intro x hx y hy
  have e := h.cells
  subst e
  exact near_sym hx hy
/-- Cells that a map's turn leaves as they were. -/
theorem Keys.cells {w w' : World} {B nB : Nat} {o : Nat → Bool} (hk : Keys w B nB o) (hg : w.grownBy w' (some B)) {b j : Nat} {u : Value} (hc : w.cell? ⟨b, j, none⟩ = some u) : w'.cell? ⟨b, j, none⟩ = some u := by
  have hlt : b < w.heap.size := lt_of_cell (a := ⟨b, j, none⟩) hc
  have hne : some b ≠ some B := by
    obtain ⟨D, ⟨es, clock, hb, _⟩, _⟩ := hk
    intro e
    cases e
    simp [World.cell?, hb] at hc
  have := hg.block b hlt hne
  simpa [World.cell?, this] using hc
theorem impl_openCells (R C : Int) (A : Option Addr) (cap : Nat) (l : List (Int × Int)) (w : World) (hn : l.length ≤ 1048576) (hr : Rd w w.heap.size A (flat l)) :
    Calls Try.prog 59 #[.agg #[.int .i64 R, .int .i64 C, .slice A l.length cap], .func (.func 53) #[] #[]] w
      fun e w' => ∃ B, e = .returned (.map (some B)) ∧ w.heap.size ≤ B ∧ Keys w' B l.length (J l) ∧ Below w.heap.size w w' := by
  have hmm := @run_makeMap Try.prog
  go_enter Try.func59, Try.ntmps59
  go_wp2
  go_loopw [12] (fun i wr => ∃ k : Nat, k ≤ l.length ∧ i = .int .i64 k ∧ Keys wr (w.heap.size + 1) k (fun j => J l j && decide (j < k)) ∧ Below w.heap.size w wr) (fun i _ => l.length - (intOf i).toNat)
  case atStart =>
    have h0 := Keys.made (w.alloc (.cells #[.int .i64 R, .int .i64 C, .slice A l.length cap] 30))
    rw [World.size_alloc] at h0
    exact ⟨0, Nat.zero_le _, rfl, h0.congr (fun i _ => by simp), by (repeat' (first | (with_reducible exact Below.refl _ _) | (with_reducible assumption) | (with_reducible refine Below.alloc ?_ ?_ _) | (with_reducible refine Below.setCell ?_ ?_ _) | (with_reducible refine Below.drew ?_) | (with_reducible refine below_drewN ?_ _) | (with_reducible refine Below.trans ?_ (Below.mono (by assumption) ?_)) | (with_reducible exact Nat.le_refl _) | (simp; done) | omega | (simp at *; omega)))⟩
  case round =>
    obtain ⟨k, hk, rfl, hK, hb⟩ := hrel
    by_cases hlt : k < l.length
    · obtain ⟨b, o, rfl, hbl, hc⟩ := hr (by rw [flat_length]; omega)
      obtain ⟨hc0, hc1⟩ := cell_at2 hb hbl hc hlt
      have hJ := J_at hlt
      have hs := hb.size
      have hB := hK.lt
      clear hr hc
      generalize l[k].1 = x at *
      generalize l[k].2 = y at *
      go_wp2_with fail
      rcases Bool.eq_false_or_eq_true (joins x) with hj | hj
      · refine (impl_isJoining _ _ _).mono ?_; rintro e w1 ⟨rfl, b1⟩
        rewrite [hj]
        rewrite [hj] at hJ
        have hK1 := (hK.alloc (.cells #[.int .i64 x, .int .i64 y] 34)).below b1
        have hb1 : Below w.heap.size w w1 := (hb.alloc hs _).trans (b1.mono (by simp; omega))
        clear hK hb b1 hc0 hc1 hB hs hj
        go_wp2_with (first | (at_mapUpdate; refine wpList_put_keys rfl _ _ _ rfl (w.heap.size + 1) k _ rfl hK1 (by unfold maxLen; omega) k rfl rfl (by omega) ?_; intro w2 hK2 g2) | fail)
        have hs1 := hb1.size
        have hb2 : Below w.heap.size w w2 := hb1.grown g2 hs1 (fun j hj => by cases hj; omega)
        clear g2 hK1 hb1
        go_roundw
        case rel =>
          refine ⟨k + 1, by omega, by go_num, hK2.congr (fun i _ => ?_), hb2⟩
          by_cases e : i = k
          · subst e; simp [hJ]
          · have e1 : decide (i < k + 1) = decide (i < k) := by rw [decide_eq_decide]; omega
            simp [e, e1]
        case measure => simp [intOf]; omega
      · refine (impl_isJoining _ _ _).mono ?_; rintro e w1 ⟨rfl, b1⟩
        rewrite [hj]
        rewrite [hj] at hJ
        have hK1 := (hK.alloc (.cells #[.int .i64 x, .int .i64 y] 34)).below b1
        have hb1 : Below w.heap.size w w1 := (hb.alloc hs _).trans (b1.mono (by simp; omega))
        clear hK hb b1 hc0 hc1 hB hs hj
        go_wp2
        go_roundw
        case rel =>
          refine ⟨k + 1, by omega, by go_num, (hK1.mono (Nat.le_succ k)).congr (fun i _ => ?_), hb1⟩
          by_cases e : i = k
          · subst e; simp [hJ]
          · have e1 : decide (i < k + 1) = decide (i < k) := by rw [decide_eq_decide]; omega
            rw [e1]
        case measure => simp [intOf]; omega
    · obtain rfl : k = l.length := by omega
      go_wp2
      go_returns
      refine ⟨w.heap.size + 1, rfl, by omega, hK.congr (fun i _ => ?_), hb⟩
      by_cases e : i < l.length
      · simp [e]
      · have : J l i = false := by
          rcases Bool.eq_false_or_eq_true (J l i) with h | h
          · exact absurd (J_lt h) e
          · exact h
        rw [this]; rfl
theorem Clone_ints (b o cap : Nat) (l : List Int) (w : World) (hn : l.length ≤ 1048576) (hr : Rd w w.heap.size (some ⟨b, o, none⟩) (ints l)) (hp : 0 < l.length) (base : Nat) (hbase : base ≤ w.heap.size) :
    Calls Try.prog 63 #[.slice (some ⟨b, o, none⟩) l.length cap] w fun e w' => ∃ A' cap', e = .returned (.slice A' l.length cap') ∧ IRow w' base (.slice A' l.length cap') l ∧ Below w.heap.size w w' := by
  obtain ⟨i0, hi, hz0, hz1, hz2⟩ := info_parts intInfo
  have hnil := fun (w : World) => Lib.run_eql_slice_some_nil (P := Try.prog) w (⟨b, o, none⟩ : Addr) l.length cap Try.underlying55
  go_enter Try.func63, Try.ntmps63
  go_wp2_with (first | (at_builtin; refine wpList_append_own _ rfl (.tmp 5) (.tmp 6) 55 rfl w.heap.size 3 i0 _ 1 8 Try.underlying55 hi hz0 hz1 hz2 rfl (by omega) _ 0 [] rfl (row_empty w _ _) ⟨b, o, none⟩ l.length cap (ints l) rfl (by rw [ints_length]; omega) (rd_news hr ((Below.refl _ _).alloc (Nat.le_refl _) _)) (by intro u hu; simp [ints] at hu; obtain ⟨a, _, rfl⟩ := hu; rfl) (by unfold maxLen; omega) (by omega) (by simp) ?_; intro v1 w1 hown1 hg1 _) | fail)
  have hb1 : Below w.heap.size w w1 := row_below (row_empty w _ 1) ((Below.refl _ _).alloc (Nat.le_refl _) _) (by simp) hg1
  rw [Nat.zero_add, List.nil_append] at hown1
  obtain ⟨A', cap', rfl⟩ := slice_of_row hown1
  clear hg1
  go_wp2
  go_returns
  refine ⟨A', cap', rfl, ?_, hb1⟩
  have h1 := hown1.1
  refine ⟨h1, ?_⟩
  rcases hown1.2 with h2 | ⟨g, cap2, cur, e2, h3, h4⟩
  · exact .inl h2
  · exact .inr ⟨g, cap2, cur, e2, Nat.le_trans hbase h3, h4⟩
end Go.Proofs.Ytdpgbgniejlilaa
