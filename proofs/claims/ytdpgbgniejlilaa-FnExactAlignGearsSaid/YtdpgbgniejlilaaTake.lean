/- The program's groups: one taken, one with a cell. -/
import Derived.Test.YtdpgbgniejlilaaSort
namespace Go.Proofs.Ytdpgbgniejlilaa
open Go.ChangeShapes Go.WideShapes Go.ChangeAt Go.RowKit Go.Joins Go.Deep
set_option linter.unusedSimpArgs false
set_option linter.unusedVariables false
set_option maxRecDepth 100000
set_option maxHeartbeats 2000000
theorem impl_takeGroup (r c : Nat) (A : Option Addr) (cap : Nat) (l : List (Int × Int)) (B nB i : Nat) (vs : List Nat) (w : World) (hG : Geo r c l.length) (hr : Rd w w.heap.size A (flat l)) (hi : i < l.length)
    (hk0 : Keys w B nB (opn (J l) vs [])) (ho : opn (J l) vs [] i = true) :
    Calls Try.prog 60 #[.agg #[.int .i64 (r : Int), .int .i64 (c : Int), .slice A l.length cap], .map (some B), .int .i64 (i : Int)] w
      fun e w' => ∃ v, e = .returned v ∧ IRow w' (w.heap.size + 1) v (nI (sortN l.length (brs (J l) (nearL c l.length) vs [i] l.length))) ∧ Keys w' B nB (opn (J l) vs (brs (J l) (nearL c l.length) vs [i] l.length)) ∧ w.grownBy w' (some B) := by
  have hfew := brs_few (J := J l) (near := nearL c l.length) (v := vs) (q := [i]) (n := l.length) hG.near (by simpa using hi) (few_one hi ho) l.length
  have hnd := brs_nodup (J := J l) (near := nearL c l.length) (v := vs) (q := [i]) (by simp) l.length
  have hpos : 0 < (brs (J l) (nearL c l.length) vs [i] l.length).length := List.length_pos_of_mem (brs_le (x := i) (by simp) _)
  have HQ := Lib.hid hfew
  have HD := Lib.hid hnd
  have n90 := hG.n90
  have hqn := few_len hfew.1
  clear hfew hnd
  go_enter Try.func60, Try.ntmps60
  obtain ⟨v0, hv0, X0, X1, B0, hz0⟩ := two_boxes w [.int .i64 (r : Int), .int .i64 (c : Int), .slice A l.length cap] 30 [.int .i64 (i : Int)] 3; have HV := Lib.hid hv0; have hz : w.heap.size + 1 < v0.heap.size := (by omega); have hy : w.heap.size < v0.heap.size := (by omega); have hb0 := B0.size; clear hv0 hz0; go_wp2_with fail; rewrite [show (w.alloc (.cells ([.int .i64 (r : Int), .int .i64 (c : Int), .slice A l.length cap] : List Value).toArray 30)).alloc (.cells ([.int .i64 (i : Int)] : List Value).toArray 3) = v0 from HV.out]; clear HV
  refine (impl_spread r c A cap l B nB (w.heap.size + 1) i vs v0 hG ((hr.below B0).mono B0.size) hi (hk0.below B0) ho (X1.rd hz)).mono ?_
  rintro e w1 ⟨v, rfl, hrow, hK, hg⟩
  obtain ⟨g, cap2, rfl, hgb⟩ := hrow.form (by rw [nI_length]; exact hpos)
  rw [nI_length] at hrow
  rewrite [nI_length]
  have hg0 : w.grownBy w1 (some B) := (grown_below (World.grownBy.refl w _) B0 (Nat.le_refl _)).trans hg
  have hrow' := hrow.mono (base' := w.heap.size + 1) (by omega)
  clear hrow X0 X1 B0
  generalize hq : brs (J l) (nearL c l.length) vs [i] l.length = q at *
  go_wp2_with (first | (go_at_call 62; refine (sort_row (n := l.length) hrow' HD.out HQ.out.2 hpos (by omega)).mono ?_; rintro e w2 ⟨rfl, hrow2, hg2⟩) | fail)
  go_returns
  subst hq
  refine ⟨.slice (some ⟨g, 0, none⟩) _ cap2, rfl, hrow2, hK.kept hg2 (hK.row hrow'), ?_⟩
  refine ⟨hg2.os ▸ hg0.os, hg2.tape.trans hg0.tape, hg2.output.trans hg0.output, Nat.le_trans hg0.size hg2.size, fun j hj hne => ?_⟩
  rw [hg2.block j (Nat.lt_of_lt_of_le hj hg0.size) (by intro e; cases e; omega)]
  exact hg0.block j hj hne
theorem grown_new {w w' : World} {B0 B : Nat} (hg : w.grownBy w' (some B)) (h0 : B0 ≤ w.heap.size) (hB : B0 ≤ B) : Below B0 w w' := (Below.refl B0 w).grown hg h0 (fun k hk => by cases hk; exact hB)
theorem J_opn (l : List (Int × Int)) (i : Nat) : J l i = opn (J l) [] [] i := by simp [opn]
theorem impl_groupWith (r c : Nat) (A : Option Addr) (cap : Nat) (l : List (Int × Int)) (i : Nat) (w : World) (hG : Geo r c l.length) (hr : Rd w w.heap.size A (flat l)) (hi : i < l.length) (hJ : J l i = true) :
    Calls Try.prog 54 #[.agg #[.int .i64 (r : Int), .int .i64 (c : Int), .slice A l.length cap], .int .i64 (i : Int)] w (PostI w (nI (sortN l.length (brs (J l) (nearL c l.length) [] [i] l.length)))) := by
  have n90 := hG.n90
  have HO := Lib.hid (show opn (J l) [] [] i = true by rw [← J_opn]; exact hJ)
  clear hJ
  go_enter Try.func54, Try.ntmps54
  obtain ⟨v0, hv0⟩ : ∃ v, v = w.alloc (.cells #[.int .i64 (r : Int), .int .i64 (c : Int), .slice A l.length cap] 30) := ⟨_, rfl⟩
  have X0 : Whole v0 w.heap.size 30 [.int .i64 (r : Int), .int .i64 (c : Int), .slice A l.length cap] := by rw [hv0]; exact heap_alloc_new w _
  have hb : Below w.heap.size w v0 := by rw [hv0]; exact (Below.refl _ _).alloc (Nat.le_refl _) _
  have HV := Lib.hid hv0.symm
  clear hv0
  go_upto_region 1 with (fail)
  rewrite [HV.out]
  clear HV
  have hz0 := X0.lt
  have X0k0 : v0.cell? ⟨w.heap.size, 0, none⟩ = some (.int .i64 (r : Int)) := (X0.cell 0).trans rfl; have X0k1 : v0.cell? ⟨w.heap.size, 1, none⟩ = some (.int .i64 (c : Int)) := (X0.cell 1).trans rfl; have X0k2 : v0.cell? ⟨w.heap.size, 2, none⟩ = some (.slice A l.length cap) := (X0.cell 2).trans rfl
  have hr0 := (hr.below hb).mono hb.size
  have KS := Lib.hid (fun (w' : World) (h : Below v0.heap.size v0 w') => (⟨(h.cell (p := ⟨w.heap.size, 0, none⟩) hz0).trans X0k0, (h.cell (p := ⟨w.heap.size, 1, none⟩) hz0).trans X0k1, (h.cell (p := ⟨w.heap.size, 2, none⟩) hz0).trans X0k2⟩ : w'.cell? ⟨w.heap.size, 0, none⟩ = some (.int .i64 (r : Int)) ∧ w'.cell? ⟨w.heap.size, 1, none⟩ = some (.int .i64 (c : Int)) ∧ w'.cell? ⟨w.heap.size, 2, none⟩ = some (.slice A l.length cap)))
  go_region_held3 (fun w' => w'.cell? ⟨w.heap.size, 0, none⟩ = some (.int .i64 (r : Int)) ∧ w'.cell? ⟨w.heap.size, 1, none⟩ = some (.int .i64 (c : Int)) ∧ w'.cell? ⟨w.heap.size, 2, none⟩ = some (.slice A l.length cap))
    (exact KS.out _ (by (repeat' (first | (with_reducible exact Below.refl _ _) | (with_reducible assumption) | (with_reducible refine Below.alloc ?_ ?_ _) | (with_reducible refine Below.setCell ?_ ?_ _) | (with_reducible refine Below.drew ?_) | (with_reducible refine below_drewN ?_ _) | (with_reducible refine Below.trans ?_ (Below.mono (by assumption) ?_)) | go_size))))
    ((first
      | (go_at_call 59; (with_reducible refine (impl_openCells (r : Int) (c : Int) A cap l _ (by omega) ?_).mono ?_); (focus exact (hr0.below (by (repeat' (first | (with_reducible exact Below.refl _ _) | (with_reducible assumption) | (with_reducible refine Below.alloc ?_ ?_ _) | (with_reducible refine Below.setCell ?_ ?_ _) | (with_reducible refine Below.drew ?_) | (with_reducible refine below_drewN ?_ _) | (with_reducible refine Below.trans ?_ (Below.mono (by assumption) ?_)) | go_size)))).mono (by (repeat' (first | (with_reducible exact Below.refl _ _) | (with_reducible assumption) | (with_reducible refine Below.alloc ?_ ?_ _) | (with_reducible refine Below.setCell ?_ ?_ _) | (with_reducible refine Below.drew ?_) | (with_reducible refine below_drewN ?_ _) | (with_reducible refine Below.trans ?_ (Below.mono (by assumption) ?_)) | go_size)) : Below v0.heap.size v0 _).size); rintro e w3 ⟨B, rfl, hB3, hK3, b3⟩; have bb3 : Below v0.heap.size v0 w3 := (by (repeat' (first | (with_reducible exact Below.refl _ _) | (with_reducible assumption) | (with_reducible refine Below.alloc ?_ ?_ _) | (with_reducible refine Below.setCell ?_ ?_ _) | (with_reducible refine Below.drew ?_) | (with_reducible refine below_drewN ?_ _) | (with_reducible refine Below.trans ?_ (Below.mono (by assumption) ?_)) | go_size))); have hB0 : v0.heap.size ≤ B := Nat.le_trans (by (repeat' (first | (with_reducible exact Below.refl _ _) | (with_reducible assumption) | (with_reducible refine Below.alloc ?_ ?_ _) | (with_reducible refine Below.setCell ?_ ?_ _) | (with_reducible refine Below.drew ?_) | (with_reducible refine below_drewN ?_ _) | (with_reducible refine Below.trans ?_ (Below.mono (by assumption) ?_)) | go_size)) : Below v0.heap.size v0 _).size hB3)
      | (go_at_call 60; (with_reducible refine (impl_takeGroup r c A cap l B l.length i [] _ hG ?_ hi ?_ HO.out).mono ?_); (focus exact (hr0.below (by (repeat' (first | (with_reducible exact Below.refl _ _) | (with_reducible assumption) | (with_reducible refine Below.alloc ?_ ?_ _) | (with_reducible refine Below.setCell ?_ ?_ _) | (with_reducible refine Below.drew ?_) | (with_reducible refine below_drewN ?_ _) | (with_reducible refine Below.trans ?_ (Below.mono (by assumption) ?_)) | go_size)))).mono (by (repeat' (first | (with_reducible exact Below.refl _ _) | (with_reducible assumption) | (with_reducible refine Below.alloc ?_ ?_ _) | (with_reducible refine Below.setCell ?_ ?_ _) | (with_reducible refine Below.drew ?_) | (with_reducible refine below_drewN ?_ _) | (with_reducible refine Below.trans ?_ (Below.mono (by assumption) ?_)) | go_size)) : Below v0.heap.size v0 _).size); (focus exact (hK3.below (by (repeat' (first | (with_reducible exact Below.refl _ _) | (with_reducible assumption) | (with_reducible refine Below.alloc ?_ ?_ _) | (with_reducible refine Below.setCell ?_ ?_ _) | (with_reducible refine Below.drew ?_) | (with_reducible refine below_drewN ?_ _) | (with_reducible refine Below.trans ?_ (Below.mono (by assumption) ?_)) | go_size)))).congr (fun j _ => J_opn l j)); rintro e w4 ⟨v4, rfl, hrow4, hK4, hg4⟩; have hd4 := (fun {W : World} (_ : W.grownBy w4 (some B)) (b : Below v0.heap.size v0 W) => b) hg4 (by (repeat' (first | (with_reducible exact Below.refl _ _) | (with_reducible assumption) | (with_reducible refine Below.alloc ?_ ?_ _) | (with_reducible refine Below.setCell ?_ ?_ _) | (with_reducible refine Below.drew ?_) | (with_reducible refine below_drewN ?_ _) | (with_reducible refine Below.trans ?_ (Below.mono (by assumption) ?_)) | go_size))); have bb4 : Below v0.heap.size v0 w4 := hd4.trans (grown_new hg4 hd4.size hB0); have hrow4' := hrow4.mono (base' := w.heap.size) (by have := hd4.size; have := hb.size; omega); clear hd4 hg4 hrow4)
      | fail))
  go_wp2
  go_returns
  exact PostI.of_irow hrow4' (Nat.le_refl _) (hb.trans (bb4.mono hb.size))
end Go.Proofs.Ytdpgbgniejlilaa
