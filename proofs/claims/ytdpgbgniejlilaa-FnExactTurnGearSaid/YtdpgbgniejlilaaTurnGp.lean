/- turnGroup: the program's; it turns the gears of a group in the cells themselves. -/
import Derived.Deep.RegionHeld3
import Derived.Deep.RegionLaw
import Derived.Test.YtdpgbgniejlilaaTurnI
import Derived.Test.YtdpgbgniejlilaaNumK
import Derived.Test.YtdpgbgniejlilaaCloneB
namespace Go.Proofs.Ytdpgbgniejlilaa
open Go.ChangeShapes Go.WideShapes Go.ChangeAt Go.RowKit Go.Joins Go.Deep
set_option linter.unusedSimpArgs false
set_option linter.unusedVariables false
set_option maxRecDepth 100000
set_option maxHeartbeats 8000000
theorem Whole.rdA {w : World} {g : Nat} {t : TypeId} {xs rest : List Value} (h : Whole w g t (xs ++ rest)) : Rd w w.heap.size (some ⟨g, 0, none⟩) xs := Own.rd (t := t) (fun _ => ⟨g, rest, rfl, h⟩)
theorem impl_TurnCell_ok (a b : Int) (h : good a b = true) (ht : a = 3 ∨ a = 6) (w : World) :
    Calls Try.prog 55 #[.agg #[.int .i64 a, .int .i64 b]] w fun e w' => e = .returned (.tuple #[.agg #[.int .i64 a, .int .i64 (1 - b)], .bool true]) ∧ Below w.heap.size w w' :=
  (impl_TurnCell a b w).mono fun e w' ⟨h1, h2⟩ => ⟨by
    rw [h1, h]
    rcases ht with rfl | rfl <;> rfl, h2⟩
theorem impl_turnGroup (r c g5 cap : Nat) (l : List (Int × Int)) (rest5 : List Value) (i : Nat) (w : World) (hG : Geo r c l.length) (hi : i < l.length) (h6 : (l.getD i (0, 0)).1 = 6) (hn : l.length ≤ 1048576) (hgd : ∀ x ∈ l, good x.1 x.2 = true)
    (X7 : Whole w g5 34 (flat l ++ rest5)) :
    Calls Try.prog 36 #[.agg #[.int .i64 (r : Int), .int .i64 (c : Int), .slice (some ⟨g5, 0, none⟩) l.length cap], .int .i64 (i : Int)] w
      fun e w' => e = .returned (.tuple #[]) ∧ Whole w' g5 34 (flat (passL (numL c l) l i) ++ rest5) ∧ w.grownBy w' (some g5) := by
  have HJ := Lib.hid (show J l i = true by unfold J; rw [h6]; rfl)
  have HGood := Lib.hid (fun k (hk : k < l.length) => hgd _ (List.getElem_mem hk))
  have HP := Lib.hid ((passL_gear (c := c) hi h6).trans inTake_all.symm)
  clear hgd h6
  go_enter Try.func36, Try.ntmps36
  obtain ⟨v0, hv0⟩ : ∃ v, v = w.alloc (.cells #[.int .i64 (r : Int), .int .i64 (c : Int), .slice (some ⟨g5, 0, none⟩) l.length cap] 30) := ⟨_, rfl⟩
  have X0 : Whole v0 w.heap.size 30 [.int .i64 (r : Int), .int .i64 (c : Int), .slice (some ⟨g5, 0, none⟩) l.length cap] := by rw [hv0]; exact heap_alloc_new w _
  have hb : Below w.heap.size w v0 := by rw [hv0]; exact (Below.refl _ _).alloc (Nat.le_refl _) _
  have HV := Lib.hid hv0.symm
  clear hv0
  go_upto_region 1 with (fail)
  rewrite [HV.out]
  clear HV
  have h5 := X7.lt
  replace X7 := X7.below hb h5
  have hgb : w.grownBy v0 (some g5) := gb_below (gb_refl w g5) hb
  have hy := X0.lt
  have hb0 := hb.size
  have hr2 := X7.rdA
  have hgl := grpL_len (c : Int) l i
  have k0 : v0.cell? ⟨w.heap.size, 0, none⟩ = some (.int .i64 (r : Int)) := (X0.cell 0).trans rfl
  have k1 : v0.cell? ⟨w.heap.size, 1, none⟩ = some (.int .i64 (c : Int)) := (X0.cell 1).trans rfl
  have k2 : v0.cell? ⟨w.heap.size, 2, none⟩ = some (.slice (some ⟨g5, 0, none⟩) l.length cap) := (X0.cell 2).trans rfl
  have KS := Lib.hid (fun (w' : World) (h : Below v0.heap.size v0 w') => (⟨(h.cell (p := ⟨w.heap.size, 0, none⟩) hy).trans k0, (h.cell (p := ⟨w.heap.size, 1, none⟩) hy).trans k1, (h.cell (p := ⟨w.heap.size, 2, none⟩) hy).trans k2⟩ : w'.cell? ⟨w.heap.size, 0, none⟩ = some (.int .i64 (r : Int)) ∧ w'.cell? ⟨w.heap.size, 1, none⟩ = some (.int .i64 (c : Int)) ∧ w'.cell? ⟨w.heap.size, 2, none⟩ = some (.slice (some ⟨g5, 0, none⟩) l.length cap)))
  clear k0 k1 k2
  go_region_held3 (fun w' => w'.cell? ⟨w.heap.size, 0, none⟩ = some (.int .i64 (r : Int)) ∧ w'.cell? ⟨w.heap.size, 1, none⟩ = some (.int .i64 (c : Int)) ∧ w'.cell? ⟨w.heap.size, 2, none⟩ = some (.slice (some ⟨g5, 0, none⟩) l.length cap))
    (first | exact KS.out _ (by (repeat' (first | (with_reducible exact Below.refl _ _) | (with_reducible assumption) | (with_reducible refine Below.alloc ?_ ?_ _) | (with_reducible refine Below.setCell ?_ ?_ _) | (with_reducible refine Below.drew ?_) | (with_reducible refine below_drewN ?_ _) | (with_reducible refine Below.trans ?_ (Below.mono (by assumption) ?_)) | go_size))) | fail)
    ((first
      | (go_at_call 54; (with_reducible refine (impl_groupWithN r c _ cap l i _ hG ?_ hi HJ.out).mono ?_); (focus exact (hr2.below (by (repeat' (first | (with_reducible exact Below.refl _ _) | (with_reducible assumption) | (with_reducible refine Below.alloc ?_ ?_ _) | (with_reducible refine Below.setCell ?_ ?_ _) | (with_reducible refine Below.drew ?_) | (with_reducible refine below_drewN ?_ _) | (with_reducible refine Below.trans ?_ (Below.mono (by assumption) ?_)) | go_size)))).mono (by (repeat' (first | (with_reducible exact Below.refl _ _) | (with_reducible assumption) | (with_reducible refine Below.alloc ?_ ?_ _) | (with_reducible refine Below.setCell ?_ ?_ _) | (with_reducible refine Below.drew ?_) | (with_reducible refine below_drewN ?_ _) | (with_reducible refine Below.trans ?_ (Below.mono (by assumption) ?_)) | go_size)) : Below v0.heap.size v0 _).size); rintro e w3 ⟨A3, c3, rfl, o3, n3, b3⟩; have bb3 : Below v0.heap.size v0 w3 := (by (repeat' (first | (with_reducible exact Below.refl _ _) | (with_reducible assumption) | (with_reducible refine Below.alloc ?_ ?_ _) | (with_reducible refine Below.setCell ?_ ?_ _) | (with_reducible refine Below.drew ?_) | (with_reducible refine below_drewN ?_ _) | (with_reducible refine Below.trans ?_ (Below.mono (by assumption) ?_)) | go_size))); have s3 : v0.heap.size ≤ w3.heap.size := bb3.size)
      | (go_at_call 42; (with_reducible refine (impl_gearsAmongN (r : Int) (c : Int) _ cap l A3 c3 (grpL (c : Int) l i) _ ?_ (by omega) (grpL_lt _ _ _) ?_).mono ?_); (focus exact (hr2.below (by (repeat' (first | (with_reducible exact Below.refl _ _) | (with_reducible assumption) | (with_reducible refine Below.alloc ?_ ?_ _) | (with_reducible refine Below.setCell ?_ ?_ _) | (with_reducible refine Below.drew ?_) | (with_reducible refine below_drewN ?_ _) | (with_reducible refine Below.trans ?_ (Below.mono (by assumption) ?_)) | go_size)))).mono (by (repeat' (first | (with_reducible exact Below.refl _ _) | (with_reducible assumption) | (with_reducible refine Below.alloc ?_ ?_ _) | (with_reducible refine Below.setCell ?_ ?_ _) | (with_reducible refine Below.drew ?_) | (with_reducible refine below_drewN ?_ _) | (with_reducible refine Below.trans ?_ (Below.mono (by assumption) ?_)) | go_size)) : Below v0.heap.size v0 _).size); (focus exact (o3.rd.below (by (repeat' (first | (with_reducible exact Below.refl _ _) | (with_reducible assumption) | (with_reducible refine Below.alloc ?_ ?_ _) | (with_reducible refine Below.setCell ?_ ?_ _) | (with_reducible refine Below.drew ?_) | (with_reducible refine below_drewN ?_ _) | (with_reducible refine Below.trans ?_ (Below.mono (by assumption) ?_)) | go_size)))).mono (by (repeat' (first | (with_reducible exact Below.refl _ _) | (with_reducible assumption) | (with_reducible refine Below.alloc ?_ ?_ _) | (with_reducible refine Below.setCell ?_ ?_ _) | (with_reducible refine Below.drew ?_) | (with_reducible refine below_drewN ?_ _) | (with_reducible refine Below.trans ?_ (Below.mono (by assumption) ?_)) | go_size)) : Below w3.heap.size w3 _).size); rintro e w4 ⟨A4, c4, rfl, o4, n4, b4⟩; have bb4 : Below v0.heap.size v0 w4 := (by (repeat' (first | (with_reducible exact Below.refl _ _) | (with_reducible assumption) | (with_reducible refine Below.alloc ?_ ?_ _) | (with_reducible refine Below.setCell ?_ ?_ _) | (with_reducible refine Below.drew ?_) | (with_reducible refine below_drewN ?_ _) | (with_reducible refine Below.trans ?_ (Below.mono (by assumption) ?_)) | go_size))))
      | fail))
  rewrite [show (grpL (c : Int) l i).filter (gearK l) = gearsOf (c : Int) l i from rfl]
  rw [show (grpL (c : Int) l i).filter (gearK l) = gearsOf (c : Int) l i from rfl] at o4
  have n4' : ∀ a, A4 = some a → v0.heap.size ≤ a.block := fun a ha => Nat.le_trans s3 (n4 a ha)
  clear KS b3 b4 n3 n4 o3 s3 bb3 hr2
  have h5' : g5 < v0.heap.size := X7.lt
  replace X0 := X0.below bb4 X0.lt
  replace X7 := X7.below bb4 X7.lt
  replace hgb := gb_below hgb bb4
  clear bb4 hb hb0 hy
  rw [← inTake_zero (l := l) (gs := gearsOf (c : Int) l i)] at X7
  have hgn := gearsOf_len (c : Int) l i
  have HAt := Lib.hid (fun j => gearsOf_at (C := (c : Int)) (l := l) (k := i) (j := j))
  have HSt := Lib.hid (fun j => inTake_step (l := l) (gs := gearsOf (c : Int) l i) (j := j))
  generalize gearsOf (c : Int) l i = gs at *
  generalize v0.heap.size = base at *
  go_wp2_with fail
  go_loopw [12] (fun t wr => ∃ k : Nat, t = .int .i64 k ∧ k ≤ gs.length ∧ Whole wr w.heap.size 30 [.int .i64 (r : Int), .int .i64 (c : Int), .slice (some ⟨g5, 0, none⟩) l.length cap] ∧ Whole wr g5 34 (flat (tnS l (inTake gs k)) ++ rest5) ∧ Own wr A4 3 (ints (nI gs)) ∧ w.grownBy wr (some g5)) (fun t _ => gs.length - (intOf t).toNat)
  case atStart => exact ⟨0, rfl, Nat.zero_le _, X0, X7, o4, hgb⟩
  case round =>
    clear X0 X7 o4 hgb
    obtain ⟨k, rfl, hk, X0, X7, o4, hgb⟩ := hrel
    by_cases hlt : k < gs.length
    · obtain ⟨hyl, hyg, hyn⟩ := HAt.out k hlt
      have hstep := HSt.out k hlt hyl
      obtain ⟨g4, rest4, rfl, X4⟩ := o4 (by rw [ints_length, nI_length]; omega)
      have h4 : base ≤ g4 := n4' _ rfl
      have hck := row_num X4 hlt
      have hTl : gs[k] < (tnS l (inTake gs k)).length := by rw [tnS_len]; exact hyl
      have hget : l.getD gs[k] (0, 0) = l[gs[k]] := by rw [List.getD_eq_getElem?_getD, List.getElem?_eq_getElem hyl]; rfl
      have hT : (tnS l (inTake gs k))[gs[k]] = l[gs[k]] := by
        rw [tnS_at hTl, hget]
        have : inTake gs k gs[k] = false := by unfold inTake; simpa using hyn
        rw [this]
        rfl
      have h6 : l[gs[k]].1 = 6 := by unfold gearK at hyg; rw [hget] at hyg; simpa using hyg
      have hgood := HGood.out gs[k] hyl
      rw [hget, h6] at hstep
      have HSet := flat_set (tnS l (inTake gs k)) gs[k] 6 (1 - l[gs[k]].2) hTl rest5
      rw [hstep] at HSet
      have u0 : (flat (tnS l (inTake gs k)) ++ rest5)[gs[k] * 2]? = some (.int .i64 6) := by rw [List.getElem?_append_left (by rw [flat_length]; omega), (flat_at _ gs[k] hTl).1, hT, h6]
      have u1 : (flat (tnS l (inTake gs k)) ++ rest5)[gs[k] * 2 + 1]? = some (.int .i64 l[gs[k]].2) := by rw [List.getElem?_append_left (by rw [flat_length]; omega), (flat_at _ gs[k] hTl).2, hT]
      rw [h6] at hgood
      have HSet' := Lib.hid HSet
      have U0 := Lib.hid u0
      have U1 := Lib.hid u1
      have hs := hgb.size
      have hyw : w.heap.size < wr.heap.size := X0.lt
      have HTC := Lib.hid (impl_TurnCell_ok 6 l[gs[k]].2 hgood (.inr rfl))
      clear hTl hT hget h6 hstep hyg hyn HSet hgood u0 u1
      generalize l[gs[k]].2 = st' at *
      generalize gs[k] = y at *
      go_upto_region 4 with (fail)
      clear hck
      have bd : Below wr.heap.size wr wr.drew := (Below.refl _ _).drew
      replace X0 := X0.below bd X0.lt
      replace X4 := X4.below bd X4.lt
      replace X7 := X7.below bd X7.lt
      replace hgb := gb_below hgb bd
      have hk2 : wr.drew.cell? ⟨w.heap.size, 2, none⟩ = some (.slice (some ⟨g5, 0, none⟩) l.length cap) := (X0.cell 2).trans rfl
      have q0 : wr.drew.cell? ⟨g5, y * 2, none⟩ = some (.int .i64 6) := (X7.cell _).trans U0.out
      have q1 : wr.drew.cell? ⟨g5, y * 2 + 1, none⟩ = some (.int .i64 st') := (X7.cell _).trans U1.out
      clear bd
      go_region_law (first
        | (go_simp; (with_reducible refine Calls.mono (HTC.out _) ?_); rintro e w5 ⟨rfl, b5⟩; replace X0 := X0.below b5 X0.lt; replace X4 := X4.below b5 X4.lt; replace X7 := X7.below b5 X7.lt; replace hgb := gb_below hgb b5; replace hk2 : w5.cell? ⟨w.heap.size, 2, none⟩ = some (.slice (some ⟨g5, 0, none⟩) l.length cap) := (X0.cell 2).trans rfl; replace q0 : w5.cell? ⟨g5, y * 2, none⟩ = some (.int .i64 6) := (X7.cell _).trans U0.out; replace q1 : w5.cell? ⟨g5, y * 2 + 1, none⟩ = some (.int .i64 st') := (X7.cell _).trans U1.out; have f0 := X7.frozen (y * 2); have f1 := X7.frozen (y * 2 + 1); clear b5)
        | fail)
      all_goals (go_wp2; go_roundw)
      all_goals first
        | (refine ⟨k + 1, by go_num, by omega, X0.two_far (by omega), ?_, fun _ => ⟨g4, rest4, rfl, X4.two_far (by omega)⟩, gb_set2 hgb⟩; rewrite [← HSet'.out]; exact (X7.set (y * 2) (.int .i64 6)).set (y * 2 + 1) (.int .i64 (1 - st')))
        | (simp [intOf]; omega)
        | fail
    · obtain rfl : k = gs.length := by omega
      rw [← HP.out] at X7
      go_wp2
      go_returns
      exact ⟨rfl, X7, hgb⟩
end Go.Proofs.Ytdpgbgniejlilaa
