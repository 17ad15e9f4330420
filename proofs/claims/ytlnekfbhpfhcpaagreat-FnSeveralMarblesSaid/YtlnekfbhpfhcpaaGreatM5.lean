/- Contracts of the program and of the model, walked, part 5 of 10. No condition but what each says. -/
import Derived.Deep.RegionHeld3
import Derived.Test.YtlnekfbhpfhcpaaGreatM1
import Derived.Deep.RegionLaw
import Derived.Test.YtlnekfbhpfhcpaaGreatM4
import Derived.Test.YtlnekfbhpfhcpaaGreatM3
namespace Go.Proofs.YtlnekfbhpfhcpaaGreat
open Go.ChangeShapes Go.WideShapes Go.ChangeAt Go.RowKit Go.Joins Go.Deep
set_option linter.unusedSimpArgs false
set_option linter.unusedVariables false
set_option maxRecDepth 100000
set_option maxHeartbeats 4000000
theorem three_farC {w : World} {g a : Nat} {t : TypeId} {xs : List Value} {u0 u1 u2 : Value} (h : Whole w g t xs) (ne : a ≠ g) : Whole (((w.setCell ⟨a, 0, none⟩ u0).setCell ⟨a, 1, none⟩ u1).setCell ⟨a, 2, none⟩ u2) g t xs :=
  ((h.set_far ⟨a, 0, none⟩ u0 ne).set_far ⟨a, 1, none⟩ u1 ne).set_far ⟨a, 2, none⟩ u2 ne
theorem impl_cloneBoard (R C : Int) (b o cap : Nat) (l : List (Int × Int)) (w : World) (hn : l.length ≤ 1048576) (hr : Rd w w.heap.size (some ⟨b, o, none⟩) (flat l)) :
    Calls Tryz.prog 33 #[.agg #[.int .i64 R, .int .i64 C, .slice (some ⟨b, o, none⟩) l.length cap]] w (PostD w R C l) := by
  go_enter Tryz.func33, Tryz.ntmps33
  obtain ⟨v0, hv0, X0, X1, B0, hz0⟩ := two_boxes w [.int .i64 R, .int .i64 C, .slice (some ⟨b, o, none⟩) l.length cap] 25 [.int .i64 0, .int .i64 0, .slice none 0 0] 25; have HV := Lib.hid hv0; have hz : w.heap.size + 1 < v0.heap.size := (by omega); have hy : w.heap.size < v0.heap.size := (by omega); have hb0 := B0.size; clear hv0 hz0; go_wp2_with fail; rewrite [show (w.alloc (.cells ([.int .i64 R, .int .i64 C, .slice (some ⟨b, o, none⟩) l.length cap] : List Value).toArray 25)).alloc (.cells ([.int .i64 0, .int .i64 0, .slice none 0 0] : List Value).toArray 25) = v0 from HV.out]; clear HV
  have k0 : v0.cell? ⟨w.heap.size, 0, none⟩ = some (.int .i64 R) := (X0.cell 0).trans rfl
  have k1 : v0.cell? ⟨w.heap.size, 1, none⟩ = some (.int .i64 C) := (X0.cell 1).trans rfl
  have k2 : v0.cell? ⟨w.heap.size, 2, none⟩ = some (.slice (some ⟨b, o, none⟩) l.length cap) := (X0.cell 2).trans rfl
  have KS := Lib.hid (fun (w' : World) (h : Below v0.heap.size v0 w') => (⟨(h.cell (p := ⟨w.heap.size, 0, none⟩) hy).trans k0, (h.cell (p := ⟨w.heap.size, 1, none⟩) hy).trans k1, (h.cell (p := ⟨w.heap.size, 2, none⟩) hy).trans k2⟩ : w'.cell? ⟨w.heap.size, 0, none⟩ = some (.int .i64 R) ∧ w'.cell? ⟨w.heap.size, 1, none⟩ = some (.int .i64 C) ∧ w'.cell? ⟨w.heap.size, 2, none⟩ = some (.slice (some ⟨b, o, none⟩) l.length cap)))
  have KS2 := Lib.hid (fun (w' : World) (u u' u2 : Value) (h : Below v0.heap.size v0 w') => (⟨((three_farC (u0 := u) (u1 := u') (u2 := u2) (X0.below h X0.lt) (show w.heap.size + 1 ≠ w.heap.size by omega)).cell 0).trans rfl, ((three_farC (u0 := u) (u1 := u') (u2 := u2) (X0.below h X0.lt) (show w.heap.size + 1 ≠ w.heap.size by omega)).cell 1).trans rfl, ((three_farC (u0 := u) (u1 := u') (u2 := u2) (X0.below h X0.lt) (show w.heap.size + 1 ≠ w.heap.size by omega)).cell 2).trans rfl⟩ : (((w'.setCell ⟨w.heap.size + 1, 0, none⟩ u).setCell ⟨w.heap.size + 1, 1, none⟩ u').setCell ⟨w.heap.size + 1, 2, none⟩ u2).cell? ⟨w.heap.size, 0, none⟩ = some (.int .i64 R) ∧ (((w'.setCell ⟨w.heap.size + 1, 0, none⟩ u).setCell ⟨w.heap.size + 1, 1, none⟩ u').setCell ⟨w.heap.size + 1, 2, none⟩ u2).cell? ⟨w.heap.size, 1, none⟩ = some (.int .i64 C) ∧ (((w'.setCell ⟨w.heap.size + 1, 0, none⟩ u).setCell ⟨w.heap.size + 1, 1, none⟩ u').setCell ⟨w.heap.size + 1, 2, none⟩ u2).cell? ⟨w.heap.size, 2, none⟩ = some (.slice (some ⟨b, o, none⟩) l.length cap)))
  clear k0 k1 k2
  go_region_held3 (fun w' => w'.cell? ⟨w.heap.size, 0, none⟩ = some (.int .i64 R) ∧ w'.cell? ⟨w.heap.size, 1, none⟩ = some (.int .i64 C) ∧ w'.cell? ⟨w.heap.size, 2, none⟩ = some (.slice (some ⟨b, o, none⟩) l.length cap))
    (first | exact KS2.out w2 _ _ _ bb | exact KS.out _ (by (repeat' (first | (with_reducible exact Below.refl _ _) | (with_reducible assumption) | (with_reducible refine Below.alloc ?_ ?_ _) | (with_reducible refine Below.setCell ?_ ?_ _) | (with_reducible refine Below.drew ?_) | (with_reducible refine below_drewN ?_ _) | (with_reducible refine Below.trans ?_ (Below.mono (by assumption) ?_)) | go_size))) | fail)
    ((first
      | (go_at_call 57; (with_reducible refine (Clone_any b o cap l _ hn ?_).mono ?_); (focus exact (hr.below (B0.trans ((by (repeat' (first | (with_reducible exact Below.refl _ _) | (with_reducible assumption) | (with_reducible refine Below.alloc ?_ ?_ _) | (with_reducible refine Below.setCell ?_ ?_ _) | (with_reducible refine Below.drew ?_) | (with_reducible refine below_drewN ?_ _) | (with_reducible refine Below.trans ?_ (Below.mono (by assumption) ?_)) | go_size)) : Below v0.heap.size v0 _).mono B0.size))).mono (Nat.le_trans B0.size (by (repeat' (first | (with_reducible exact Below.refl _ _) | (with_reducible assumption) | (with_reducible refine Below.alloc ?_ ?_ _) | (with_reducible refine Below.setCell ?_ ?_ _) | (with_reducible refine Below.drew ?_) | (with_reducible refine below_drewN ?_ _) | (with_reducible refine Below.trans ?_ (Below.mono (by assumption) ?_)) | go_size)) : Below v0.heap.size v0 _).size)); rintro e w2 ⟨A5, c5, rfl, o5, n5, b2⟩; have bb : Below v0.heap.size v0 w2 := (by (repeat' (first | (with_reducible exact Below.refl _ _) | (with_reducible assumption) | (with_reducible refine Below.alloc ?_ ?_ _) | (with_reducible refine Below.setCell ?_ ?_ _) | (with_reducible refine Below.drew ?_) | (with_reducible refine below_drewN ?_ _) | (with_reducible refine Below.trans ?_ (Below.mono (by assumption) ?_)) | go_size))); have s2 : v0.heap.size ≤ w2.heap.size := bb.size; have Z := X1.below bb X1.lt; have Zk0 : w2.cell? ⟨w.heap.size + 1, 0, none⟩ = some (.int .i64 0) := (Z.cell 0).trans rfl; have Zk1 : w2.cell? ⟨w.heap.size + 1, 1, none⟩ = some (.int .i64 0) := (Z.cell 1).trans rfl; have Zk2 : w2.cell? ⟨w.heap.size + 1, 2, none⟩ = some (.slice none 0 0) := (Z.cell 2).trans rfl; have Zf0 := Z.frozen 0; have Zf1 := Z.frozen 1; have Zf2 := Z.frozen 2; replace n5 : New v0 A5 := n5.mono (by (repeat' (first | (with_reducible exact Below.refl _ _) | (with_reducible assumption) | (with_reducible refine Below.alloc ?_ ?_ _) | (with_reducible refine Below.setCell ?_ ?_ _) | (with_reducible refine Below.drew ?_) | (with_reducible refine below_drewN ?_ _) | (with_reducible refine Below.trans ?_ (Below.mono (by assumption) ?_)) | go_size)) : Below v0.heap.size v0 _).size)
      | fail))
  all_goals go_wp2
  all_goals (refine bodyPost_ret (v := .agg #[.int .i64 R, .int .i64 C, .slice A5 l.length c5]) ?_ rfl ?_; (focus (simp [results, Tryz.results33, go_sem, *]; done)))
  all_goals (have hap : ∀ a, A5 = some a → w.heap.size + 1 ≠ a.block := fun a ha => by have h := n5 a ha; omega)
  all_goals exact PostD.mk (((o5.set_far ⟨w.heap.size + 1, 0, none⟩ _ hap).set_far ⟨w.heap.size + 1, 1, none⟩ _ hap).set_far ⟨w.heap.size + 1, 2, none⟩ _ hap) (fun a ha => by have h := n5 a ha; omega) (by have b3 := B0.trans (bb.mono B0.size); exact ((b3.setCell (p := ⟨w.heap.size + 1, 0, none⟩) (by show w.heap.size ≤ w.heap.size + 1; omega) _).setCell (p := ⟨w.heap.size + 1, 1, none⟩) (by show w.heap.size ≤ w.heap.size + 1; omega) _).setCell (p := ⟨w.heap.size + 1, 2, none⟩) (by show w.heap.size ≤ w.heap.size + 1; omega) _)
end Go.Proofs.YtlnekfbhpfhcpaaGreat
namespace Go.Proofs.YtlnekfbhpfhcpaaGreat
open Go.ChangeShapes Go.WideShapes Go.ChangeAt Go.RowKit Go.Joins Go.Deep
set_option linter.unusedSimpArgs false
set_option linter.unusedVariables false
set_option maxRecDepth 100000
set_option maxHeartbeats 8000000
theorem Whole.rdA {w : World} {g : Nat} {t : TypeId} {xs rest : List Value} (h : Whole w g t (xs ++ rest)) : Rd w w.heap.size (some ⟨g, 0, none⟩) xs := Own.rd (t := t) (fun _ => ⟨g, rest, rfl, h⟩)
theorem impl_TurnCell_ok (a b : Int) (h : good a b = true) (ht : a = 3 ∨ a = 6) (w : World) :
    Calls Tryz.prog 79 #[.agg #[.int .i64 a, .int .i64 b]] w fun e w' => e = .returned (.tuple #[.agg #[.int .i64 a, .int .i64 (1 - b)], .bool true]) ∧ Below w.heap.size w w' :=
  (impl_TurnCell a b w).mono fun e w' ⟨h1, h2⟩ => ⟨by
    rw [h1, h]
    rcases ht with rfl | rfl <;> rfl, h2⟩
theorem impl_turnGroup (r c g5 cap : Nat) (l : List (Int × Int)) (rest5 : List Value) (i : Nat) (w : World) (hG : Geo r c l.length) (hi : i < l.length) (h6 : (l.getD i (0, 0)).1 = 6) (hn : l.length ≤ 1048576) (hgd : ∀ x ∈ l, good x.1 x.2 = true)
    (X7 : Whole w g5 86 (flat l ++ rest5)) :
    Calls Tryz.prog 80 #[.agg #[.int .i64 (r : Int), .int .i64 (c : Int), .slice (some ⟨g5, 0, none⟩) l.length cap], .int .i64 (i : Int)] w
      fun e w' => e = .returned (.tuple #[]) ∧ Whole w' g5 86 (flat (passL (numL c l) l i) ++ rest5) ∧ w.grownBy w' (some g5) := by
  have HJ := Lib.hid (show J l i = true by unfold J; rw [h6]; rfl)
  have HGood := Lib.hid (fun k (hk : k < l.length) => hgd _ (List.getElem_mem hk))
  have HP := Lib.hid ((passL_gear (c := c) hi h6).trans inTake_all.symm)
  clear hgd h6
  go_enter Tryz.func80, Tryz.ntmps80
  obtain ⟨v0, hv0⟩ : ∃ v, v = w.alloc (.cells #[.int .i64 (r : Int), .int .i64 (c : Int), .slice (some ⟨g5, 0, none⟩) l.length cap] 25) := ⟨_, rfl⟩
  have X0 : Whole v0 w.heap.size 25 [.int .i64 (r : Int), .int .i64 (c : Int), .slice (some ⟨g5, 0, none⟩) l.length cap] := by rw [hv0]; exact heap_alloc_new w _
  have hb : Below w.heap.size w v0 := by rw [hv0]; exact (Below.refl _ _).alloc (Nat.le_refl _) _
  have HV := Lib.hid hv0.symm
  clear hv0
  go_upto_region 1 with (fail)
  rewrite [HV.out]
  clear HV
  have h5 := X7.lt
  replace X7 := X7.below hb h5
  have hgb : w.grownBy v0 (some g5) := gb_below (gb_refl w g5) hb
  have hy := X0.lt
  have hb0 := hb.size
  have hr2 := X7.rdA
  have hgl := grpL_len (c : Int) l i
  have k0 : v0.cell? ⟨w.heap.size, 0, none⟩ = some (.int .i64 (r : Int)) := (X0.cell 0).trans rfl
  have k1 : v0.cell? ⟨w.heap.size, 1, none⟩ = some (.int .i64 (c : Int)) := (X0.cell 1).trans rfl
  have k2 : v0.cell? ⟨w.heap.size, 2, none⟩ = some (.slice (some ⟨g5, 0, none⟩) l.length cap) := (X0.cell 2).trans rfl
  have KS := Lib.hid (fun (w' : World) (h : Below v0.heap.size v0 w') => (⟨(h.cell (p := ⟨w.heap.size, 0, none⟩) hy).trans k0, (h.cell (p := ⟨w.heap.size, 1, none⟩) hy).trans k1, (h.cell (p := ⟨w.heap.size, 2, none⟩) hy).trans k2⟩ : w'.cell? ⟨w.heap.size, 0, none⟩ = some (.int .i64 (r : Int)) ∧ w'.cell? ⟨w.heap.size, 1, none⟩ = some (.int .i64 (c : Int)) ∧ w'.cell? ⟨w.heap.size, 2, none⟩ = some (.slice (some ⟨g5, 0, none⟩) l.length cap)))
  clear k0 k1 k2
  go_region_held3 (fun w' => w'.cell? ⟨w.heap.size, 0, none⟩ = some (.int .i64 (r : Int)) ∧ w'.cell? ⟨w.heap.size, 1, none⟩ = some (.int .i64 (c : Int)) ∧ w'.cell? ⟨w.heap.size, 2, none⟩ = some (.slice (some ⟨g5, 0, none⟩) l.length cap))
    (first | exact KS.out _ (by (repeat' (first | (with_reducible exact Below.refl _ _) | (with_reducible assumption) | (with_reducible refine Below.alloc ?_ ?_ _) | (with_reducible refine Below.setCell ?_ ?_ _) | (with_reducible refine Below.drew ?_) | (with_reducible refine below_drewN ?_ _) | (with_reducible refine Below.trans ?_ (Below.mono (by assumption) ?_)) | go_size))) | fail)
    ((first
      | (go_at_call 102; (with_reducible refine (impl_groupWithN r c _ cap l i _ hG ?_ hi HJ.out).mono ?_); (focus exact (hr2.below (by (repeat' (first | (with_reducible exact Below.refl _ _) | (with_reducible assumption) | (with_reducible refine Below.alloc ?_ ?_ _) | (with_reducible refine Below.setCell ?_ ?_ _) | (with_reducible refine Below.drew ?_) | (with_reducible refine below_drewN ?_ _) | (with_reducible refine Below.trans ?_ (Below.mono (by assumption) ?_)) | go_size)))).mono (by (repeat' (first | (with_reducible exact Below.refl _ _) | (with_reducible assumption) | (with_reducible refine Below.alloc ?_ ?_ _) | (with_reducible refine Below.setCell ?_ ?_ _) | (with_reducible refine Below.drew ?_) | (with_reducible refine below_drewN ?_ _) | (with_reducible refine Below.trans ?_ (Below.mono (by assumption) ?_)) | go_size)) : Below v0.heap.size v0 _).size); rintro e w3 ⟨A3, c3, rfl, o3, n3, b3⟩; have bb3 : Below v0.heap.size v0 w3 := (by (repeat' (first | (with_reducible exact Below.refl _ _) | (with_reducible assumption) | (with_reducible refine Below.alloc ?_ ?_ _) | (with_reducible refine Below.setCell ?_ ?_ _) | (with_reducible refine Below.drew ?_) | (with_reducible refine below_drewN ?_ _) | (with_reducible refine Below.trans ?_ (Below.mono (by assumption) ?_)) | go_size))); have s3 : v0.heap.size ≤ w3.heap.size := bb3.size)
      | (go_at_call 101; (with_reducible refine (impl_gearsAmongN (r : Int) (c : Int) _ cap l A3 c3 (grpL (c : Int) l i) _ ?_ (by omega) (grpL_lt _ _ _) ?_).mono ?_); (focus exact (hr2.below (by (repeat' (first | (with_reducible exact Below.refl _ _) | (with_reducible assumption) | (with_reducible refine Below.alloc ?_ ?_ _) | (with_reducible refine Below.setCell ?_ ?_ _) | (with_reducible refine Below.drew ?_) | (with_reducible refine below_drewN ?_ _) | (with_reducible refine Below.trans ?_ (Below.mono (by assumption) ?_)) | go_size)))).mono (by (repeat' (first | (with_reducible exact Below.refl _ _) | (with_reducible assumption) | (with_reducible refine Below.alloc ?_ ?_ _) | (with_reducible refine Below.setCell ?_ ?_ _) | (with_reducible refine Below.drew ?_) | (with_reducible refine below_drewN ?_ _) | (with_reducible refine Below.trans ?_ (Below.mono (by assumption) ?_)) | go_size)) : Below v0.heap.size v0 _).size); (focus exact (o3.rd.below (by (repeat' (first | (with_reducible exact Below.refl _ _) | (with_reducible assumption) | (with_reducible refine Below.alloc ?_ ?_ _) | (with_reducible refine Below.setCell ?_ ?_ _) | (with_reducible refine Below.drew ?_) | (with_reducible refine below_drewN ?_ _) | (with_reducible refine Below.trans ?_ (Below.mono (by assumption) ?_)) | go_size)))).mono (by (repeat' (first | (with_reducible exact Below.refl _ _) | (with_reducible assumption) | (with_reducible refine Below.alloc ?_ ?_ _) | (with_reducible refine Below.setCell ?_ ?_ _) | (with_reducible refine Below.drew ?_) | (with_reducible refine below_drewN ?_ _) | (with_reducible refine Below.trans ?_ (Below.mono (by assumption) ?_)) | go_size)) : Below w3.heap.size w3 _).size); rintro e w4 ⟨A4, c4, rfl, o4, n4, b4⟩; have bb4 : Below v0.heap.size v0 w4 := (by (repeat' (first | (with_reducible exact Below.refl _ _) | (with_reducible assumption) | (with_reducible refine Below.alloc ?_ ?_ _) | (with_reducible refine Below.setCell ?_ ?_ _) | (with_reducible refine Below.drew ?_) | (with_reducible refine below_drewN ?_ _) | (with_reducible refine Below.trans ?_ (Below.mono (by assumption) ?_)) | go_size))))
      | fail))
  rewrite [show (grpL (c : Int) l i).filter (gearK l) = gearsOf (c : Int) l i from rfl]
  rw [show (grpL (c : Int) l i).filter (gearK l) = gearsOf (c : Int) l i from rfl] at o4
  have n4' : ∀ a, A4 = some a → v0.heap.size ≤ a.block := fun a ha => Nat.le_trans s3 (n4 a ha)
  clear KS b3 b4 n3 n4 o3 s3 bb3 hr2
  have h5' : g5 < v0.heap.size := X7.lt
  replace X0 := X0.below bb4 X0.lt
  replace X7 := X7.below bb4 X7.lt
  replace hgb := gb_below hgb bb4
  clear bb4 hb hb0 hy
  rw [← inTake_zero (l := l) (gs := gearsOf (c : Int) l i)] at X7
  have hgn := gearsOf_len (c : Int) l i
  have HAt := Lib.hid (fun j => gearsOf_at (C := (c : Int)) (l := l) (k := i) (j := j))
  have HSt := Lib.hid (fun j => inTake_step (l := l) (gs := gearsOf (c : Int) l i) (j := j))
  generalize gearsOf (c : Int) l i = gs at *
  generalize v0.heap.size = base at *
  go_wp2_with fail
  go_loopw [12] (fun t wr => ∃ k : Nat, t = .int .i64 k ∧ k ≤ gs.length ∧ Whole wr w.heap.size 25 [.int .i64 (r : Int), .int .i64 (c : Int), .slice (some ⟨g5, 0, none⟩) l.length cap] ∧ Whole wr g5 86 (flat (tnS l (inTake gs k)) ++ rest5) ∧ Own wr A4 3 (ints (nI gs)) ∧ w.grownBy wr (some g5)) (fun t _ => gs.length - (intOf t).toNat)
  case atStart => exact ⟨0, rfl, Nat.zero_le _, X0, X7, o4, hgb⟩
  case round =>
    clear X0 X7 o4 hgb
    obtain ⟨k, rfl, hk, X0, X7, o4, hgb⟩ := hrel
    by_cases hlt : k < gs.length
    · obtain ⟨hyl, hyg, hyn⟩ := HAt.out k hlt
      have hstep := HSt.out k hlt hyl
      obtain ⟨g4, rest4, rfl, X4⟩ := o4 (by rw [ints_length, nI_length]; omega)
      have h4 : base ≤ g4 := n4' _ rfl
      have hck := row_num X4 hlt
      have hTl : gs[k] < (tnS l (inTake gs k)).length := by rw [tnS_len]; exact hyl
      have hget : l.getD gs[k] (0, 0) = l[gs[k]] := by rw [List.getD_eq_getElem?_getD, List.getElem?_eq_getElem hyl]; rfl
      have hT : (tnS l (inTake gs k))[gs[k]] = l[gs[k]] := by
        rw [tnS_at hTl, hget]
        have : inTake gs k gs[k] = false := by unfold inTake; simpa using hyn
        rw [this]
        rfl
      have h6 : l[gs[k]].1 = 6 := by unfold gearK at hyg; rw [hget] at hyg; simpa using hyg
      have hgood := HGood.out gs[k] hyl
      rw [hget, h6] at hstep
      have HSet := flat_set (tnS l (inTake gs k)) gs[k] 6 (1 - l[gs[k]].2) hTl rest5
      rw [hstep] at HSet
      have u0 : (flat (tnS l (inTake gs k)) ++ rest5)[gs[k] * 2]? = some (.int .i64 6) := by rw [List.getElem?_append_left (by rw [flat_length]; omega), (flat_at _ gs[k] hTl).1, hT, h6]
      have u1 : (flat (tnS l (inTake gs k)) ++ rest5)[gs[k] * 2 + 1]? = some (.int .i64 l[gs[k]].2) := by rw [List.getElem?_append_left (by rw [flat_length]; omega), (flat_at _ gs[k] hTl).2, hT]
      rw [h6] at hgood
      have HSet' := Lib.hid HSet
      have U0 := Lib.hid u0
      have U1 := Lib.hid u1
      have hs := hgb.size
      have hyw : w.heap.size < wr.heap.size := X0.lt
      have HTC := Lib.hid (impl_TurnCell_ok 6 l[gs[k]].2 hgood (.inr rfl))
      clear hTl hT hget h6 hstep hyg hyn HSet hgood u0 u1
      generalize l[gs[k]].2 = st' at *
      generalize gs[k] = y at *
      go_upto_region 4 with (fail)
      clear hck
      have bd : Below wr.heap.size wr wr.drew := (Below.refl _ _).drew
      replace X0 := X0.below bd X0.lt
      replace X4 := X4.below bd X4.lt
      replace X7 := X7.below bd X7.lt
      replace hgb := gb_below hgb bd
      have hk2 : wr.drew.cell? ⟨w.heap.size, 2, none⟩ = some (.slice (some ⟨g5, 0, none⟩) l.length cap) := (X0.cell 2).trans rfl
      have q0 : wr.drew.cell? ⟨g5, y * 2, none⟩ = some (.int .i64 6) := (X7.cell _).trans U0.out
      have q1 : wr.drew.cell? ⟨g5, y * 2 + 1, none⟩ = some (.int .i64 st') := (X7.cell _).trans U1.out
      clear bd
      go_region_law (first
        | (go_simp; (with_reducible refine Calls.mono (HTC.out _) ?_); rintro e w5 ⟨rfl, b5⟩; replace X0 := X0.below b5 X0.lt; replace X4 := X4.below b5 X4.lt; replace X7 := X7.below b5 X7.lt; replace hgb := gb_below hgb b5; replace hk2 : w5.cell? ⟨w.heap.size, 2, none⟩ = some (.slice (some ⟨g5, 0, none⟩) l.length cap) := (X0.cell 2).trans rfl; replace q0 : w5.cell? ⟨g5, y * 2, none⟩ = some (.int .i64 6) := (X7.cell _).trans U0.out; replace q1 : w5.cell? ⟨g5, y * 2 + 1, none⟩ = some (.int .i64 st') := (X7.cell _).trans U1.out; have f0 := X7.frozen (y * 2); have f1 := X7.frozen (y * 2 + 1); clear b5)
        | fail)
      all_goals (go_wp2; go_roundw)
      all_goals first
        | (refine ⟨k + 1, by go_num, by omega, X0.two_far (by omega), ?_, fun _ => ⟨g4, rest4, rfl, X4.two_far (by omega)⟩, gb_set2 hgb⟩; rewrite [← HSet'.out]; exact (X7.set (y * 2) (.int .i64 6)).set (y * 2 + 1) (.int .i64 (1 - st')))
        | (simp [intOf]; omega)
        | fail
    · obtain rfl : k = gs.length := by omega
      rw [← HP.out] at X7
      go_wp2
      go_returns
      exact ⟨rfl, X7, hgb⟩
end Go.Proofs.YtlnekfbhpfhcpaaGreat
namespace Go.Proofs.YtlnekfbhpfhcpaaGreat
open Go.ChangeShapes Go.WideShapes Go.ChangeAt Go.RowKit Go.Joins Go.Deep
set_option linter.unusedSimpArgs false
set_option linter.unusedVariables false
set_option maxRecDepth 100000
set_option maxHeartbeats 8000000
theorem impl_turnBehind (r c g5 cap : Nat) (l : List (Int × Int)) (rest5 : List Value) (i : Nat) (w : World) (hG : Geo r c l.length) (hi : i < l.length) (hn : l.length ≤ 1048576) (hgd : ∀ x ∈ l, good x.1 x.2 = true)
    (X7 : Whole w g5 86 (flat l ++ rest5)) :
    Calls Tryz.prog 59 #[.agg #[.int .i64 (r : Int), .int .i64 (c : Int), .slice (some ⟨g5, 0, none⟩) l.length cap], .int .i64 (i : Int)] w
      fun e w' => e = .returned (.tuple #[]) ∧ Whole w' g5 86 (flat (passL (numL c l) l i) ++ rest5) ∧ w.grownBy w' (some g5) := by
  have hget : l.getD i (0, 0) = l[i] := by rw [List.getD_eq_getElem?_getD, List.getElem?_eq_getElem hi]; rfl
  have u0 : (flat l ++ rest5)[i * 2]? = some (.int .i64 (l.getD i (0, 0)).1) := by rw [hget, List.getElem?_append_left (by rw [flat_length]; omega), (flat_at _ i hi).1]
  have u1 : (flat l ++ rest5)[i * 2 + 1]? = some (.int .i64 (l.getD i (0, 0)).2) := by rw [hget, List.getElem?_append_left (by rw [flat_length]; omega), (flat_at _ i hi).2]
  have hgood : good (l.getD i (0, 0)).1 (l.getD i (0, 0)).2 = true := by rw [hget]; exact hgd _ (List.getElem_mem hi)
  have HY3 := Lib.hid (passL_flip (nm := numL c l) (l := l) (i := i))
  have HY0 := Lib.hid (passL_none (nm := numL c l) (l := l) (i := i))
  have HQ := Lib.hid (fun w (h6 : (l.getD i (0, 0)).1 = 6) X => impl_turnGroup r c g5 cap l rest5 i w hG hi h6 hn hgd X)
  have HSet := Lib.hid (fun x y => flat_set l i x y hi rest5)
  generalize (l.getD i (0, 0)).1 = kd at *
  generalize (l.getD i (0, 0)).2 = st at *
  generalize passL (numL c l) l i = P at *
  clear hgd hG hget
  have hc0 : w.cell? ⟨g5, i * 2, none⟩ = some (.int .i64 kd) := (X7.cell _).trans u0
  have U0 := Lib.hid u0
  have U1 := Lib.hid u1
  clear u0 u1
  have h5 := X7.lt
  have hb1 : Below w.heap.size w (w.alloc (.cells #[.int .i64 (r : Int), .int .i64 (c : Int), .slice (some ⟨g5, 0, none⟩) l.length cap] 25)) := (Below.refl _ _).alloc (Nat.le_refl _) _
  by_cases h3 : kd = 3
  · subst h3
    go_enter Tryz.func59, Tryz.ntmps59
    go_upto_region 3 with (fail)
    obtain ⟨v0, hv0⟩ : ∃ v, v = w.alloc (.cells #[.int .i64 (r : Int), .int .i64 (c : Int), .slice (some ⟨g5, 0, none⟩) l.length cap] 25) := ⟨_, rfl⟩
    have X0 : Whole v0 w.heap.size 25 [.int .i64 (r : Int), .int .i64 (c : Int), .slice (some ⟨g5, 0, none⟩) l.length cap] := by rw [hv0]; exact heap_alloc_new w _
    rewrite [← hv0] at hb1 ⊢
    clear hv0
    replace X7 := X7.below hb1 h5
    have hgb : w.grownBy v0 (some g5) := gb_below (gb_refl w g5) hb1
    have bd : Below v0.heap.size v0 v0.drew := (Below.refl _ _).drew
    replace X0 := X0.below bd X0.lt
    replace X7 := X7.below bd X7.lt
    replace hgb := gb_below hgb bd
    have HTC := Lib.hid (impl_TurnCell_ok 3 st hgood (.inl rfl))
    have hk2 : v0.drew.cell? ⟨w.heap.size, 2, none⟩ = some (.slice (some ⟨g5, 0, none⟩) l.length cap) := (X0.cell 2).trans rfl
    have q0 : v0.drew.cell? ⟨g5, i * 2, none⟩ = some (.int .i64 3) := (X7.cell _).trans U0.out
    have q1 : v0.drew.cell? ⟨g5, i * 2 + 1, none⟩ = some (.int .i64 st) := (X7.cell _).trans U1.out
    clear bd hc0 hb1 hgood
    go_region_law (first
      | (go_simp; (with_reducible refine Calls.mono (HTC.out _) ?_); rintro e w5 ⟨rfl, b5⟩; replace X0 := X0.below b5 X0.lt; replace X7 := X7.below b5 X7.lt; replace hgb := gb_below hgb b5; replace hk2 : w5.cell? ⟨w.heap.size, 2, none⟩ = some (.slice (some ⟨g5, 0, none⟩) l.length cap) := (X0.cell 2).trans rfl; replace q0 : w5.cell? ⟨g5, i * 2, none⟩ = some (.int .i64 3) := (X7.cell _).trans U0.out; replace q1 : w5.cell? ⟨g5, i * 2 + 1, none⟩ = some (.int .i64 st) := (X7.cell _).trans U1.out; have f0 := X7.frozen (i * 2); have f1 := X7.frozen (i * 2 + 1); clear b5)
      | fail)
    all_goals (go_wp2; go_returns)
    all_goals (refine ⟨rfl, ?_, gb_set2 hgb⟩; rewrite [HY3.out trivial, ← HSet.out]; exact (X7.set (i * 2) (.int .i64 3)).set (i * 2 + 1) (.int .i64 (1 - st)))
  · by_cases h6 : kd = 6
    · subst h6
      go_enter Tryz.func59, Tryz.ntmps59
      go_wp2_with fail
      have X7' := X7.below hb1 h5
      refine (HQ.out _ trivial X7').mono ?_; rintro e w5 ⟨rfl, Y, gb⟩
      have hg2 : w.grownBy w5 (some g5) := ⟨gb.os.trans hb1.os, gb.tape.trans hb1.tape, gb.output.trans hb1.output, Nat.le_trans hb1.size gb.size, fun k hk hne => (gb.block k (Nat.lt_of_lt_of_le hk hb1.size) hne).trans (hb1.block k hk)⟩
      clear hc0 gb hb1 X7' HQ
      go_wp2
      go_returns
      exact ⟨rfl, Y, hg2⟩
    · go_enter Tryz.func59, Tryz.ntmps59
      have hE := HY0.out h3 h6
      have HG := Lib.hid (gb_below (gb_refl w g5) hb1)
      have HX := Lib.hid (X7.below hb1 h5)
      rewrite [hE]
      clear hE hb1 HQ HY0 HY3
      go_wp2
      go_returns
      exact ⟨rfl, HX.out, HG.out⟩
end Go.Proofs.YtlnekfbhpfhcpaaGreat
namespace Go.Proofs.YtlnekfbhpfhcpaaGreat
open Go.ChangeShapes Go.WideShapes Go.ChangeAt Go.RowKit Go.Joins Go.Deep
set_option linter.unusedSimpArgs false
set_option linter.unusedVariables false
set_option maxRecDepth 100000
set_option maxHeartbeats 4000000
theorem impl_hasColumn (R C : Int) (A : Option Addr) (n cap : Nat) (j : Int) (w : World) :
    Calls Tryz.prog 56 #[.agg #[.int .i64 R, .int .i64 C, .slice A n cap], .int .i64 j] w fun e w' => e = .returned (.bool (decide (0 ≤ j ∧ j < C))) ∧ Below w.heap.size w w' := by
  have HE := Lib.hid (show decide (0 ≤ j ∧ j < C) = (decide (0 ≤ j) && decide (j < C)) by rw [Bool.eq_iff_iff]; simp)
  rewrite [HE.out]
  rcases Bool.eq_false_or_eq_true (decide (0 ≤ j)) with h0 | h0
  · have HD := Lib.hid h0
    rw [h0]
    have h1 := of_decide_eq_true h0
    clear HE
    go_enter Tryz.func56, Tryz.ntmps56
    go_wp2
    go_returns
    exact ⟨rfl, by (repeat' (first | (with_reducible exact Below.refl _ _) | (with_reducible assumption) | (with_reducible refine Below.alloc ?_ ?_ _) | (with_reducible refine Below.setCell ?_ ?_ _) | (with_reducible refine Below.drew ?_) | (with_reducible refine below_drewN ?_ _) | (with_reducible refine Below.trans ?_ (Below.mono (by assumption) ?_)) | (with_reducible exact Nat.le_refl _) | (simp; done) | omega | (simp at *; omega)))⟩
  · have h1 := of_decide_eq_false h0
    rw [h0]
    clear HE
    go_enter Tryz.func56, Tryz.ntmps56
    go_wp2
    go_returns
    exact ⟨rfl, by (repeat' (first | (with_reducible exact Below.refl _ _) | (with_reducible assumption) | (with_reducible refine Below.alloc ?_ ?_ _) | (with_reducible refine Below.setCell ?_ ?_ _) | (with_reducible refine Below.drew ?_) | (with_reducible refine below_drewN ?_ _) | (with_reducible refine Below.trans ?_ (Below.mono (by assumption) ?_)) | (with_reducible exact Nat.le_refl _) | (simp; done) | omega | (simp at *; omega)))⟩
def wayI (c : Nat) (wy : List (List Nat)) : List Int := wy.map fun p => ((p.getD 0 0 * c + p.getD 1 0 : Nat) : Int)
theorem wayI_len (c : Nat) (wy : List (List Nat)) : (wayI c wy).length = wy.length := by simp [wayI]
theorem wayI_push (c : Nat) (wy : List (List Nat)) (k cl : Nat) : ints (wayI c (wy ++ [[k, cl]])) = ints (wayI c wy) ++ [.int .i64 ((k * c + cl : Nat) : Int)] := by
  simp [wayI, ints]
/-- What letFall leaves behind: the cells met, the end, and its cells turned. -/
def PostM (w : World) (g5 : Nat) (rest5 : List Value) (c : Nat) (F : FlR) (e : Ending) (w' : World) : Prop :=
  ∃ A cp, e = .returned (.tuple #[.slice A F.way.length cp, .agg #[.int .i64 F.e, .int .i64 F.row, .int .i64 F.col]]) ∧ Own w' A 3 (ints (wayI c F.way)) ∧ New w A ∧ Whole w' g5 86 (flat F.cells ++ rest5) ∧ w.grownBy w' (some g5)
theorem gb_far {w v : World} {g : Nat} (h : w.grownBy v (some g)) {p : Addr} (hp : w.heap.size ≤ p.block) (u : Value) : w.grownBy (v.setCell p u) (some g) :=
  ⟨h.os, h.tape, h.output, by rw [World.size_setCell]; exact h.size, fun k hk hne => (Below.heap_setCell _ _ _ _ (by omega)).trans (h.block k hk hne)⟩
theorem gb_grown {w v v' : World} {g : Nat} {row : Option Nat} (h : w.grownBy v (some g)) (hg : v.grownBy v' row) (hrow : ∀ k, row = some k → w.heap.size ≤ k) : w.grownBy v' (some g) :=
  ⟨hg.os.trans h.os, hg.tape.trans h.tape, hg.output.trans h.output, Nat.le_trans h.size hg.size, fun k hk hne => (hg.block k (Nat.lt_of_lt_of_le hk h.size) (fun e => by have := hrow k e.symm; omega)).trans (h.block k hk hne)⟩
theorem gb_same {w v v' : World} {g : Nat} (h : w.grownBy v (some g)) (hg : v.grownBy v' (some g)) : w.grownBy v' (some g) :=
  ⟨hg.os.trans h.os, hg.tape.trans h.tape, hg.output.trans h.output, Nat.le_trans h.size hg.size, fun k hk hne => (hg.block k (Nat.lt_of_lt_of_le hk h.size) hne).trans (h.block k hk hne)⟩
theorem run_make_ints0 (n : Nat) (hn : n ≤ 1048576) (w : World) :
    (Instr.makeSlice 26 (.int .i64 0) (.int .i64 (n : Int))).run Tryz.prog w = .ok (.slice (some ⟨w.heap.size, 0, none⟩) 0 n) (w.alloc (.cells (zrow n).toArray 3)) := by
  obtain ⟨i0, hi, hz0, hz1, hz2⟩ := info_parts intInfo
  have h := run_make (P := Tryz.prog) w 26 3 i0 _ Tryz.underlying26 hi hz0 .i64 .i64 0 (n : Int) (by omega) (by omega) (by rw [hz2]; omega) (by omega)
  rw [hz1] at h
  simp only [Int.toNat_natCast] at h
  rw [h, made_ints]
  rfl
theorem row_far3 {w : World} {base : Nat} {e : TypeId} {size n : Nat} {v : Value} {xs : List Value} (h : w.ownsRow base e size v n xs) {a : Nat} (hne : some a ≠ v.ownBlock) (u0 u1 u2 : Value) : (((w.setCell ⟨a, 0, none⟩ u0).setCell ⟨a, 1, none⟩ u1).setCell ⟨a, 2, none⟩ u2).ownsRow base e size v n xs := by
  have one : ∀ {w : World} (p : Addr) (u : Value), w.ownsRow base e size v n xs → some p.block ≠ v.ownBlock → (w.setCell p u).ownsRow base e size v n xs := fun {w} p u h hne => by
    refine ⟨h.1, ?_⟩
    rcases h.2 with h2 | ⟨g, cap, cur, rfl, h2, hh, h3⟩
    · exact .inl h2
    · have hne' : g ≠ p.block := fun e' => hne (by simp [Value.ownBlock, e'])
      exact .inr ⟨g, cap, cur, rfl, h2, (Below.heap_setCell w p u g hne').trans hh, h3⟩
  exact one ⟨a, 2, none⟩ u2 (one ⟨a, 1, none⟩ u1 (one ⟨a, 0, none⟩ u0 h hne) hne) hne
theorem PostM.mk {w w' : World} {g5 a : Nat} {rest5 : List Value} {c : Nat} {v : Value} {n : Nat} {x y z p q s u0 u1 u2 : Value} {X Y Z : Int} {L : List (Int × Int)} {wy : List (List Nat)} (hx : x = .int .i64 X) (hy : y = .int .i64 Y) (hz : z = .int .i64 Z) (hn : wy.length = n)
    (hown : w'.ownsRow w.heap.size 3 1 v n (ints (wayI c wy))) (X1 : Whole w' a 50 [p, q, s]) (ha : w.heap.size ≤ a) (hne : a ≠ g5) (X7 : Whole w' g5 86 (flat L ++ rest5)) (gb : w.grownBy w' (some g5)) :
    PostM w g5 rest5 c ⟨X, Y, Z, L, wy⟩ (.returned (.tuple #[v, .agg #[x, y, z]])) (((w'.setCell ⟨a, 0, none⟩ u0).setCell ⟨a, 1, none⟩ u1).setCell ⟨a, 2, none⟩ u2) := by
  subst hx hy hz hn
  have h1 := row_far3 hown (row_apart hown X1 (by decide)) u0 u1 u2
  obtain ⟨A, cp, rfl⟩ := slice_of_row h1
  have ho := own_of_row h1
  exact ⟨A, cp, rfl, ho.1, ho.2, three_far X7 hne, gb_far (gb_far (gb_far gb (p := ⟨a, 0, none⟩) ha u0) (p := ⟨a, 1, none⟩) ha u1) (p := ⟨a, 2, none⟩) ha u2⟩
theorem PostM.drew {w w' : World} {g5 : Nat} {rest5 : List Value} {c : Nat} {F : FlR} {e : Ending} (h : PostM w g5 rest5 c F e w') : PostM w g5 rest5 c F e w'.drew := by
  obtain ⟨A, cp, h1, h2, h3, h4, h5⟩ := h
  exact ⟨A, cp, h1, h2.keep ((Below.refl _ _).drew), h3, h4.below ((Below.refl _ _).drew) h4.lt, gb_below h5 ((Below.refl _ _).drew)⟩
theorem impl_letFall (r c g5 cap : Nat) (l : List (Int × Int)) (rest5 : List Value) (col : Nat) (w : World) (hG : Geo r c l.length) (hgd : goodB (r : Int) (c : Int) l = true) (hcol : col < c) (X7 : Whole w g5 86 (flat l ++ rest5)) :
    Calls Tryz.prog 34 #[.agg #[.int .i64 (r : Int), .int .i64 (c : Int), .slice (some ⟨g5, 0, none⟩) l.length cap], .int .i64 (col : Int)] w (PostM w g5 rest5 c (flG (numL c l) r c r 0 l col 0 [])) := by
  obtain ⟨s1, s2, s3, s4⟩ := sizeB_iff.1 (goodB_iff.1 hgd).1
  have hgd2 := (goodB_iff.1 hgd).2.2
  have n90 := hG.n90
  have HRC := Lib.hid hG.cells
  have HGe := Lib.hid hG
  obtain ⟨i0, hi, hz0, hz1, hz2⟩ := info_parts intInfo
  have hmk := run_make_ints0 r (by omega)
  have h5w := X7.lt
  clear hgd hG
  go_enter Tryz.func34, Tryz.ntmps34
  obtain ⟨v0, hv0, X0, X1, B0, hz0⟩ := two_boxes w [.int .i64 (r : Int), .int .i64 (c : Int), .slice (some ⟨g5, 0, none⟩) l.length cap] 25 [.int .i64 0, .int .i64 0, .int .i64 0] 50
  have HV := Lib.hid hv0
  have HZ := Lib.hid hz0
  have hz : w.heap.size + 1 < v0.heap.size := by omega
  have hy : w.heap.size < v0.heap.size := by omega
  have hb0 := B0.size
  clear hv0 hz0
  go_wp2_with fail
  rewrite [show (w.alloc (.cells ([.int .i64 (r : Int), .int .i64 (c : Int), .slice (some ⟨g5, 0, none⟩) l.length cap] : List Value).toArray 25)).alloc (.cells ([.int .i64 0, .int .i64 0, .int .i64 0] : List Value).toArray 50) = v0 from HV.out]
  clear HV
  have hgb : w.grownBy v0 (some g5) := gb_below (gb_refl w g5) B0
  replace X7 := X7.below B0 h5w
  have X0k0 : v0.cell? ⟨w.heap.size, 0, none⟩ = some (.int .i64 (r : Int)) := (X0.cell 0).trans rfl; have X0k1 : v0.cell? ⟨w.heap.size, 1, none⟩ = some (.int .i64 (c : Int)) := (X0.cell 1).trans rfl; have X0k2 : v0.cell? ⟨w.heap.size, 2, none⟩ = some (.slice (some ⟨g5, 0, none⟩) l.length cap) := (X0.cell 2).trans rfl
  go_upto_region 2 with (fail)
  clear X0k0 X0k1 X0k2
  have hown := World.ownsRow_made (e := 3) (size := 1) (base := w.heap.size) v0 (zrow r).toArray r (by omega) (by unfold maxLen; omega) (by simp [zrow])
  have ba : Below v0.heap.size v0 (v0.alloc (.cells (zrow r).toArray 3)) := (Below.refl _ _).alloc (Nat.le_refl _) _
  replace X0 := X0.below ba X0.lt
  replace X1 := X1.below ba X1.lt
  replace X7 := X7.below ba X7.lt
  replace hgb := gb_below hgb ba
  clear ba B0 hb0 hmk
  generalize v0.alloc (.cells (zrow r).toArray 3) = v1 at *
  rw [HZ.out] at hown
  clear HZ
  generalize v0.heap.size = G at *
  have X0k0 : v1.cell? ⟨w.heap.size, 0, none⟩ = some (.int .i64 (r : Int)) := (X0.cell 0).trans rfl; have X0k1 : v1.cell? ⟨w.heap.size, 1, none⟩ = some (.int .i64 (c : Int)) := (X0.cell 1).trans rfl; have X0k2 : v1.cell? ⟨w.heap.size, 2, none⟩ = some (.slice (some ⟨g5, 0, none⟩) l.length cap) := (X0.cell 2).trans rfl
  go_wp2
  clear X0k0 X0k1 X0k2
  obtain ⟨F, hF⟩ : ∃ F, flG (numL c l) r c r 0 l col 0 [] = F := ⟨_, rfl⟩
  have hF0 : flG (numL c l) r c (r - 0) 0 l col 0 [] = F := hF
  have HFq := Lib.hid hF
  generalize hnm : numL c l = nm at *
  clear hF
  go_loopw [1, 6, 7, 17] (fun cv wv sv rv wr => ∃ (k cl : Nat) (d : Int) (lk : List (Int × Int)) (wy : List (List Nat)), rv = .int .i64 k ∧ cv = .int .i64 cl ∧ sv = .int .i64 d ∧ k ≤ r ∧ cl < c ∧ -1 ≤ d ∧ d ≤ 1 ∧ lk.length = l.length ∧ (∀ x ∈ lk, good x.1 x.2 = true) ∧ wy.length = k ∧ numL c lk = nm ∧ flG nm r c (r - k) k lk cl d wy = F ∧
    Whole wr w.heap.size 25 [.int .i64 (r : Int), .int .i64 (c : Int), .slice (some ⟨g5, 0, none⟩) l.length cap] ∧ Whole wr (w.heap.size + 1) 50 [.int .i64 0, .int .i64 0, .int .i64 0] ∧ Whole wr g5 86 (flat lk ++ rest5) ∧ wr.ownsRow w.heap.size 3 1 wv wy.length (ints (wayI c wy)) ∧ w.grownBy wr (some g5)) (fun _ _ _ rv _ => r - (intOf rv).toNat)
  case atStart => exact ⟨0, col, 0, l, [], rfl, rfl, rfl, Nat.zero_le _, hcol, by omega, by omega, rfl, hgd2, rfl, hnm, hF0, X0, X1, X7, hown, hgb⟩
  case round =>
    clear X0 X1 X7 hown hgb hz hy hF0 hgd2 hcol hnm
    obtain ⟨k, cl, d, lk, wy, rfl, rfl, rfl, hk, hcl, hd1, hd2, hlk, hgk, hwy, hnm, hF, X0, X1, X7, hown, hgb⟩ := hrel
    have hs := hgb.size
    have hyw := X0.lt
    have hzw := X1.lt
    by_cases hlt : k < r
    · have hidx : k * c + cl < l.length := by
        have h1 := Nat.mul_le_mul (show k + 1 ≤ r by omega) (Nat.le_refl c)
        rw [Nat.succ_mul] at h1
        have := HRC.out
        omega
      have hGk : Geo r c lk.length := by rw [hlk]; exact HGe.out
      have u0 : (flat lk ++ rest5)[(k * c + cl) * 2]? = some (.int .i64 (lk.getD (k * c + cl) (0, 0)).1) := by
        rw [List.getD_eq_getElem?_getD, List.getElem?_eq_getElem (show k * c + cl < lk.length by omega), List.getElem?_append_left (by rw [flat_length]; omega), (flat_at _ (k * c + cl) (by omega)).1]; rfl
      have u1 : (flat lk ++ rest5)[(k * c + cl) * 2 + 1]? = some (.int .i64 (lk.getD (k * c + cl) (0, 0)).2) := by
        rw [List.getD_eq_getElem?_getD, List.getElem?_eq_getElem (show k * c + cl < lk.length by omega), List.getElem?_append_left (by rw [flat_length]; omega), (flat_at _ (k * c + cl) (by omega)).2]; rfl
      have hxg : good (lk.getD (k * c + cl) (0, 0)).1 (lk.getD (k * c + cl) (0, 0)).2 = true := by
        rw [List.getD_eq_getElem?_getD, List.getElem?_eq_getElem (by omega)]
        exact hgk _ (List.getElem_mem _)
      have HSt := Lib.hid (flG_step nm r c (r - k - 1) k lk cl d wy _ _ rfl rfl)
      have er : r - k = r - k - 1 + 1 := by omega
      rw [er] at hF
      have HTB := Lib.hid (fun w0 X => impl_turnBehind r c g5 cap lk rest5 (k * c + cl) w0 hGk (by omega) (by omega) hgk X)
      rw [hnm, hlk] at HTB
      have HPg := Lib.hid (passL_good (nm := nm) (show k * c + cl < lk.length by omega) hgk)
      have HPl := Lib.hid ((passL_len nm lk (k * c + cl)).trans hlk)
      have HPn := Lib.hid ((passL_num c nm lk (k * c + cl)).trans hnm)
      have m1 : IntKind.i64.wrap ((k : Int) * (c : Int)) = (k : Int) * (c : Int) := by
        have e : (k : Int) * (c : Int) = ((k * c : Nat) : Int) := by push_cast; rfl
        rw [e]; exact IntWalk.i64_in _ (by omega)
      have m2 : IntKind.i64.wrap ((k : Int) * (c : Int) + (cl : Int)) = ((k * c + cl : Nat) : Int) := by
        have e : (k : Int) * (c : Int) + (cl : Int) = ((k * c + cl : Nat) : Int) := by push_cast; rfl
        rw [e]; exact IntWalk.i64_in _ (by omega)
      have HWp := Lib.hid (wayI_push c wy k cl)
      have hwl : (wy ++ [[k, cl]]).length = k + 1 := by rw [List.length_append, hwy]; rfl
      have HWl := Lib.hid hwl
      have HL9 := Lib.hid hlk
      clear hGk hgk hnm hlk hwl
      generalize (lk.getD (k * c + cl) (0, 0)).1 = kd at *
      generalize (lk.getD (k * c + cl) (0, 0)).2 = st at *
      have HFS := Lib.hid (HSt.out.symm.trans hF)
      clear HSt hF er
      rw [hwy] at hown
      have HWy := Lib.hid hwy
      clear hwy
      generalize hix : k * c + cl = ix at *
      have HIx := Lib.hid hix
      clear hix
      have X0k0 : wr.cell? ⟨w.heap.size, 0, none⟩ = some (.int .i64 (r : Int)) := (X0.cell 0).trans rfl; have X0k1 : wr.cell? ⟨w.heap.size, 1, none⟩ = some (.int .i64 (c : Int)) := (X0.cell 1).trans rfl; have X0k2 : wr.cell? ⟨w.heap.size, 2, none⟩ = some (.slice (some ⟨g5, 0, none⟩) l.length cap) := (X0.cell 2).trans rfl
      go_upto_region 8 with (first | (at_builtin; refine wpList_append_own _ rfl (.tmp 26) (.tmp 28) 26 rfl w.heap.size 3 i0 _ 1 8 Tryz.underlying26 hi hz0 hz1 hz2 rfl (by omega) _ k (ints (wayI c wy)) rfl (hown.alloc _) ⟨wr.heap.size, 0, none⟩ 1 1 [.int .i64 (ix : Int)] rfl rfl one_cellI one_oneI (by unfold maxLen; omega) (by omega) (by simp; omega) ?_; intro v3 w3 hown3 hg3 _) | fail)
      clear X0k0 X0k1 X0k2
      have hYa := hown.alloc (.cells #[.int .i64 (ix : Int)] 3)
      replace X0 := (X0.alloc (.cells #[.int .i64 (ix : Int)] 3)).grown hg3 (row_apart hYa (X0.alloc _) (by decide))
      replace X1 := (X1.alloc (.cells #[.int .i64 (ix : Int)] 3)).grown hg3 (row_apart hYa (X1.alloc _) (by decide))
      replace X7 := (X7.alloc (.cells #[.int .i64 (ix : Int)] 3)).grown hg3 (row_apart hYa (X7.alloc _) (by decide))
      replace hgb := gb_grown (gb_below hgb ((Below.refl _ _).alloc (Nat.le_refl _) (.cells #[.int .i64 (ix : Int)] 3))) hg3 (fun k e => (hYa.lt k e).1)
      replace hs := hgb.size
      rw [← HWp.out] at hown3
      clear hown hYa hg3 HWp m1 m2
      have hc0 : w3.cell? ⟨g5, ix * 2, none⟩ = some (.int .i64 kd) := (X7.cell _).trans u0
      have hc1 : w3.cell? ⟨g5, ix * 2 + 1, none⟩ = some (.int .i64 st) := (X7.cell _).trans u1
      clear u0 u1
      have hg5 := X7.lt
      have X0k0 : w3.cell? ⟨w.heap.size, 0, none⟩ = some (.int .i64 (r : Int)) := (X0.cell 0).trans rfl; have X0k1 : w3.cell? ⟨w.heap.size, 1, none⟩ = some (.int .i64 (c : Int)) := (X0.cell 1).trans rfl; have X0k2 : w3.cell? ⟨w.heap.size, 2, none⟩ = some (.slice (some ⟨g5, 0, none⟩) l.length cap) := (X0.cell 2).trans rfl
      go_wp2_with fail
      refine (impl_GoesTo kd st d _).mono ?_; rintro e w4 ⟨rfl, b4⟩
      clear hc0 hc1
      clear X0k0 X0k1 X0k2
      replace X0 := X0.below b4 X0.lt
      replace X1 := X1.below b4 X1.lt
      replace X7 := X7.below b4 X7.lt
      replace hgb := gb_below hgb b4
      replace hown3 := row_keep hown3 b4
      clear b4
      by_cases h5k : kd = 5
      · have HF := HFS.out
        rw [if_pos h5k] at HF
        have HEq := Lib.hid (HFq.out.trans HF.symm)
        clear HF HFS HTB
        subst h5k
        rewrite [show goB 5 st d = false by unfold goB; simp]
        have X1k0 : w4.cell? ⟨w.heap.size + 1, 0, none⟩ = some (.int .i64 0) := (X1.cell 0).trans rfl; have X1k1 : w4.cell? ⟨w.heap.size + 1, 1, none⟩ = some (.int .i64 0) := (X1.cell 1).trans rfl; have X1k2 : w4.cell? ⟨w.heap.size + 1, 2, none⟩ = some (.int .i64 0) := (X1.cell 2).trans rfl
        have X1f0 := X1.frozen 0; have X1f1 := X1.frozen 1; have X1f2 := X1.frozen 2
        go_wp2
        (refine bodyPost_ret (v := .tuple #[v3, .agg #[.int .i64 2, .int .i64 (k : Int), .int .i64 (cl : Int)]]) ?_ rfl ?_); (focus (simp [results, Tryz.results34, go_sem, *]; done)); rewrite [HEq.out]
        exact PostM.mk rfl rfl rfl HWl.out hown3 X1 (by omega) (by omega) X7 hgb
      · rw [if_neg h5k] at HFS
        obtain ⟨hg1, hg2⟩ := goN_range hxg hd1 hd2
        rewrite [show goB kd st d = true by unfold goB; rw [hxg, decide_eq_true ⟨hd1, hd2, h5k⟩]; rfl, show selI true (goN kd st d) = goN kd st d from rfl]
        generalize goN kd st d = gs at *
        have m3 : IntKind.i64.wrap ((cl : Int) + gs) = (cl : Int) + gs := IntWalk.i64_in _ (by omega)
        have m4 : IntKind.i64.wrap (-gs) = -gs := IntWalk.i64_in _ (by omega)
        have X0k0 : w4.cell? ⟨w.heap.size, 0, none⟩ = some (.int .i64 (r : Int)) := (X0.cell 0).trans rfl; have X0k1 : w4.cell? ⟨w.heap.size, 1, none⟩ = some (.int .i64 (c : Int)) := (X0.cell 1).trans rfl; have X0k2 : w4.cell? ⟨w.heap.size, 2, none⟩ = some (.slice (some ⟨g5, 0, none⟩) l.length cap) := (X0.cell 2).trans rfl
        go_wp2_with fail
        refine (HTB.out _ X7).mono ?_; rintro e w7 ⟨rfl, X7', gb⟩
        clear X0k0 X0k1 X0k2
        have n5 : ∀ {g : Nat}, g ≠ g5 → some g ≠ some g5 := fun h e => h (by injection e)
        have hne3 := row_apart hown3 X7 (by decide)
        replace X0 := X0.grown gb (n5 (by omega))
        replace X1 := X1.grown gb (n5 (by omega))
        replace hown3 := World.ownsRow.kept hown3 gb (.inr (fun e => hne3 e.symm))
        replace hgb := gb_same hgb gb
        replace hs := hgb.size
        replace X7 := X7'
        clear gb X7' HTB n5 hne3
        by_cases hin2 : 0 ≤ (cl : Int) + gs ∧ (cl : Int) + gs < (c : Int)
        · have HF := HFS.out
          rw [if_pos hin2] at HF
          have HB := Lib.hid (decide_eq_true hin2)
          have HNx := Lib.hid (show ((cl : Int) + gs) = ((((cl : Int) + gs).toNat : Nat) : Int) by omega)
          have HF' := Lib.hid (show flG nm r c (r - (k + 1)) (k + 1) (passL nm lk ix) ((cl : Int) + gs).toNat (-gs) (wy ++ [[k, cl]]) = F by rw [show r - (k + 1) = r - k - 1 by omega]; exact HF)
          clear HFS HF
          have X0k0 : w7.cell? ⟨w.heap.size, 0, none⟩ = some (.int .i64 (r : Int)) := (X0.cell 0).trans rfl; have X0k1 : w7.cell? ⟨w.heap.size, 1, none⟩ = some (.int .i64 (c : Int)) := (X0.cell 1).trans rfl; have X0k2 : w7.cell? ⟨w.heap.size, 2, none⟩ = some (.slice (some ⟨g5, 0, none⟩) l.length cap) := (X0.cell 2).trans rfl
          go_wp2_with fail
          refine (impl_hasColumn _ _ _ _ _ _ _).mono ?_; rintro e w8 ⟨rfl, b8⟩
          rewrite [HB.out]
          clear X0k0 X0k1 X0k2
          replace X0 := X0.below b8 X0.lt
          replace X1 := X1.below b8 X1.lt
          replace X7 := X7.below b8 X7.lt
          replace hgb := gb_below hgb b8
          replace hown3 := row_keep hown3 b8
          clear b8
          go_wp2
          go_roundw
          case rel => exact ⟨k + 1, ((cl : Int) + gs).toNat, -gs, passL nm lk ix, wy ++ [[k, cl]], by go_num, by rw [← HNx.out], rfl, by omega, by omega, by omega, by omega, HPl.out, HPg.out, HWl.out, HPn.out, HF'.out, X0, X1, X7, by rw [HWl.out]; exact hown3, hgb⟩
          case measure => simp [intOf]; omega
        · have HF := HFS.out
          rw [if_neg hin2] at HF
          have HEq := Lib.hid (HFq.out.trans HF.symm)
          have HB := Lib.hid (decide_eq_false hin2)
          clear HF HFS hin2
          have X0k0 : w7.cell? ⟨w.heap.size, 0, none⟩ = some (.int .i64 (r : Int)) := (X0.cell 0).trans rfl; have X0k1 : w7.cell? ⟨w.heap.size, 1, none⟩ = some (.int .i64 (c : Int)) := (X0.cell 1).trans rfl; have X0k2 : w7.cell? ⟨w.heap.size, 2, none⟩ = some (.slice (some ⟨g5, 0, none⟩) l.length cap) := (X0.cell 2).trans rfl
          go_wp2_with fail
          refine (impl_hasColumn _ _ _ _ _ _ _).mono ?_; rintro e w8 ⟨rfl, b8⟩
          rewrite [HB.out]
          clear X0k0 X0k1 X0k2
          replace X1 := X1.below b8 X1.lt
          replace X7 := X7.below b8 X7.lt
          replace hgb := gb_below hgb b8
          replace hown3 := row_keep hown3 b8
          clear b8
          have X1k0 : w8.cell? ⟨w.heap.size + 1, 0, none⟩ = some (.int .i64 0) := (X1.cell 0).trans rfl; have X1k1 : w8.cell? ⟨w.heap.size + 1, 1, none⟩ = some (.int .i64 0) := (X1.cell 1).trans rfl; have X1k2 : w8.cell? ⟨w.heap.size + 1, 2, none⟩ = some (.int .i64 0) := (X1.cell 2).trans rfl
          have X1f0 := X1.frozen 0; have X1f1 := X1.frozen 1; have X1f2 := X1.frozen 2
          go_wp2
          (refine bodyPost_ret (v := .tuple #[v3, .agg #[.int .i64 3, .int .i64 (k : Int), .int .i64 ((cl : Int) + gs)]]) ?_ rfl ?_); (focus (simp [results, Tryz.results34, go_sem, *]; done)); rewrite [HEq.out]
          exact PostM.mk rfl rfl rfl HWl.out hown3 X1 (by omega) (by omega) X7 hgb
    · obtain rfl : k = r := by omega
      have HEq : Hid (flG nm k c k 0 l col 0 [] = ⟨1, k, cl, lk, wy⟩) := Lib.hid (HFq.out.trans (by rw [← hF, Nat.sub_self]; rfl))
      clear hF HFq
      rw [hwy] at hown
      have X0k0 : wr.cell? ⟨w.heap.size, 0, none⟩ = some (.int .i64 (k : Int)) := (X0.cell 0).trans rfl; have X0k1 : wr.cell? ⟨w.heap.size, 1, none⟩ = some (.int .i64 (c : Int)) := (X0.cell 1).trans rfl; have X0k2 : wr.cell? ⟨w.heap.size, 2, none⟩ = some (.slice (some ⟨g5, 0, none⟩) l.length cap) := (X0.cell 2).trans rfl
      have X1k0 : wr.cell? ⟨w.heap.size + 1, 0, none⟩ = some (.int .i64 0) := (X1.cell 0).trans rfl; have X1k1 : wr.cell? ⟨w.heap.size + 1, 1, none⟩ = some (.int .i64 0) := (X1.cell 1).trans rfl; have X1k2 : wr.cell? ⟨w.heap.size + 1, 2, none⟩ = some (.int .i64 0) := (X1.cell 2).trans rfl
      have X1f0 := X1.frozen 0; have X1f1 := X1.frozen 1; have X1f2 := X1.frozen 2
      have z0 := X0.lt
      have z1 := X1.lt
      go_upto_region 17 with (fail)
      go_region
      go_wp2
      (refine bodyPost_ret (v := .tuple #[u6, .agg #[.int .i64 1, .int .i64 (k : Int), .int .i64 (cl : Int)]]) ?_ rfl ?_); (focus (simp [results, Tryz.results34, go_sem, *]; done)); rewrite [HEq.out]
      exact (PostM.mk rfl rfl rfl hwy hown X1 (by omega) (by omega) X7 hgb).drew
end Go.Proofs.YtlnekfbhpfhcpaaGreat
namespace Go.Proofs.YtlnekfbhpfhcpaaGreat
open Go.ChangeShapes Go.WideShapes Go.ChangeAt Go.RowKit Go.Joins Go.Deep
set_option linter.unusedSimpArgs false
set_option linter.unusedVariables false
set_option maxRecDepth 100000
set_option maxHeartbeats 4000000
/-- What fallAlone hands back: the cells met, and the end; nothing that was there has changed. -/
def PostN (w : World) (c : Nat) (F : FlR) (e : Ending) (w' : World) : Prop :=
  ∃ A cp, e = .returned (.tuple #[.slice A F.way.length cp, .agg #[.int .i64 F.e, .int .i64 F.row, .int .i64 F.col]]) ∧ Own w' A 3 (ints (wayI c F.way)) ∧ New w A ∧ Below w.heap.size w w'
theorem impl_fallAlone (r c b o cap : Nat) (l : List (Int × Int)) (col : Nat) (w : World) (hgd : goodB (r : Int) (c : Int) l = true) (hr : Rd w w.heap.size (some ⟨b, o, none⟩) (flat l)) (hcol : col < c) :
    Calls Tryz.prog 42 #[.agg #[.int .i64 (r : Int), .int .i64 (c : Int), .slice (some ⟨b, o, none⟩) l.length cap], .int .i64 (col : Int)] w (PostN w c (marO (r : Int) (c : Int) l (col : Int))) := by
  obtain ⟨r', c', er, ec, hG⟩ := geo_of hgd
  obtain rfl : r = r' := by omega
  obtain rfl : c = c' := by omega
  obtain ⟨_, h90, hpos⟩ := goodB_parts hgd
  have HM := Lib.hid (show marO (r : Int) (c : Int) l (col : Int) = flG (numL c l) r c r 0 l col 0 [] from rfl)
  rewrite [HM.out]
  clear HM er ec
  go_enter Tryz.func42, Tryz.ntmps42
  obtain ⟨v0, hv0, X0, X1, B0, hz0⟩ := two_boxes w [.int .i64 (r : Int), .int .i64 (c : Int), .slice (some ⟨b, o, none⟩) l.length cap] 25 [.int .i64 0, .int .i64 0, .int .i64 0] 50; have HV := Lib.hid hv0; have hz : w.heap.size + 1 < v0.heap.size := (by omega); have hy : w.heap.size < v0.heap.size := (by omega); have hb0 := B0.size; clear hv0 hz0; go_wp2_with fail; rewrite [show (w.alloc (.cells ([.int .i64 (r : Int), .int .i64 (c : Int), .slice (some ⟨b, o, none⟩) l.length cap] : List Value).toArray 25)).alloc (.cells ([.int .i64 0, .int .i64 0, .int .i64 0] : List Value).toArray 50) = v0 from HV.out]; clear HV
  have X0k0 : v0.cell? ⟨w.heap.size, 0, none⟩ = some (.int .i64 (r : Int)) := (X0.cell 0).trans rfl; have X0k1 : v0.cell? ⟨w.heap.size, 1, none⟩ = some (.int .i64 (c : Int)) := (X0.cell 1).trans rfl; have X0k2 : v0.cell? ⟨w.heap.size, 2, none⟩ = some (.slice (some ⟨b, o, none⟩) l.length cap) := (X0.cell 2).trans rfl
  go_wp2_with fail
  refine (impl_cloneBoard (r : Int) (c : Int) b o cap l _ (by omega) ((hr.below B0).mono B0.size)).mono ?_; rintro e w1 ⟨A5, c5, rfl, o5, n5, b1⟩
  clear X0k0 X0k1 X0k2
  obtain ⟨g5, rest5, rfl, X7⟩ := o5 (by rw [flat_length]; omega)
  have h5 : v0.heap.size ≤ g5 := n5 _ rfl
  clear n5 o5
  replace X0 := X0.below b1 X0.lt; replace X1 := X1.below b1 X1.lt; replace B0 := B0.trans (b1.mono B0.size); have hy := X0.lt; have hz := X1.lt; have hb0 := B0.size; clear b1
  go_wp2_with fail
  refine (impl_letFall r c g5 c5 l rest5 col _ hG hgd hcol X7).mono ?_; rintro e w2 ⟨A, cp, rfl, oA, nA, X7', gb⟩
  have hs := B0.size
  have B1 : Below w.heap.size w w2 := B0.grown gb hs (fun k e => by cases e; omega)
  have Z1 := X1.grown gb (fun e => by injection e with e; omega)
  have hA : ∀ a, A = some a → w.heap.size ≤ a.block := fun a ha => Nat.le_trans hs (nA a ha)
  clear X0 X1 X7 X7' gb nA B0 hb0 hy hz
  generalize flG (numL c l) r c r 0 l col 0 [] = F at *
  have Z1k0 : w2.cell? ⟨w.heap.size + 1, 0, none⟩ = some (.int .i64 0) := (Z1.cell 0).trans rfl; have Z1k1 : w2.cell? ⟨w.heap.size + 1, 1, none⟩ = some (.int .i64 0) := (Z1.cell 1).trans rfl; have Z1k2 : w2.cell? ⟨w.heap.size + 1, 2, none⟩ = some (.int .i64 0) := (Z1.cell 2).trans rfl
  have Z1f0 := Z1.frozen 0; have Z1f1 := Z1.frozen 1; have Z1f2 := Z1.frozen 2
  go_wp2
  refine bodyPost_ret (v := .tuple #[.slice A F.way.length cp, .agg #[.int .i64 F.e, .int .i64 F.row, .int .i64 F.col]]) ?_ rfl ?_; (focus (simp [results, Tryz.results42, go_sem, *]; done))
  exact ⟨A, cp, rfl, own_three oA Z1 (by decide), hA, ((B1.setCell (p := ⟨w.heap.size + 1, 0, none⟩) (by show w.heap.size ≤ w.heap.size + 1; omega) _).setCell (p := ⟨w.heap.size + 1, 1, none⟩) (by show w.heap.size ≤ w.heap.size + 1; omega) _).setCell (p := ⟨w.heap.size + 1, 2, none⟩) (by show w.heap.size ≤ w.heap.size + 1; omega) _⟩
theorem inI_lt {C x : Int} : inI 0 (C - 1) x = decide (0 ≤ x ∧ x < C) := by
  unfold inI
  rw [Bool.eq_iff_iff]
  simp
  omega
theorem okC'_one (R C : Int) (l : List (Int × Int)) (j : Int) : okC' R C l [j] = okF R C l j := by
  unfold okC' okF allI
  rw [List.all_cons, List.all_nil, Bool.and_true, inI_lt]
  simp
theorem impl_areEntries (R C : Int) (A : Option Addr) (cap : Nat) (l : List (Int × Int)) (A' : Option Addr) (cap' : Nat) (cs : List Int) (w : World) (hn : l.length ≤ 1048576) (hn' : cs.length ≤ 1048576) (hr : Rd w w.heap.size A (flat l)) (hr' : Rd w w.heap.size A' (ints cs)) :
    Calls Tryz.prog 32 #[.agg #[.int .i64 R, .int .i64 C, .slice A l.length cap], .slice A' cs.length cap'] w fun e w' => e = .returned (.bool (okC' R C l cs)) ∧ Below w.heap.size w w' := by
  unfold okC'
  rcases Bool.eq_false_or_eq_true (goodB R C l) with hg | hg
  · have HG := Lib.hid hg
    rw [hg]
    clear hg
    by_cases h60 : cs.length ≤ 60
    · have hd : decide ((60 : Int) < (cs.length : Int)) = false := by simp; omega
      have HE := Lib.hid (show (true && decide (cs.length ≤ 60) && allI 0 (C - 1) cs) = allI 0 (C - 1) cs by rw [decide_eq_true h60]; rfl)
      rewrite [HE.out]
      have HB := Lib.hid (fun k (hk : k < cs.length) h => allI_bad (lo := 0) (hi := C - 1) hk h)
      have HAl := Lib.hid (fun (h : ∀ k (hk : k < cs.length), inI 0 (C - 1) cs[k] = true) => (show allI 0 (C - 1) cs = true from by
        unfold allI
        rw [List.all_eq_true]
        intro x hx
        obtain ⟨k, hk, rfl⟩ := List.mem_iff_getElem.1 hx
        exact h k hk))
      clear HE
      go_enter Tryz.func32, Tryz.ntmps32
      obtain ⟨v0, hv0⟩ : ∃ v, v = w.alloc (.cells #[.int .i64 R, .int .i64 C, .slice A l.length cap] 25) := ⟨_, rfl⟩; have X0 : Whole v0 w.heap.size 25 [.int .i64 R, .int .i64 C, .slice A l.length cap] := (by rw [hv0]; exact heap_alloc_new w _); have hb : Below w.heap.size w v0 := (by rw [hv0]; exact (Below.refl _ _).alloc (Nat.le_refl _) _); have HV := Lib.hid hv0.symm; clear hv0; go_upto_region 1 with (fail); rewrite [HV.out]; clear HV; have X0k0 : v0.cell? ⟨w.heap.size, 0, none⟩ = some (.int .i64 R) := (X0.cell 0).trans rfl; have X0k1 : v0.cell? ⟨w.heap.size, 1, none⟩ = some (.int .i64 C) := (X0.cell 1).trans rfl; have X0k2 : v0.cell? ⟨w.heap.size, 2, none⟩ = some (.slice A l.length cap) := (X0.cell 2).trans rfl
      go_wp2_with fail
      refine (impl_IsBoard _ _ _ _ l _ hn ((hr.below hb).mono hb.size)).mono ?_; rintro e w1 ⟨rfl, b1⟩
      rewrite [HG.out]
      (clear X0k0 X0k1 X0k2; replace X0 := X0.below b1 X0.lt; replace hb := hb.trans (b1.mono hb.size); clear b1; have X0k0 : w1.cell? ⟨w.heap.size, 0, none⟩ = some (.int .i64 R) := (X0.cell 0).trans rfl; have X0k1 : w1.cell? ⟨w.heap.size, 1, none⟩ = some (.int .i64 C) := (X0.cell 1).trans rfl; have X0k2 : w1.cell? ⟨w.heap.size, 2, none⟩ = some (.slice A l.length cap) := (X0.cell 2).trans rfl)
      clear X0k0 X0k1 X0k2
      go_wp2
      go_loopw [17] (fun i wr => ∃ k : Nat, i = .int .i64 k ∧ k ≤ cs.length ∧ (∀ j (hj : j < cs.length), j < k → inI 0 (C - 1) cs[j] = true) ∧ Whole wr w.heap.size 25 [.int .i64 R, .int .i64 C, .slice A l.length cap] ∧ Below w.heap.size w wr) (fun i _ => cs.length - (intOf i).toNat)
      case atStart => exact ⟨0, rfl, Nat.zero_le _, fun j _ h => absurd h (Nat.not_lt_zero j), X0, hb⟩
      case round =>
        clear X0 hb
        obtain ⟨k, rfl, hk, hall, X0, hb⟩ := hrel
        by_cases hlt : k < cs.length
        · obtain ⟨b, o, rfl, hbl, hc⟩ := hr' (by rw [ints_length]; omega)
          have hck := (hb.cell (p := ⟨b, o + k, none⟩) hbl).trans (hc k _ (ints_at cs k hlt))
          have HBk := Lib.hid (HB.out k hlt)
          have hall' : inI 0 (C - 1) cs[k] = true → ∀ j (hj : j < cs.length), j < k + 1 → inI 0 (C - 1) cs[j] = true := fun h j hj hjk => by
            rcases Nat.lt_or_eq_of_le (Nat.lt_succ_iff.1 hjk) with h1 | rfl
            · exact hall j hj h1
            · exact h
          have HAk := Lib.hid hall'
          have HI := Lib.hid (inI_lt (C := C) (x := cs[k]))
          clear hall hall' hc
          generalize hx : cs[k] = x at *
          have X0k0 : wr.cell? ⟨w.heap.size, 0, none⟩ = some (.int .i64 R) := (X0.cell 0).trans rfl; have X0k1 : wr.cell? ⟨w.heap.size, 1, none⟩ = some (.int .i64 C) := (X0.cell 1).trans rfl; have X0k2 : wr.cell? ⟨w.heap.size, 2, none⟩ = some (.slice A l.length cap) := (X0.cell 2).trans rfl
          go_wp2_with fail
          refine (impl_hasColumn _ _ _ _ _ _ _).mono ?_; rintro e w2 ⟨rfl, b2⟩
          clear X0k0 X0k1 X0k2
          replace X0 := X0.below b2 X0.lt
          replace hb := hb.trans (b2.mono hb.size)
          clear b2
          rewrite [← HI.out]
          rcases Bool.eq_false_or_eq_true (inI 0 (C - 1) x) with h | h
          · rewrite [h]
            have HA2 := Lib.hid (HAk.out h)
            clear h hck
            go_wp2
            go_roundw
            case rel => exact ⟨k + 1, by go_num, by omega, HA2.out, X0, hb⟩
            case measure => simp [intOf]; omega
          · rewrite [h]
            have HB2 := Lib.hid (HBk.out h)
            clear h hck
            go_wp2
            go_returns
            exact ⟨by rw [HB2.out]; rfl, hb⟩
        · obtain rfl : k = cs.length := by omega
          have HA2 := Lib.hid (HAl.out (fun j hj => hall j hj hj))
          clear hall
          go_wp2
          go_returns
          exact ⟨by rw [HA2.out]; rfl, hb⟩
    · have hd : decide ((60 : Int) < (cs.length : Int)) = true := by simp; omega
      have HE := Lib.hid (show (true && decide (cs.length ≤ 60) && allI 0 (C - 1) cs) = false by rw [decide_eq_false h60]; rfl)
      go_enter Tryz.func32, Tryz.ntmps32
      obtain ⟨v0, hv0⟩ : ∃ v, v = w.alloc (.cells #[.int .i64 R, .int .i64 C, .slice A l.length cap] 25) := ⟨_, rfl⟩; have X0 : Whole v0 w.heap.size 25 [.int .i64 R, .int .i64 C, .slice A l.length cap] := (by rw [hv0]; exact heap_alloc_new w _); have hb : Below w.heap.size w v0 := (by rw [hv0]; exact (Below.refl _ _).alloc (Nat.le_refl _) _); have HV := Lib.hid hv0.symm; clear hv0; go_upto_region 1 with (fail); rewrite [HV.out]; clear HV; have X0k0 : v0.cell? ⟨w.heap.size, 0, none⟩ = some (.int .i64 R) := (X0.cell 0).trans rfl; have X0k1 : v0.cell? ⟨w.heap.size, 1, none⟩ = some (.int .i64 C) := (X0.cell 1).trans rfl; have X0k2 : v0.cell? ⟨w.heap.size, 2, none⟩ = some (.slice A l.length cap) := (X0.cell 2).trans rfl
      go_wp2_with fail
      refine (impl_IsBoard _ _ _ _ l _ hn ((hr.below hb).mono hb.size)).mono ?_; rintro e w1 ⟨rfl, b1⟩
      rewrite [HG.out]
      (clear X0k0 X0k1 X0k2; replace X0 := X0.below b1 X0.lt; replace hb := hb.trans (b1.mono hb.size); clear b1; have X0k0 : w1.cell? ⟨w.heap.size, 0, none⟩ = some (.int .i64 R) := (X0.cell 0).trans rfl; have X0k1 : w1.cell? ⟨w.heap.size, 1, none⟩ = some (.int .i64 C) := (X0.cell 1).trans rfl; have X0k2 : w1.cell? ⟨w.heap.size, 2, none⟩ = some (.slice A l.length cap) := (X0.cell 2).trans rfl)
      go_wp2
      go_returns
      exact ⟨by rw [HE.out]; rfl, by (repeat' (first | (with_reducible exact Below.refl _ _) | (with_reducible assumption) | (with_reducible refine Below.alloc ?_ ?_ _) | (with_reducible refine Below.setCell ?_ ?_ _) | (with_reducible refine Below.drew ?_) | (with_reducible refine below_drewN ?_ _) | (with_reducible refine Below.trans ?_ (Below.mono (by assumption) ?_)) | (with_reducible exact Nat.le_refl _) | (simp; done) | omega | (simp at *; omega)))⟩
  · have HG := Lib.hid hg
    rw [hg]
    clear hg
    go_enter Tryz.func32, Tryz.ntmps32
    obtain ⟨v0, hv0⟩ : ∃ v, v = w.alloc (.cells #[.int .i64 R, .int .i64 C, .slice A l.length cap] 25) := ⟨_, rfl⟩; have X0 : Whole v0 w.heap.size 25 [.int .i64 R, .int .i64 C, .slice A l.length cap] := (by rw [hv0]; exact heap_alloc_new w _); have hb : Below w.heap.size w v0 := (by rw [hv0]; exact (Below.refl _ _).alloc (Nat.le_refl _) _); have HV := Lib.hid hv0.symm; clear hv0; go_upto_region 1 with (fail); rewrite [HV.out]; clear HV; have X0k0 : v0.cell? ⟨w.heap.size, 0, none⟩ = some (.int .i64 R) := (X0.cell 0).trans rfl; have X0k1 : v0.cell? ⟨w.heap.size, 1, none⟩ = some (.int .i64 C) := (X0.cell 1).trans rfl; have X0k2 : v0.cell? ⟨w.heap.size, 2, none⟩ = some (.slice A l.length cap) := (X0.cell 2).trans rfl
    go_wp2_with fail
    refine (impl_IsBoard _ _ _ _ l _ hn ((hr.below hb).mono hb.size)).mono ?_; rintro e w1 ⟨rfl, b1⟩
    rewrite [HG.out]
    (clear X0k0 X0k1 X0k2; replace X0 := X0.below b1 X0.lt; replace hb := hb.trans (b1.mono hb.size); clear b1; have X0k0 : w1.cell? ⟨w.heap.size, 0, none⟩ = some (.int .i64 R) := (X0.cell 0).trans rfl; have X0k1 : w1.cell? ⟨w.heap.size, 1, none⟩ = some (.int .i64 C) := (X0.cell 1).trans rfl; have X0k2 : w1.cell? ⟨w.heap.size, 2, none⟩ = some (.slice A l.length cap) := (X0.cell 2).trans rfl)
    go_wp2
    go_returns
    exact ⟨rfl, by (repeat' (first | (with_reducible exact Below.refl _ _) | (with_reducible assumption) | (with_reducible refine Below.alloc ?_ ?_ _) | (with_reducible refine Below.setCell ?_ ?_ _) | (with_reducible refine Below.drew ?_) | (with_reducible refine below_drewN ?_ _) | (with_reducible refine Below.trans ?_ (Below.mono (by assumption) ?_)) | (with_reducible exact Nat.le_refl _) | (simp; done) | omega | (simp at *; omega)))⟩
theorem impl_areEntries1 (R C : Int) (A : Option Addr) (cap : Nat) (l : List (Int × Int)) (j : Int) (g : Nat) (w : World) (hn : l.length ≤ 1048576) (hr : Rd w w.heap.size A (flat l)) (hg : Whole w g 3 [.int .i64 j]) :
    Calls Tryz.prog 32 #[.agg #[.int .i64 R, .int .i64 C, .slice A l.length cap], .slice (some ⟨g, 0, none⟩) 1 1] w fun e w' => e = .returned (.bool (okF R C l j)) ∧ Below w.heap.size w w' := by
  rw [← okC'_one]
  exact impl_areEntries R C A cap l (some ⟨g, 0, none⟩) 1 [j] w hn (by simp) hr (hg.rd hg.lt)
end Go.Proofs.YtlnekfbhpfhcpaaGreat
namespace Go.Proofs.YtlnekfbhpfhcpaaGreat
open Go.ChangeShapes Go.WideShapes Go.ChangeAt Go.RowKit Go.Joins Go.Deep
set_option linter.unusedSimpArgs false
set_option linter.unusedVariables false
set_option maxRecDepth 100000
set_option maxHeartbeats 4000000
theorem impl_FallOf (R C : Int) (A : Option Addr) (cap : Nat) (l : List (Int × Int)) (j : Int) (w : World) (hn : l.length ≤ 1048576) (hr : Rd w w.heap.size A (flat l)) :
    Calls Tryz.prog 23 #[.agg #[.int .i64 R, .int .i64 C, .slice A l.length cap], .int .i64 j] w fun e w' => e = .returned (.tuple #[.agg #[.int .i64 (selI (okF R C l j) (marO R C l j).e), .int .i64 (selI (okF R C l j) (marO R C l j).row), .int .i64 (selI (okF R C l j) (marO R C l j).col)], .bool (okF R C l j)]) ∧ Below w.heap.size w w' := by
  rcases Bool.eq_false_or_eq_true (okF R C l j) with ho | ho
  · have HO := Lib.hid ho
    obtain ⟨hg, h1, h2⟩ := okF_parts ho
    obtain ⟨_, _, hpos⟩ := goodB_parts hg
    obtain ⟨b, o, rfl, hbl, hc⟩ := hr (by rw [flat_length]; omega)
    have hr' : Rd w w.heap.size (some ⟨b, o, none⟩) (flat l) := fun _ => ⟨b, o, rfl, hbl, hc⟩
    obtain ⟨r, c, rfl, rfl, hG⟩ := geo_of hg
    obtain ⟨cl, rfl⟩ : ∃ cl : Nat, j = (cl : Int) := ⟨j.toNat, by omega⟩
    have hcl : cl < c := by omega
    rw [ho]
    clear ho hr hG
    go_enter Tryz.func23, Tryz.ntmps23
    obtain ⟨v0, hv0, X0, X1, B0, hz0⟩ := two_boxes w [.int .i64 (r : Int), .int .i64 (c : Int), .slice (some ⟨b, o, none⟩) l.length cap] 25 [.int .i64 0, .int .i64 0, .int .i64 0] 50; have HV := Lib.hid hv0; have HZ := Lib.hid hz0; have hz : w.heap.size + 1 < v0.heap.size := (by omega); have hy : w.heap.size < v0.heap.size := (by omega); have hb0 := B0.size; clear hv0 hz0; go_wp2_with fail; rewrite [show (w.alloc (.cells ([.int .i64 (r : Int), .int .i64 (c : Int), .slice (some ⟨b, o, none⟩) l.length cap] : List Value).toArray 25)).alloc (.cells ([.int .i64 0, .int .i64 0, .int .i64 0] : List Value).toArray 50) = v0 from HV.out]; clear HV
    have X0k0 : v0.cell? ⟨w.heap.size, 0, none⟩ = some (.int .i64 (r : Int)) := (X0.cell 0).trans rfl; have X0k1 : v0.cell? ⟨w.heap.size, 1, none⟩ = some (.int .i64 (c : Int)) := (X0.cell 1).trans rfl; have X0k2 : v0.cell? ⟨w.heap.size, 2, none⟩ = some (.slice (some ⟨b, o, none⟩) l.length cap) := (X0.cell 2).trans rfl
    go_wp2_with fail
    clear X0k0 X0k1 X0k2
    have bl : Below v0.heap.size v0 (v0.alloc (.cells #[.int .i64 (cl : Int)] 3)) := (Below.refl _ _).alloc (Nat.le_refl _) _; have Xl : Whole (v0.alloc (.cells #[.int .i64 (cl : Int)] 3)) (w.heap.size + 1 + 1) 3 [.int .i64 (cl : Int)] := (by have h := heap_alloc_new v0 (.cells #[.int .i64 (cl : Int)] 3); rw [HZ.out] at h; exact h); replace X0 := X0.below bl X0.lt; replace X1 := X1.below bl X1.lt; replace B0 := B0.trans (bl.mono B0.size); have hy := X0.lt; have hz := X1.lt; have hb0 := B0.size; clear bl; generalize v0.alloc (.cells #[.int .i64 (cl : Int)] 3) = v1 at *
    refine (impl_areEntries1 _ _ _ _ l _ _ _ hn ((hr'.below B0).mono B0.size) Xl).mono ?_; rintro e w1 ⟨rfl, b1⟩
    rewrite [HO.out]
    replace X0 := X0.below b1 X0.lt; replace X1 := X1.below b1 X1.lt; replace B0 := B0.trans (b1.mono B0.size); have hy := X0.lt; have hz := X1.lt; have hb0 := B0.size; clear b1
    have X0k0 : w1.cell? ⟨w.heap.size, 0, none⟩ = some (.int .i64 (r : Int)) := (X0.cell 0).trans rfl; have X0k1 : w1.cell? ⟨w.heap.size, 1, none⟩ = some (.int .i64 (c : Int)) := (X0.cell 1).trans rfl; have X0k2 : w1.cell? ⟨w.heap.size, 2, none⟩ = some (.slice (some ⟨b, o, none⟩) l.length cap) := (X0.cell 2).trans rfl
    go_wp2_with fail
    refine (impl_fallAlone r c b o cap l cl _ hg ((hr'.below B0).mono B0.size) hcl).mono ?_; rintro e w2 ⟨A5, c5, rfl, O5, N5, b2⟩
    clear X0k0 X0k1 X0k2
    replace X0 := X0.below b2 X0.lt; replace X1 := X1.below b2 X1.lt; replace B0 := B0.trans (b2.mono B0.size); have hy := X0.lt; have hz := X1.lt; have hb0 := B0.size; clear b2
    generalize hF : marO (r : Int) (c : Int) l (cl : Int) = F at *
    have HF := Lib.hid hF
    clear hF O5 N5
    have X1k0 : w2.cell? ⟨w.heap.size + 1, 0, none⟩ = some (.int .i64 0) := (X1.cell 0).trans rfl; have X1k1 : w2.cell? ⟨w.heap.size + 1, 1, none⟩ = some (.int .i64 0) := (X1.cell 1).trans rfl; have X1k2 : w2.cell? ⟨w.heap.size + 1, 2, none⟩ = some (.int .i64 0) := (X1.cell 2).trans rfl
    have X1f0 := X1.frozen 0; have X1f1 := X1.frozen 1; have X1f2 := X1.frozen 2
    go_wp2
    refine bodyPost_ret (v := .tuple #[.agg #[.int .i64 F.e, .int .i64 F.row, .int .i64 F.col], .bool true]) ?_ rfl ?_; (focus (simp [results, Tryz.results23, go_sem, *]; done))
    exact ⟨ret_fb (by rw [HF.out]; rfl) (by rw [HF.out]; rfl) (by rw [HF.out]; rfl) rfl, by (repeat' (first | (with_reducible exact Below.refl _ _) | (with_reducible assumption) | (with_reducible refine Below.alloc ?_ ?_ _) | (with_reducible refine Below.setCell ?_ ?_ _) | (with_reducible refine Below.drew ?_) | (with_reducible refine below_drewN ?_ _) | (with_reducible refine Below.trans ?_ (Below.mono (by assumption) ?_)) | (with_reducible exact Nat.le_refl _) | (simp; done) | omega | (simp at *; omega)))⟩
  · have HO := Lib.hid ho
    rw [ho]
    clear ho
    go_enter Tryz.func23, Tryz.ntmps23
    obtain ⟨v0, hv0, X0, X1, B0, hz0⟩ := two_boxes w [.int .i64 R, .int .i64 C, .slice A l.length cap] 25 [.int .i64 0, .int .i64 0, .int .i64 0] 50; have HV := Lib.hid hv0; have HZ := Lib.hid hz0; have hz : w.heap.size + 1 < v0.heap.size := (by omega); have hy : w.heap.size < v0.heap.size := (by omega); have hb0 := B0.size; clear hv0 hz0; go_wp2_with fail; rewrite [show (w.alloc (.cells ([.int .i64 R, .int .i64 C, .slice A l.length cap] : List Value).toArray 25)).alloc (.cells ([.int .i64 0, .int .i64 0, .int .i64 0] : List Value).toArray 50) = v0 from HV.out]; clear HV
    have X0k0 : v0.cell? ⟨w.heap.size, 0, none⟩ = some (.int .i64 R) := (X0.cell 0).trans rfl; have X0k1 : v0.cell? ⟨w.heap.size, 1, none⟩ = some (.int .i64 C) := (X0.cell 1).trans rfl; have X0k2 : v0.cell? ⟨w.heap.size, 2, none⟩ = some (.slice A l.length cap) := (X0.cell 2).trans rfl
    go_wp2_with fail
    clear X0k0 X0k1 X0k2
    have bl : Below v0.heap.size v0 (v0.alloc (.cells #[.int .i64 j] 3)) := (Below.refl _ _).alloc (Nat.le_refl _) _; have Xl : Whole (v0.alloc (.cells #[.int .i64 j] 3)) (w.heap.size + 1 + 1) 3 [.int .i64 j] := (by have h := heap_alloc_new v0 (.cells #[.int .i64 j] 3); rw [HZ.out] at h; exact h); replace X0 := X0.below bl X0.lt; replace X1 := X1.below bl X1.lt; replace B0 := B0.trans (bl.mono B0.size); have hy := X0.lt; have hz := X1.lt; have hb0 := B0.size; clear bl; generalize v0.alloc (.cells #[.int .i64 j] 3) = v1 at *
    refine (impl_areEntries1 _ _ _ _ l _ _ _ hn ((hr.below B0).mono B0.size) Xl).mono ?_; rintro e w1 ⟨rfl, b1⟩
    rewrite [HO.out]
    replace X0 := X0.below b1 X0.lt; replace X1 := X1.below b1 X1.lt; replace B0 := B0.trans (b1.mono B0.size); have hy := X0.lt; have hz := X1.lt; have hb0 := B0.size; clear b1
    have X1k0 : w1.cell? ⟨w.heap.size + 1, 0, none⟩ = some (.int .i64 0) := (X1.cell 0).trans rfl; have X1k1 : w1.cell? ⟨w.heap.size + 1, 1, none⟩ = some (.int .i64 0) := (X1.cell 1).trans rfl; have X1k2 : w1.cell? ⟨w.heap.size + 1, 2, none⟩ = some (.int .i64 0) := (X1.cell 2).trans rfl
    have X1f0 := X1.frozen 0; have X1f1 := X1.frozen 1; have X1f2 := X1.frozen 2
    go_wp2
    refine bodyPost_ret (v := .tuple #[.agg #[.int .i64 0, .int .i64 0, .int .i64 0], .bool false]) ?_ rfl ?_; (focus (simp [results, Tryz.results23, go_sem, *]; done))
    exact ⟨ret_fb rfl rfl rfl rfl, by (repeat' (first | (with_reducible exact Below.refl _ _) | (with_reducible assumption) | (with_reducible refine Below.alloc ?_ ?_ _) | (with_reducible refine Below.setCell ?_ ?_ _) | (with_reducible refine Below.drew ?_) | (with_reducible refine below_drewN ?_ _) | (with_reducible refine Below.trans ?_ (Below.mono (by assumption) ?_)) | (with_reducible exact Nat.le_refl _) | (simp; done) | omega | (simp at *; omega)))⟩
end Go.Proofs.YtlnekfbhpfhcpaaGreat
namespace Go.Proofs.YtlnekfbhpfhcpaaGreat
open Go.ChangeShapes Go.WideShapes Go.ChangeAt Go.RowKit Go.Joins Go.Deep
set_option linter.unusedSimpArgs false
set_option linter.unusedVariables false
set_option maxRecDepth 100000
set_option maxHeartbeats 4000000
theorem flG_num (nm : List Int) (r c : Nat) : ∀ (n row : Nat) (l : List (Int × Int)) (col : Nat) (side : Int) (way : List (List Nat)), numL c (flG nm r c n row l col side way).cells = numL c l
  | 0, _, _, _, _, _ => rfl
  | n + 1, row, l, col, side, way => by
    rw [flG_step nm r c n row l col side way _ _ rfl rfl]
    split
    · rfl
    · split
      · rw [flG_num nm r c n, passL_num]
      · exact passL_num _ _ _ _
theorem stA_num (nm : List Int) (r c : Nat) (l : List (Int × Int)) (cs : List Int) : ∀ k, numL c (stA nm r c l cs k).2 = numL c l
  | 0 => rfl
  | k + 1 => by
    unfold stA
    rw [flG_num]
    exact stA_num nm r c l cs k
theorem run_make_falls0 (n : Nat) (hn : n ≤ 1048576) (w : World) :
    (Instr.makeSlice 29 (.int .i64 0) (.int .i64 (n : Int))).run Tryz.prog w = .ok (.slice (some ⟨w.heap.size, 0, none⟩) 0 n) (w.alloc (.cells (zrow (3 * n)).toArray 50)) := by
  obtain ⟨i0, hi, hz0, hz1, hz2⟩ := info_parts fallInfo
  have h := run_make (P := Tryz.prog) w 29 50 i0 _ Tryz.underlying29 hi hz0 .i64 .i64 0 (n : Int) (by omega) (by omega) (by rw [hz2]; omega) (by omega)
  rw [hz1] at h
  simp only [Int.toNat_natCast] at h
  have e : madeCells (Value.agg #[.int .i64 0, .int .i64 0, .int .i64 0]).cells (n * 3) = (zrow (3 * n)).toArray := by
    apply Array.ext
    · simp [madeCells, zrow]; omega
    · intro i h1 h2
      have h3 : i % 3 = 0 ∨ i % 3 = 1 ∨ i % 3 = 2 := by omega
      rcases h3 with h3 | h3 | h3 <;> simp [madeCells, zrow, Value.cells, h3]
  rw [h, e]
  rfl
theorem two_cells3 {w : World} {o : Obj} {x y z : Value} {t : TypeId} : ∀ j u, [x, y, z][j]? = some u → ((w.alloc o).alloc (.cells #[x, y, z] t)).cell? ((⟨w.heap.size + 1, 0, none⟩ : Addr).add j) = some u := by
  intro j u h
  have hn := heap_alloc_new (w.alloc o) (.cells #[x, y, z] t)
  rw [World.size_alloc] at hn
  have hw : Whole ((w.alloc o).alloc (.cells #[x, y, z] t)) (w.heap.size + 1) t [x, y, z] := hn
  have hj := hw.cell j
  rw [h] at hj
  rw [← hj]
  by_cases h0 : j = 0
  · subst h0; simp [Addr.add]
  · simp [Addr.add, h0]
/-- Ends of marbles, a board, and whether it succeeds: all the call's own. -/
def PostF (w : World) (R C : Int) (l : List (Int × Int)) (fs : List (Int × Int × Int)) (ok : Bool) (e : Ending) (w' : World) : Prop :=
  ∃ A cp A5 c5, e = .returned (.tuple #[.slice A fs.length cp, .agg #[.int .i64 R, .int .i64 C, .slice A5 l.length c5], .bool ok]) ∧ Own w' A 50 (flatF fs) ∧ New w A ∧ Own w' A5 86 (flat l) ∧ New w A5 ∧ Below w.heap.size w w'
theorem PostF.of_row {w w' : World} {R C : Int} {l : List (Int × Int)} {fs : List (Int × Int × Int)} {ok : Bool} {v : Value} {n : Nat} {A5 : Option Addr} {c5 : Nat} (hn : fs.length = n) (h : w'.ownsRow w.heap.size 50 3 v n (flatF fs)) (O5 : Own w' A5 86 (flat l)) (N5 : New w A5) (b : Below w.heap.size w w') :
    PostF w R C l fs ok (.returned (.tuple #[v, .agg #[.int .i64 R, .int .i64 C, .slice A5 l.length c5], .bool ok])) w' := by
  subst hn
  obtain ⟨A, cp, rfl⟩ := slice_of_row h
  have ho := own_of_row h
  exact ⟨A, cp, A5, c5, rfl, ho.1, ho.2, O5, N5, b⟩
theorem fallsO_len (R C : Int) (l : List (Int × Int)) (cs : List Int) (hn : l.length ≤ 1048576) (hn' : cs.length ≤ 1048576) : (fallsO R C l cs).1.length ≤ 1048576 ∧ (fallsO R C l cs).2.length ≤ 1048576 := by
  unfold fallsO
  split
  · obtain ⟨h1, h2⟩ := stA_len (numL C.toNat l) R.toNat C.toNat l cs cs.length
    exact ⟨by rw [h1]; exact hn', by rw [h2]; exact hn⟩
  · exact ⟨by simp, by simp⟩
theorem spec_FallsOfP (R C : Int) (A : Option Addr) (cap : Nat) (l : List (Int × Int)) (A' : Option Addr) (cap' : Nat) (cs : List Int) (w : World) (hn : l.length ≤ 1048576) (hr : Rd w w.heap.size A (flat l)) (hn' : cs.length ≤ 1048576) (hrc : Rd w w.heap.size A' (ints cs)) :
    Calls Tryz.prog 6 #[.agg #[.int .i64 R, .int .i64 C, .slice A l.length cap], .slice A' cs.length cap'] w (PostF w (selI (okC' R C l cs) R) (selI (okC' R C l cs) C) (fallsO R C l cs).2 (fallsO R C l cs).1 (okC' R C l cs)) := by
  refine (spec_FallsOf R C A cap l A' cap' cs w hn hn' hr hrc).mono ?_
  rintro e w' ⟨v, A5, c5, rfl, h1, h2, h3, h4⟩
  exact PostF.of_row rfl h1 h2 h3 h4
theorem impl_FallsOf (R C : Int) (A : Option Addr) (cap : Nat) (l : List (Int × Int)) (A' : Option Addr) (cap' : Nat) (cs : List Int) (w : World) (hn : l.length ≤ 1048576) (hr : Rd w w.heap.size A (flat l)) (hn' : cs.length ≤ 1048576) (hrc : Rd w w.heap.size A' (ints cs)) :
    Calls Tryz.prog 5 #[.agg #[.int .i64 R, .int .i64 C, .slice A l.length cap], .slice A' cs.length cap'] w (PostF w (selI (okC' R C l cs) R) (selI (okC' R C l cs) C) (fallsO R C l cs).2 (fallsO R C l cs).1 (okC' R C l cs)) := by
  unfold fallsO
  rcases Bool.eq_false_or_eq_true (okC' R C l cs) with ho | ho
  · have HO := Lib.hid ho
    obtain ⟨hg, h60, hall⟩ := okC'_parts ho
    obtain ⟨_, _, hpos⟩ := goodB_parts hg
    obtain ⟨b, o, rfl, hbl, hc⟩ := hr (by rw [flat_length]; omega)
    have hr' : Rd w w.heap.size (some ⟨b, o, none⟩) (flat l) := fun _ => ⟨b, o, rfl, hbl, hc⟩
    obtain ⟨r, c, rfl, rfl, hG⟩ := geo_of hg
    have hlrc := hG.cells
    have HSl := Lib.hid (stA_len (numL c l) r c l cs)
    have HCs := Lib.hid (fun k hk => (show 0 ≤ cs.getD k 0 ∧ cs.getD k 0 < (c : Int) by have := allI_at hall k hk; omega))
    have HSg := Lib.hid (stA_good (numL c l) (cs := cs) hlrc (goodB_iff.1 hg).2.2 HCs.out)
    have HSn := Lib.hid (stA_num (numL c l) r c l cs)
    have HGd := Lib.hid hg
    have HGe := Lib.hid hG
    rw [ho, if_pos rfl, Int.toNat_natCast, Int.toNat_natCast]
    obtain ⟨i0, hi, hz0, hz1, hz2⟩ := info_parts fallInfo
    have hmk := run_make_falls0 cs.length (by omega)
    clear ho hr hall hG hg hlrc
    go_enter Tryz.func5, Tryz.ntmps5
    obtain ⟨v0, hv0, X0, X1, B0, hz0⟩ := two_boxes w [.int .i64 (r : Int), .int .i64 (c : Int), .slice (some ⟨b, o, none⟩) l.length cap] 25 [.int .i64 0, .int .i64 0, .slice none 0 0] 25; have HV := Lib.hid hv0; have HZ := Lib.hid hz0; have hz : w.heap.size + 1 < v0.heap.size := (by omega); have hy : w.heap.size < v0.heap.size := (by omega); have hb0 := B0.size; clear hv0 hz0; go_wp2_with fail; rewrite [show (w.alloc (.cells ([.int .i64 (r : Int), .int .i64 (c : Int), .slice (some ⟨b, o, none⟩) l.length cap] : List Value).toArray 25)).alloc (.cells ([.int .i64 0, .int .i64 0, .slice none 0 0] : List Value).toArray 25) = v0 from HV.out]; clear HV
    have X0k0 : v0.cell? ⟨w.heap.size, 0, none⟩ = some (.int .i64 (r : Int)) := (X0.cell 0).trans rfl; have X0k1 : v0.cell? ⟨w.heap.size, 1, none⟩ = some (.int .i64 (c : Int)) := (X0.cell 1).trans rfl; have X0k2 : v0.cell? ⟨w.heap.size, 2, none⟩ = some (.slice (some ⟨b, o, none⟩) l.length cap) := (X0.cell 2).trans rfl
    go_wp2_with fail
    refine (impl_areEntries _ _ _ _ l _ _ cs _ hn hn' ((hr'.below B0).mono B0.size) ((hrc.below B0).mono B0.size)).mono ?_; rintro e w1 ⟨rfl, b1⟩
    rewrite [HO.out]
    clear X0k0 X0k1 X0k2
    replace X0 := X0.below b1 X0.lt; replace X1 := X1.below b1 X1.lt; replace B0 := B0.trans (b1.mono B0.size); have hy := X0.lt; have hz := X1.lt; have hb0 := B0.size; clear b1
    clear HZ
    have X0k0 : w1.cell? ⟨w.heap.size, 0, none⟩ = some (.int .i64 (r : Int)) := (X0.cell 0).trans rfl; have X0k1 : w1.cell? ⟨w.heap.size, 1, none⟩ = some (.int .i64 (c : Int)) := (X0.cell 1).trans rfl; have X0k2 : w1.cell? ⟨w.heap.size, 2, none⟩ = some (.slice (some ⟨b, o, none⟩) l.length cap) := (X0.cell 2).trans rfl
    go_wp2_with fail
    refine (impl_cloneBoard (r : Int) (c : Int) b o cap l _ hn ((hr'.below B0).mono B0.size)).mono ?_; rintro e w2 ⟨A5, c5, rfl, o5, n5, b2⟩
    clear X0k0 X0k1 X0k2
    have h51 : ∀ a, A5 = some a → w.heap.size + 1 < a.block := fun a ha => by have h := n5 a ha; omega
    replace X0 := X0.below b2 X0.lt; replace X1 := X1.below b2 X1.lt; replace B0 := B0.trans (b2.mono B0.size); have hy := X0.lt; have hz := X1.lt; have hb0 := B0.size; clear b2
    obtain ⟨g5, rest5, rfl, X7⟩ := o5 (by rw [flat_length]; omega)
    have h5 : w.heap.size + 1 < g5 := h51 _ rfl
    clear n5 o5 h51
    go_upto_region 4 with (fail)
    obtain ⟨v4, hv4⟩ : ∃ v4, v4 = w2.alloc (.cells #[.int .i64 (r : Int), .int .i64 (c : Int), .slice (some ⟨g5, 0, none⟩) l.length c5] 25) := ⟨_, rfl⟩
    have X4 : Whole v4 w2.heap.size 25 [.int .i64 (r : Int), .int .i64 (c : Int), .slice (some ⟨g5, 0, none⟩) l.length c5] := by rw [hv4]; exact newW
    have b4 : Below w2.heap.size w2 v4 := by rw [hv4]; exact (Below.refl _ _).alloc (Nat.le_refl _) _
    rewrite [← hv4]
    clear hv4
    have h4w : w.heap.size + 1 < w2.heap.size := hz
    have h54 : g5 < w2.heap.size := X7.lt
    replace X7 := X7.below b4 X7.lt
    replace X0 := X0.below b4 X0.lt; replace X1 := X1.below b4 X1.lt; replace B0 := B0.trans (b4.mono B0.size); have hy := X0.lt; have hz := X1.lt; have hb0 := B0.size; clear b4
    have h45 := X4.lt
    generalize w2.heap.size = g4 at *
    go_upto_region 5 with (fail)
    have hown := World.ownsRow_made (e := 50) (size := 3) (base := w.heap.size) v4 (zrow (3 * cs.length)).toArray cs.length (by omega) (by unfold maxLen; omega) (by simp [zrow]; omega)
    have ba : Below v4.heap.size v4 (v4.alloc (.cells (zrow (3 * cs.length)).toArray 50)) := (Below.refl _ _).alloc (Nat.le_refl _) _
    replace X4 := X4.below ba X4.lt
    replace X7 := X7.below ba X7.lt
    replace X0 := X0.below ba X0.lt; replace X1 := X1.below ba X1.lt; replace B0 := B0.trans (ba.mono B0.size); have hy := X0.lt; have hz := X1.lt; have hb0 := B0.size; clear ba
    clear hmk X0 hy hz
    generalize v4.alloc (.cells (zrow (3 * cs.length)).toArray 50) = v5 at *
    generalize v4.heap.size = Y at *
    go_wp2
    go_loopw [8, 25] (fun v i wr => ∃ k : Nat, i = .int .i64 k ∧ k ≤ cs.length ∧ wr.ownsRow w.heap.size 50 3 v k (flatF (stA (numL c l) r c l cs k).1) ∧ Whole wr g4 25 [.int .i64 (r : Int), .int .i64 (c : Int), .slice (some ⟨g5, 0, none⟩) l.length c5] ∧ Whole wr g5 86 (flat (stA (numL c l) r c l cs k).2 ++ rest5) ∧ Whole wr (w.heap.size + 1) 25 [.int .i64 0, .int .i64 0, .slice none 0 0] ∧ Below w.heap.size w wr) (fun _ i _ => cs.length - (intOf i).toNat)
    case atStart => exact ⟨0, rfl, Nat.zero_le _, hown, X4, X7, X1, B0⟩
    case round =>
      clear hown X4 X7 X1 B0 hb0
      obtain ⟨k, rfl, hk, hown, X4, X7, X1, B0⟩ := hrel
      have hs := B0.size
      have hlk := (HSl.out k).2
      by_cases hlt : k < cs.length
      · obtain ⟨bb, oo, rfl, hbb, hcc⟩ := hrc (by rw [ints_length]; omega)
        have hck : wr.cell? ⟨bb, oo + k, none⟩ = some (.int .i64 cs[k]) := (B0.cell (p := ⟨bb, _, none⟩) hbb).trans (hcc k _ (ints_at cs k hlt))
        have hgk := HSg.out k (by omega)
        obtain ⟨hc1, hc2⟩ := HCs.out k hlt
        have HSk := Lib.hid (show stA (numL c l) r c l cs (k + 1) = ((stA (numL c l) r c l cs k).1 ++ [((flG (numL c l) r c r 0 (stA (numL c l) r c l cs k).2 (cs.getD k 0).toNat 0 []).e, (flG (numL c l) r c r 0 (stA (numL c l) r c l cs k).2 (cs.getD k 0).toNat 0 []).row, (flG (numL c l) r c r 0 (stA (numL c l) r c l cs k).2 (cs.getD k 0).toNat 0 []).col)], (flG (numL c l) r c r 0 (stA (numL c l) r c l cs k).2 (cs.getD k 0).toNat 0 []).cells) from rfl)
        have hgd : cs.getD k 0 = cs[k] := by rw [List.getD_eq_getElem?_getD, List.getElem?_eq_getElem hlt]; rfl
        obtain ⟨cl, hcl⟩ : ∃ cl : Nat, cs[k] = (cl : Int) := ⟨cs[k].toNat, by rw [← hgd]; omega⟩
        rw [hgd, hcl] at HSk hc2
        rw [hcl] at hck
        rw [Int.toNat_natCast] at HSk
        have hnk := HSn.out k
        generalize (stA (numL c l) r c l cs k).1 = fk at *
        generalize (stA (numL c l) r c l cs k).2 = lk at *
        have hgB : goodB (r : Int) (c : Int) lk = true := goodB_iff.2 ⟨(goodB_iff.1 HGd.out).1, by rw [hlk]; exact (goodB_iff.1 HGd.out).2.1, hgk⟩
        have HQ := impl_letFall r c g5 c5 lk rest5 cl wr (by rw [hlk]; exact HGe.out) hgB (by omega) X7
        rw [hnk, hlk] at HQ
        clear hcc hgd hcl hc1 hc2 hgk hgB hnk hlk
        generalize flG (numL c l) r c r 0 lk cl 0 [] = F at *
        have X4k0 : wr.cell? ⟨g4, 0, none⟩ = some (.int .i64 (r : Int)) := (X4.cell 0).trans rfl; have X4k1 : wr.cell? ⟨g4, 1, none⟩ = some (.int .i64 (c : Int)) := (X4.cell 1).trans rfl; have X4k2 : wr.cell? ⟨g4, 2, none⟩ = some (.slice (some ⟨g5, 0, none⟩) l.length c5) := (X4.cell 2).trans rfl
        go_wp2_with fail
        refine HQ.mono ?_; rintro e w5 ⟨Am, cm, rfl, Om, Nm, X7', gb⟩
        clear HQ hck Om Nm
        clear X4k0 X4k1 X4k2
        have n5 : ∀ {g : Nat}, g ≠ g5 → some g ≠ some g5 := fun h e => h (by injection e)
        have hne3 := row_apart hown X7 (by decide)
        have h4l := X4.lt
        have h5l := X7.lt
        replace X4 := X4.grown gb (n5 (by omega))
        replace X1 := X1.grown gb (n5 (by omega))
        replace hown := World.ownsRow.kept hown gb (.inr (fun e => hne3 e.symm))
        replace B0 := B0.grown gb hs (fun k e => by cases e; omega)
        replace hs := B0.size
        clear gb n5 hne3 X7
        have hownY := ((hown.alloc (.cells #[.int .i64 F.e, .int .i64 F.row, .int .i64 F.col] 50)).alloc (.cells #[.int .i64 F.e, .int .i64 F.row, .int .i64 F.col] 50))
        go_upto_region 10 with (first | (at_builtin; go_loud (refine wpList_append_own _ rfl (.tmp 35) (.tmp 37) 29 rfl w.heap.size 50 i0 _ 3 24 Tryz.underlying29 hi hz0 hz1 hz2 rfl (by omega) u8 k _ rfl ((hown.alloc _).alloc _) ⟨w5.heap.size + 1, 0, none⟩ 1 1 [.int .i64 F.e, .int .i64 F.row, .int .i64 F.col] rfl rfl two_cells3 three_oneF (by unfold maxLen; omega) (by omega) (by rw [World.size_alloc, World.size_alloc]; omega) ?_; intro v7 w7 hown7 hg7 _)) | fail)
        have X47 := ((X4.alloc _).alloc _).grown hg7 (row_apart hownY ((X4.alloc _).alloc _) (by decide))
        have X77 := ((X7'.alloc _).alloc _).grown hg7 (row_apart hownY ((X7'.alloc _).alloc _) (by decide))
        have X17 := ((X1.alloc _).alloc _).grown hg7 (row_apart hownY ((X1.alloc _).alloc _) (by decide))
        have B7 : Below w.heap.size w w7 := row_below hownY ((B0.alloc (by omega) _).alloc (by rw [World.size_alloc]; omega) _) (by rw [World.size_alloc, World.size_alloc]; omega) hg7
        clear X1 X4 X7' hownY
        go_wp2
        refine ⟨⟨k + 1, by go_num, by omega, ?_, X47, ?_, X17, B7⟩, by simp [intOf]; omega⟩
        · rw [HSk.out, flatF_app]
          exact hown7
        · rw [HSk.out]
          exact X77
      · obtain rfl : k = cs.length := by omega
        have HLf := Lib.hid (HSl.out cs.length).1
        clear hlt
        have hlk' := hlk
        have X4k0 : wr.cell? ⟨g4, 0, none⟩ = some (.int .i64 (r : Int)) := (X4.cell 0).trans rfl; have X4k1 : wr.cell? ⟨g4, 1, none⟩ = some (.int .i64 (c : Int)) := (X4.cell 1).trans rfl; have X4k2 : wr.cell? ⟨g4, 2, none⟩ = some (.slice (some ⟨g5, 0, none⟩) l.length c5) := (X4.cell 2).trans rfl
        have X1k0 : wr.cell? ⟨w.heap.size + 1, 0, none⟩ = some (.int .i64 0) := (X1.cell 0).trans rfl; have X1k1 : wr.cell? ⟨w.heap.size + 1, 1, none⟩ = some (.int .i64 0) := (X1.cell 1).trans rfl; have X1k2 : wr.cell? ⟨w.heap.size + 1, 2, none⟩ = some (.slice none 0 0) := (X1.cell 2).trans rfl
        have X1f0 := X1.frozen 0; have X1f1 := X1.frozen 1; have X1f2 := X1.frozen 2
        have HLk := Lib.hid hlk
        clear hlk hlk'
        have z1 := X1.lt
        have zb := X4.lt
        have hne := row_apart hown X1 (by decide)
        go_upto_region 11 with (fail)
        go_region
        go_wp2
        (refine bodyPost_ret (v := .tuple #[u8, .agg #[.int .i64 (r : Int), .int .i64 (c : Int), .slice (some ⟨g5, 0, none⟩) l.length c5], .bool true]) ?_ rfl ?_); (focus (simp [results, Tryz.results5, go_sem, *]; done))
        rewrite [← HLk.out]
        refine PostF.of_row HLf.out ?_ ?_ (fun a ha => by cases ha; show w.heap.size ≤ g5; omega) ?_
        · exact row_keep (row_setFarW (row_setFarW (row_setFarW hown _ _ hne) _ _ hne) _ _ hne) ((Below.refl _ _).drew)
        · refine Own.keep ?_ ((Below.refl _ _).drew)
          exact fun _ => ⟨g5, rest5, rfl, three_far X7 (by omega)⟩
        · exact (((B0.setCell (p := ⟨w.heap.size + 1, 0, none⟩) (by show w.heap.size ≤ w.heap.size + 1; omega) _).setCell (p := ⟨w.heap.size + 1, 1, none⟩) (by show w.heap.size ≤ w.heap.size + 1; omega) _).setCell (p := ⟨w.heap.size + 1, 2, none⟩) (by show w.heap.size ≤ w.heap.size + 1; omega) _).drew
  · have HO := Lib.hid ho
    rw [ho]
    clear ho
    go_enter Tryz.func5, Tryz.ntmps5
    obtain ⟨v0, hv0, X0, X1, B0, hz0⟩ := two_boxes w [.int .i64 R, .int .i64 C, .slice A l.length cap] 25 [.int .i64 0, .int .i64 0, .slice none 0 0] 25; have HV := Lib.hid hv0; have HZ := Lib.hid hz0; have hz : w.heap.size + 1 < v0.heap.size := (by omega); have hy : w.heap.size < v0.heap.size := (by omega); have hb0 := B0.size; clear hv0 hz0; go_wp2_with fail; rewrite [show (w.alloc (.cells ([.int .i64 R, .int .i64 C, .slice A l.length cap] : List Value).toArray 25)).alloc (.cells ([.int .i64 0, .int .i64 0, .slice none 0 0] : List Value).toArray 25) = v0 from HV.out]; clear HV
    have X0k0 : v0.cell? ⟨w.heap.size, 0, none⟩ = some (.int .i64 R) := (X0.cell 0).trans rfl; have X0k1 : v0.cell? ⟨w.heap.size, 1, none⟩ = some (.int .i64 C) := (X0.cell 1).trans rfl; have X0k2 : v0.cell? ⟨w.heap.size, 2, none⟩ = some (.slice A l.length cap) := (X0.cell 2).trans rfl
    go_wp2_with fail
    refine (impl_areEntries _ _ _ _ l _ _ cs _ hn hn' ((hr.below B0).mono B0.size) ((hrc.below B0).mono B0.size)).mono ?_; rintro e w1 ⟨rfl, b1⟩
    rewrite [HO.out]
    clear X0k0 X0k1 X0k2
    replace X0 := X0.below b1 X0.lt; replace X1 := X1.below b1 X1.lt; replace B0 := B0.trans (b1.mono B0.size); have hy := X0.lt; have hz := X1.lt; have hb0 := B0.size; clear b1
    have X1k0 : w1.cell? ⟨w.heap.size + 1, 0, none⟩ = some (.int .i64 0) := (X1.cell 0).trans rfl; have X1k1 : w1.cell? ⟨w.heap.size + 1, 1, none⟩ = some (.int .i64 0) := (X1.cell 1).trans rfl; have X1k2 : w1.cell? ⟨w.heap.size + 1, 2, none⟩ = some (.slice none 0 0) := (X1.cell 2).trans rfl
    have X1f0 := X1.frozen 0; have X1f1 := X1.frozen 1; have X1f2 := X1.frozen 2
    go_wp2
    refine bodyPost_ret (v := .tuple #[.slice none 0 0, .agg #[.int .i64 0, .int .i64 0, .slice none 0 0], .bool false]) ?_ rfl ?_; (focus (simp [results, Tryz.results5, go_sem, *]; done))
    exact PostF.of_row (fs := []) (l := []) rfl (World.ownsRow_nil _ _ _ _) Own.none_ New.none_ (by (repeat' (first | (with_reducible exact Below.refl _ _) | (with_reducible assumption) | (with_reducible refine Below.alloc ?_ ?_ _) | (with_reducible refine Below.setCell ?_ ?_ _) | (with_reducible refine Below.drew ?_) | (with_reducible refine below_drewN ?_ _) | (with_reducible refine Below.trans ?_ (Below.mono (by assumption) ?_)) | (with_reducible exact Nat.le_refl _) | (simp; done) | omega | (simp at *; omega))))
end Go.Proofs.YtlnekfbhpfhcpaaGreat
