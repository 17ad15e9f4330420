/- turnBehind: the program's; what a marble turns behind a cell. -/
import Derived.Deep.RegionHeld3
import Derived.Deep.RegionLaw
import Derived.Test.YtoflhjekldlaiaaTurnGp
namespace Go.Proofs.Ytoflhjekldlaiaa
open Go.ChangeShapes Go.WideShapes Go.ChangeAt Go.RowKit Go.Joins Go.Deep
set_option linter.unusedSimpArgs false
set_option linter.unusedVariables false
set_option maxRecDepth 100000
set_option maxHeartbeats 8000000
theorem impl_turnBehind (r c g5 cap : Nat) (l : List (Int × Int)) (rest5 : List Value) (i : Nat) (w : World) (hG : Geo r c l.length) (hi : i < l.length) (hn : l.length ≤ 1048576) (hgd : ∀ x ∈ l, good x.1 x.2 = true)
    (X7 : Whole w g5 92 (flat l ++ rest5)) :
    Calls Try.prog 78 #[.agg #[.int .i64 (r : Int), .int .i64 (c : Int), .slice (some ⟨g5, 0, none⟩) l.length cap], .int .i64 (i : Int)] w
      fun e w' => e = .returned (.tuple #[]) ∧ Whole w' g5 92 (flat (passL (numL c l) l i) ++ rest5) ∧ w.grownBy w' (some g5) := by
  have hget : l.getD i (0, 0) = l[i] := by rw [List.getD_eq_getElem?_getD, List.getElem?_eq_getElem hi]; rfl
  have u0 : (flat l ++ rest5)[i * 2]? = some (.int .i64 (l.getD i (0, 0)).1) := by rw [hget, List.getElem?_append_left (by rw [flat_length]; omega), (flat_at _ i hi).1]
  have u1 : (flat l ++ rest5)[i * 2 + 1]? = some (.int .i64 (l.getD i (0, 0)).2) := by rw [hget, List.getElem?_append_left (by rw [flat_length]; omega), (flat_at _ i hi).2]
  have hgood : good (l.getD i (0, 0)).1 (l.getD i (0, 0)).2 = true := by rw [hget]; exact hgd _ (List.getElem_mem hi)
  have HY3 := Lib.hid (passL_flip (nm := numL c l) (l := l) (i := i))
  have HY0 := Lib.hid (passL_none (nm := numL c l) (l := l) (i := i))
  have HQ := Lib.hid (fun w (h6 : (l.getD i (0, 0)).1 = 6) X => impl_turnGroup r c g5 cap l rest5 i w hG hi h6 hn hgd X)
  have HSet := Lib.hid (fun x y => flat_set l i x y hi rest5)
  generalize (l.getD i (0, 0)).1 = kd at *
  generalize (l.getD i (0, 0)).2 = st at *
  generalize passL (numL c l) l i = P at *
  clear hgd hG hget
  have hc0 : w.cell? ⟨g5, i * 2, none⟩ = some (.int .i64 kd) := (X7.cell _).trans u0
  have U0 := Lib.hid u0
  have U1 := Lib.hid u1
  clear u0 u1
  have h5 := X7.lt
  have hb1 : Below w.heap.size w (w.alloc (.cells #[.int .i64 (r : Int), .int .i64 (c : Int), .slice (some ⟨g5, 0, none⟩) l.length cap] 32)) := (Below.refl _ _).alloc (Nat.le_refl _) _
  by_cases h3 : kd = 3
  · subst h3
    go_enter Try.func78, Try.ntmps78
    go_upto_region 3 with (fail)
    obtain ⟨v0, hv0⟩ : ∃ v, v = w.alloc (.cells #[.int .i64 (r : Int), .int .i64 (c : Int), .slice (some ⟨g5, 0, none⟩) l.length cap] 32) := ⟨_, rfl⟩
    have X0 : Whole v0 w.heap.size 32 [.int .i64 (r : Int), .int .i64 (c : Int), .slice (some ⟨g5, 0, none⟩) l.length cap] := by rw [hv0]; exact heap_alloc_new w _
    rewrite [← hv0] at hb1 ⊢
    clear hv0
    replace X7 := X7.below hb1 h5
    have hgb : w.grownBy v0 (some g5) := gb_below (gb_refl w g5) hb1
    have bd : Below v0.heap.size v0 v0.drew := (Below.refl _ _).drew
    replace X0 := X0.below bd X0.lt
    replace X7 := X7.below bd X7.lt
    replace hgb := gb_below hgb bd
    have HTC := Lib.hid (impl_TurnCell_ok 3 st hgood (.inl rfl))
    have hk2 : v0.drew.cell? ⟨w.heap.size, 2, none⟩ = some (.slice (some ⟨g5, 0, none⟩) l.length cap) := (X0.cell 2).trans rfl
    have q0 : v0.drew.cell? ⟨g5, i * 2, none⟩ = some (.int .i64 3) := (X7.cell _).trans U0.out
    have q1 : v0.drew.cell? ⟨g5, i * 2 + 1, none⟩ = some (.int .i64 st) := (X7.cell _).trans U1.out
    clear bd hc0 hb1 hgood
    go_region_law (first
      | (go_simp; (with_reducible refine Calls.mono (HTC.out _) ?_); rintro e w5 ⟨rfl, b5⟩; replace X0 := X0.below b5 X0.lt; replace X7 := X7.below b5 X7.lt; replace hgb := gb_below hgb b5; replace hk2 : w5.cell? ⟨w.heap.size, 2, none⟩ = some (.slice (some ⟨g5, 0, none⟩) l.length cap) := (X0.cell 2).trans rfl; replace q0 : w5.cell? ⟨g5, i * 2, none⟩ = some (.int .i64 3) := (X7.cell _).trans U0.out; replace q1 : w5.cell? ⟨g5, i * 2 + 1, none⟩ = some (.int .i64 st) := (X7.cell _).trans U1.out; have f0 := X7.frozen (i * 2); have f1 := X7.frozen (i * 2 + 1); clear b5)
      | fail)
    all_goals (go_wp2; go_returns)
    all_goals (refine ⟨rfl, ?_, gb_set2 hgb⟩; rewrite [HY3.out trivial, ← HSet.out]; exact (X7.set (i * 2) (.int .i64 3)).set (i * 2 + 1) (.int .i64 (1 - st)))
  · by_cases h6 : kd = 6
    · subst h6
      go_enter Try.func78, Try.ntmps78
      go_wp2_with fail
      have X7' := X7.below hb1 h5
      refine (HQ.out _ trivial X7').mono ?_; rintro e w5 ⟨rfl, Y, gb⟩
      have hg2 : w.grownBy w5 (some g5) := ⟨gb.os.trans hb1.os, gb.tape.trans hb1.tape, gb.output.trans hb1.output, Nat.le_trans hb1.size gb.size, fun k hk hne => (gb.block k (Nat.lt_of_lt_of_le hk hb1.size) hne).trans (hb1.block k hk)⟩
      clear hc0 gb hb1 X7' HQ
      go_wp2
      go_returns
      exact ⟨rfl, Y, hg2⟩
    · go_enter Try.func78, Try.ntmps78
      have hE := HY0.out h3 h6
      have HG := Lib.hid (gb_below (gb_refl w g5) hb1)
      have HX := Lib.hid (X7.below hb1 h5)
      rewrite [hE]
      clear hE hb1 HQ HY0 HY3
      go_wp2
      go_returns
      exact ⟨rfl, HX.out, HG.out⟩
end Go.Proofs.Ytoflhjekldlaiaa
