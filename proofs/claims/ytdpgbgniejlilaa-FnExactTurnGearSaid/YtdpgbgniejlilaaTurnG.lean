/- TurnGear, program and model. -/
import Derived.Test.YtdpgbgniejlilaaTurnS
namespace Go.Proofs.Ytdpgbgniejlilaa
open Go.ChangeShapes Go.WideShapes Go.ChangeAt Go.RowKit Go.Joins Go.Deep
set_option linter.unusedSimpArgs false
set_option linter.unusedVariables false
set_option maxRecDepth 100000
set_option maxHeartbeats 4000000
theorem field_kind (a b : Value) (w : World) : (Instr.field 34 (.agg #[a, b]) 0).run Try.prog w = .ok a w := by kernel_rfl
theorem spec_ggGroupsN (r c : Nat) (A : Option Addr) (cap : Nat) (l : List (Int × Int)) (w : World) (hG : Geo r c l.length) (hr : Rd w w.heap.size A (flat l)) :
    Calls Try.prog 34 #[.agg #[.int .i64 (r : Int), .int .i64 (c : Int), .slice A l.length cap]] w fun e w' => ∃ A' cap', e = .returned (.slice A' l.length cap') ∧ Own w' A' 3 (ints (numL c l)) ∧ New w A' ∧ Below w.heap.size w w' :=
  (spec_ggGroups r c A cap l w hG hr).mono fun e w' h => by
    obtain ⟨A', cap', rfl, a, b, d⟩ := h
    exact ⟨A', cap', by rw [numL_len], a, b, d⟩
def okT (R C : Int) (l : List (Int × Int)) (i j : Int) : Bool := hasB R C l i j && gearK l (atI C i j)
def turnG (R C : Int) (l : List (Int × Int)) (i j : Int) : List (Int × Int) := if okT R C l i j then tnS l (isIn C l (nmb C l (atI C i j))) else []
theorem turnG_len (R C : Int) (l : List (Int × Int)) (i j : Int) (h : l.length ≤ 1048576) : (turnG R C l i j).length ≤ 1048576 := by
  unfold turnG
  split
  · rw [tnS_len]; exact h
  · simp
theorem turnG_post {w w' : World} {R C : Int} {l : List (Int × Int)} {i j : Int} {e : Ending} {ok : Bool} (h : okT R C l i j = ok) (hp : if ok then PostB w R C (tnS l (isIn C l (nmb C l (atI C i j)))) true e w' else PostB w 0 0 [] false e w') :
    PostB w (selI (okT R C l i j) R) (selI (okT R C l i j) C) (turnG R C l i j) (okT R C l i j) e w' := by
  unfold turnG
  rw [h]
  cases ok
  · exact hp
  · exact hp
theorem spec_TurnGear_has (R C : Int) (A : Option Addr) (cap : Nat) (l : List (Int × Int)) (i j : Int) (w : World) (hh : hasB R C l i j = false) (hn : l.length ≤ 1048576) (hr : Rd w w.heap.size A (flat l)) : Calls Try.prog 15 #[.agg #[.int .i64 R, .int .i64 C, .slice A l.length cap], .int .i64 i, .int .i64 j] w (PostB w 0 0 [] false) := by
  have HH := Lib.hid hh
  clear hh
  go_enter Try.func15, Try.ntmps15
  obtain ⟨v0, hv0, X0, X1, B0, hz0⟩ := two_boxes w [.int .i64 R, .int .i64 C, .slice A l.length cap] 30 [.int .i64 0, .int .i64 0, .slice none 0 0] 30; have HV := Lib.hid hv0; have hz : w.heap.size + 1 < v0.heap.size := (by omega); have hy : w.heap.size < v0.heap.size := (by omega); have hb0 := B0.size; clear hv0 hz0; go_wp2_with fail; rewrite [show (w.alloc (.cells ([.int .i64 R, .int .i64 C, .slice A l.length cap] : List Value).toArray 30)).alloc (.cells ([.int .i64 0, .int .i64 0, .slice none 0 0] : List Value).toArray 30) = v0 from HV.out]; clear HV
  refine (spec_boHas _ _ _ _ l _ _ _ hn ((hr.below B0).mono B0.size)).mono ?_; rintro e w1 ⟨rfl, b1⟩
  rewrite [HH.out]
  replace X0 := X0.below b1 X0.lt; replace X1 := X1.below b1 X1.lt; replace B0 := B0.trans (b1.mono B0.size); have hy := X0.lt; have hz := X1.lt; have hb0 := B0.size; clear b1
  (have X1k0 : w1.cell? ⟨w.heap.size + 1, 0, none⟩ = some (.int .i64 0) := (X1.cell 0).trans rfl; have X1k1 : w1.cell? ⟨w.heap.size + 1, 1, none⟩ = some (.int .i64 0) := (X1.cell 1).trans rfl; have X1k2 : w1.cell? ⟨w.heap.size + 1, 2, none⟩ = some (.slice none 0 0) := (X1.cell 2).trans rfl; have X1f0 := X1.frozen 0; have X1f1 := X1.frozen 1; have X1f2 := X1.frozen 2)
  go_wp2
  refine bodyPost_ret (v := .tuple #[.agg #[.int .i64 0, .int .i64 0, .slice none 0 0], .bool false]) ?_ rfl ?_; (focus (simp [results, Try.results15, go_sem, *]; done))
  exact PostB.none_ (by (repeat' (first | (with_reducible exact Below.refl _ _) | (with_reducible assumption) | (with_reducible refine Below.alloc ?_ ?_ _) | (with_reducible refine Below.setCell ?_ ?_ _) | (with_reducible refine Below.drew ?_) | (with_reducible refine below_drewN ?_ _) | (with_reducible refine Below.trans ?_ (Below.mono (by assumption) ?_)) | (with_reducible exact Nat.le_refl _) | (simp; done) | omega | (simp at *; omega))))
theorem spec_TurnGear_bad (R C : Int) (A : Option Addr) (cap : Nat) (l : List (Int × Int)) (i j : Int) (w : World) (hh : hasB R C l i j = true) (hk : gearK l (atI C i j) = false) (hn : l.length ≤ 1048576) (hr : Rd w w.heap.size A (flat l)) : Calls Try.prog 15 #[.agg #[.int .i64 R, .int .i64 C, .slice A l.length cap], .int .i64 i, .int .i64 j] w (PostB w 0 0 [] false) := by
  have HH := Lib.hid hh
  obtain ⟨hg, hi⟩ := hasB_and hh
  have HG := Lib.hid hg
  have HI := Lib.hid hi
  have hk6 : ¬ (l.getD (atI C i j) (0, 0)).1 = 6 := by unfold gearK at hk; simpa using hk
  have hfld := field_kind
  clear hh hg hi hk
  go_enter Try.func15, Try.ntmps15
  obtain ⟨v0, hv0, X0, X1, B0, hz0⟩ := two_boxes w [.int .i64 R, .int .i64 C, .slice A l.length cap] 30 [.int .i64 0, .int .i64 0, .slice none 0 0] 30; have HV := Lib.hid hv0; have hz : w.heap.size + 1 < v0.heap.size := (by omega); have hy : w.heap.size < v0.heap.size := (by omega); have hb0 := B0.size; clear hv0 hz0; go_wp2_with fail; rewrite [show (w.alloc (.cells ([.int .i64 R, .int .i64 C, .slice A l.length cap] : List Value).toArray 30)).alloc (.cells ([.int .i64 0, .int .i64 0, .slice none 0 0] : List Value).toArray 30) = v0 from HV.out]; clear HV
  refine (spec_boHas _ _ _ _ l _ _ _ hn ((hr.below B0).mono B0.size)).mono ?_; rintro e w1 ⟨rfl, b1⟩
  rewrite [HH.out]
  replace X0 := X0.below b1 X0.lt; replace X1 := X1.below b1 X1.lt; replace B0 := B0.trans (b1.mono B0.size); have hy := X0.lt; have hz := X1.lt; have hb0 := B0.size; clear b1
  have X0k0 : w1.cell? ⟨w.heap.size, 0, none⟩ = some (.int .i64 R) := (X0.cell 0).trans rfl; have X0k1 : w1.cell? ⟨w.heap.size, 1, none⟩ = some (.int .i64 C) := (X0.cell 1).trans rfl; have X0k2 : w1.cell? ⟨w.heap.size, 2, none⟩ = some (.slice A l.length cap) := (X0.cell 2).trans rfl
  go_wp2_with fail
  refine (spec_boAt _ _ _ _ l _ _ _ HG.out HI.out ((hr.below B0).mono B0.size)).mono ?_; rintro e w2 ⟨rfl, b2⟩
  clear X0k0 X0k1 X0k2
  replace X0 := X0.below b2 X0.lt; replace X1 := X1.below b2 X1.lt; replace B0 := B0.trans (b2.mono B0.size); have hy := X0.lt; have hz := X1.lt; have hb0 := B0.size; clear b2
  (have X1k0 : w2.cell? ⟨w.heap.size + 1, 0, none⟩ = some (.int .i64 0) := (X1.cell 0).trans rfl; have X1k1 : w2.cell? ⟨w.heap.size + 1, 1, none⟩ = some (.int .i64 0) := (X1.cell 1).trans rfl; have X1k2 : w2.cell? ⟨w.heap.size + 1, 2, none⟩ = some (.slice none 0 0) := (X1.cell 2).trans rfl; have X1f0 := X1.frozen 0; have X1f1 := X1.frozen 1; have X1f2 := X1.frozen 2)
  generalize (l.getD (atI C i j) (0, 0)).1 = kd at *
  generalize (l.getD (atI C i j) (0, 0)).2 = st at *
  go_wp2
  refine bodyPost_ret (v := .tuple #[.agg #[.int .i64 0, .int .i64 0, .slice none 0 0], .bool false]) ?_ rfl ?_; (focus (simp [results, Try.results15, go_sem, *]; done))
  exact PostB.none_ (by (repeat' (first | (with_reducible exact Below.refl _ _) | (with_reducible assumption) | (with_reducible refine Below.alloc ?_ ?_ _) | (with_reducible refine Below.setCell ?_ ?_ _) | (with_reducible refine Below.drew ?_) | (with_reducible refine below_drewN ?_ _) | (with_reducible refine Below.trans ?_ (Below.mono (by assumption) ?_)) | (with_reducible exact Nat.le_refl _) | (simp; done) | omega | (simp at *; omega))))
end Go.Proofs.Ytdpgbgniejlilaa
