/- For every text, ParseBoard of the program answers as the model does, and owns what it hands back. No condition. -/
import Derived.Test.YtdcaohmcidmigaaOpen
import Derived.Test.YtdcaohmcidmigaaMark
import Derived.Test.YtdcaohmcidmigaaBoxes
import Derived.Deep.RegionHeld3
import Derived.Deep.DeepCutAuto
import Derived.Test.YtdcaohmcidmigaaParseI
namespace Go.Proofs.Ytdcaohmcidmigaa
open Go.ChangeShapes Go.WideShapes Go.ChangeAt Go.RowKit Go.Joins Go.Deep
set_option linter.unusedSimpArgs false
set_option linter.unusedVariables false
set_option maxRecDepth 100000
set_option maxHeartbeats 4000000 in
theorem ParseBoard_walk0 (t0 : ByteArray) (w : World) (hm0 : t0.size ≤ maxLen) :
    Calls Try.prog 5 #[.string t0] w fun e w' => e = .returned (.bool true) ∧ Below w.heap.size w w' := by
  by_cases hn0 : t0.size ≤ 1048576
  · have hb0 : decide ((1048576 : Int) < (t0.size : Int)) = false := by simp; omega
    go_enter Try.func5, Try.ntmps5
    have B : Below w.heap.size w w := Below.refl _ _
    go_wp2_with fail
    refine (spec_ParseBoard _ _ hn0 ).mono ?_; rintro e w1 ⟨Aw0, cw0, rfl, Ow0, loOw0, b⟩
    replace B := B.trans (b.mono B.size)
    have s2 : w.heap.size ≤ w1.heap.size := b.size
    clear b
    have hiOw0 : ∀ a : Addr, Aw0 = some a → 0 < (prL t0.data.toList).length → a.block < w1.heap.size := fun a ha hx => Ow0.lt (pos_flat hx) ha
    go_wp2_with fail
    have b : Below w1.heap.size w1 (w1.alloc (.cells #[.int .i64 (selI (okQ t0.data.toList) (prR t0.data.toList)), .int .i64 (selI (okQ t0.data.toList) (prC t0.data.toList)), .slice Aw0 (prL t0.data.toList).length cw0] 30)) := (Below.refl _ _).alloc (Nat.le_refl _) _
    have Zw0 : Whole (w1.alloc (.cells #[.int .i64 (selI (okQ t0.data.toList) (prR t0.data.toList)), .int .i64 (selI (okQ t0.data.toList) (prC t0.data.toList)), .slice Aw0 (prL t0.data.toList).length cw0] 30)) w1.heap.size 30 [.int .i64 (selI (okQ t0.data.toList) (prR t0.data.toList)), .int .i64 (selI (okQ t0.data.toList) (prC t0.data.toList)), .slice Aw0 (prL t0.data.toList).length cw0] := heap_alloc_new w1 _
    replace Ow0 := Ow0.keep b
    replace B := B.trans (b.mono B.size)
    have s5 : w1.heap.size ≤ (w1.alloc (.cells #[.int .i64 (selI (okQ t0.data.toList) (prR t0.data.toList)), .int .i64 (selI (okQ t0.data.toList) (prC t0.data.toList)), .slice Aw0 (prL t0.data.toList).length cw0] 30)).heap.size := b.size
    clear b
    have hiZw0 := Zw0.lt
    generalize w1.alloc (.cells #[.int .i64 (selI (okQ t0.data.toList) (prR t0.data.toList)), .int .i64 (selI (okQ t0.data.toList) (prC t0.data.toList)), .slice Aw0 (prL t0.data.toList).length cw0] 30) = v4 at *
    refine (impl_ParseBoard _ _ hn0 ).mono ?_; rintro e w7 ⟨Ag0, cg0, rfl, Og0, loOg0, b⟩
    replace Ow0 := Ow0.keep b
    replace Zw0 := Zw0.below b Zw0.lt
    replace B := B.trans (b.mono B.size)
    have s8 : v4.heap.size ≤ w7.heap.size := b.size
    clear b
    have hiOg0 : ∀ a : Addr, Ag0 = some a → 0 < (prL t0.data.toList).length → a.block < w7.heap.size := fun a ha hx => Og0.lt (pos_flat hx) ha
    have zZw0 : w1.heap.size < w7.heap.size := Zw0.lt
    have kZw00 : w7.cell? ⟨w1.heap.size, 0, none⟩ = some (.int .i64 (selI (okQ t0.data.toList) (prR t0.data.toList))) := (Zw0.cell 0).trans rfl
    have kZw01 : w7.cell? ⟨w1.heap.size, 1, none⟩ = some (.int .i64 (selI (okQ t0.data.toList) (prC t0.data.toList))) := (Zw0.cell 1).trans rfl
    have kZw02 : w7.cell? ⟨w1.heap.size, 2, none⟩ = some (.slice Aw0 (prL t0.data.toList).length cw0) := (Zw0.cell 2).trans rfl
    go_wp2_with fail
    clear zZw0 kZw00 kZw01 kZw02
    have b : Below w7.heap.size w7 (w7.alloc (.cells #[.int .i64 (selI (okQ t0.data.toList) (prR t0.data.toList)), .int .i64 (selI (okQ t0.data.toList) (prC t0.data.toList)), .slice Ag0 (prL t0.data.toList).length cg0] 30)) := (Below.refl _ _).alloc (Nat.le_refl _) _
    have Zg0 : Whole (w7.alloc (.cells #[.int .i64 (selI (okQ t0.data.toList) (prR t0.data.toList)), .int .i64 (selI (okQ t0.data.toList) (prC t0.data.toList)), .slice Ag0 (prL t0.data.toList).length cg0] 30)) w7.heap.size 30 [.int .i64 (selI (okQ t0.data.toList) (prR t0.data.toList)), .int .i64 (selI (okQ t0.data.toList) (prC t0.data.toList)), .slice Ag0 (prL t0.data.toList).length cg0] := heap_alloc_new w7 _
    replace Ow0 := Ow0.keep b
    replace Zw0 := Zw0.below b Zw0.lt
    replace Og0 := Og0.keep b
    replace B := B.trans (b.mono B.size)
    have s11 : w7.heap.size ≤ (w7.alloc (.cells #[.int .i64 (selI (okQ t0.data.toList) (prR t0.data.toList)), .int .i64 (selI (okQ t0.data.toList) (prC t0.data.toList)), .slice Ag0 (prL t0.data.toList).length cg0] 30)).heap.size := b.size
    clear b
    have hiZg0 := Zg0.lt
    generalize w7.alloc (.cells #[.int .i64 (selI (okQ t0.data.toList) (prR t0.data.toList)), .int .i64 (selI (okQ t0.data.toList) (prC t0.data.toList)), .slice Ag0 (prL t0.data.toList).length cg0] 30) = v10 at *
    refine (eqBoard_any _ _ _ _ _ _ _ _ (prL t0.data.toList) (prL t0.data.toList) _ (prL_len _) (prL_len _) Og0.rd Ow0.rd).mono ?_; rintro e w13 ⟨rfl, b⟩
    rw [eqB_same]
    replace Ow0 := Ow0.keep b
    replace Zw0 := Zw0.below b Zw0.lt
    replace Og0 := Og0.keep b
    replace Zg0 := Zg0.below b Zg0.lt
    replace B := B.trans (b.mono B.size)
    have s14 : v10.heap.size ≤ w13.heap.size := b.size
    clear b
    have zZg0 : w7.heap.size < w13.heap.size := Zg0.lt
    have kZg00 : w13.cell? ⟨w7.heap.size, 0, none⟩ = some (.int .i64 (selI (okQ t0.data.toList) (prR t0.data.toList))) := (Zg0.cell 0).trans rfl
    have kZg01 : w13.cell? ⟨w7.heap.size, 1, none⟩ = some (.int .i64 (selI (okQ t0.data.toList) (prC t0.data.toList))) := (Zg0.cell 1).trans rfl
    have kZg02 : w13.cell? ⟨w7.heap.size, 2, none⟩ = some (.slice Ag0 (prL t0.data.toList).length cg0) := (Zg0.cell 2).trans rfl
    go_wp2_with fail
    refine (markBoard_n _ _ _ _ (prL t0.data.toList).length (flat (prL t0.data.toList)) _ _ (flat_length _) (prL_len _) (by omega) (by omega) Og0).mono ?_; rintro e w15 ⟨rfl, o, b⟩
    clear zZg0 kZg00 kZg01 kZg02
    replace Ow0 := Ow0.fx b (fun hp hx a a' ha ha' => by have h1 := loOg0 a' ha'; have h2 := hiOw0 a ha (flat_pos hx); omega)
    replace Zw0 := Zw0.fx b (fun hp a ha => own_apart Og0 Zw0 (by decide) (pos_flat hp) ha)
    replace Zg0 := Zg0.fx b (fun hp a ha => own_apart Og0 Zg0 (by decide) (pos_flat hp) ha)
    replace B := B.trans (b.below B.size (fun a ha => by have h1 := loOg0 a ha; omega))
    have s16 : w13.heap.size ≤ w15.heap.size := b.size
    clear b
    replace Og0 := o
    have zZg0 : w7.heap.size < w15.heap.size := Zg0.lt
    have kZg00 : w15.cell? ⟨w7.heap.size, 0, none⟩ = some (.int .i64 (selI (okQ t0.data.toList) (prR t0.data.toList))) := (Zg0.cell 0).trans rfl
    have kZg01 : w15.cell? ⟨w7.heap.size, 1, none⟩ = some (.int .i64 (selI (okQ t0.data.toList) (prC t0.data.toList))) := (Zg0.cell 1).trans rfl
    have kZg02 : w15.cell? ⟨w7.heap.size, 2, none⟩ = some (.slice Ag0 (prL t0.data.toList).length cg0) := (Zg0.cell 2).trans rfl
    go_wp2_with fail
    refine (heldBoard_any _ _ _ _ (prL t0.data.toList).length _ _ (prL_len _) (by omega) (by omega) Og0).mono ?_; rintro e w17 ⟨rfl, b⟩
    clear zZg0 kZg00 kZg01 kZg02
    replace Ow0 := Ow0.keep b
    replace Zw0 := Zw0.below b Zw0.lt
    replace Og0 := Og0.keep b
    replace Zg0 := Zg0.below b Zg0.lt
    replace B := B.trans (b.mono B.size)
    have s18 : w15.heap.size ≤ w17.heap.size := b.size
    clear b
    go_wp2_with fail
    refine (impl_ParseBoard _ _ hn0 ).mono ?_; rintro e w19 ⟨Ah0, ch0, rfl, Oh0, loOh0, b⟩
    replace Ow0 := Ow0.keep b
    replace Zw0 := Zw0.below b Zw0.lt
    replace Og0 := Og0.keep b
    replace Zg0 := Zg0.below b Zg0.lt
    replace B := B.trans (b.mono B.size)
    have s20 : w17.heap.size ≤ w19.heap.size := b.size
    clear b
    have hiOh0 : ∀ a : Addr, Ah0 = some a → 0 < (prL t0.data.toList).length → a.block < w19.heap.size := fun a ha hx => Oh0.lt (pos_flat hx) ha
    have zZw0 : w1.heap.size < w19.heap.size := Zw0.lt
    have kZw00 : w19.cell? ⟨w1.heap.size, 0, none⟩ = some (.int .i64 (selI (okQ t0.data.toList) (prR t0.data.toList))) := (Zw0.cell 0).trans rfl
    have kZw01 : w19.cell? ⟨w1.heap.size, 1, none⟩ = some (.int .i64 (selI (okQ t0.data.toList) (prC t0.data.toList))) := (Zw0.cell 1).trans rfl
    have kZw02 : w19.cell? ⟨w1.heap.size, 2, none⟩ = some (.slice Aw0 (prL t0.data.toList).length cw0) := (Zw0.cell 2).trans rfl
    go_wp2_with fail
    clear zZw0 kZw00 kZw01 kZw02
    have b : Below w19.heap.size w19 (w19.alloc (.cells #[.int .i64 (selI (okQ t0.data.toList) (prR t0.data.toList)), .int .i64 (selI (okQ t0.data.toList) (prC t0.data.toList)), .slice Ah0 (prL t0.data.toList).length ch0] 30)) := (Below.refl _ _).alloc (Nat.le_refl _) _
    have Zh0 : Whole (w19.alloc (.cells #[.int .i64 (selI (okQ t0.data.toList) (prR t0.data.toList)), .int .i64 (selI (okQ t0.data.toList) (prC t0.data.toList)), .slice Ah0 (prL t0.data.toList).length ch0] 30)) w19.heap.size 30 [.int .i64 (selI (okQ t0.data.toList) (prR t0.data.toList)), .int .i64 (selI (okQ t0.data.toList) (prC t0.data.toList)), .slice Ah0 (prL t0.data.toList).length ch0] := heap_alloc_new w19 _
    replace Ow0 := Ow0.keep b
    replace Zw0 := Zw0.below b Zw0.lt
    replace Og0 := Og0.keep b
    replace Zg0 := Zg0.below b Zg0.lt
    replace Oh0 := Oh0.keep b
    replace B := B.trans (b.mono B.size)
    have s23 : w19.heap.size ≤ (w19.alloc (.cells #[.int .i64 (selI (okQ t0.data.toList) (prR t0.data.toList)), .int .i64 (selI (okQ t0.data.toList) (prC t0.data.toList)), .slice Ah0 (prL t0.data.toList).length ch0] 30)).heap.size := b.size
    clear b
    have hiZh0 := Zh0.lt
    generalize w19.alloc (.cells #[.int .i64 (selI (okQ t0.data.toList) (prR t0.data.toList)), .int .i64 (selI (okQ t0.data.toList) (prC t0.data.toList)), .slice Ah0 (prL t0.data.toList).length ch0] 30) = v22 at *
    refine (eqBoard_any _ _ _ _ _ _ _ _ (prL t0.data.toList) (prL t0.data.toList) _ (prL_len _) (prL_len _) Oh0.rd Ow0.rd).mono ?_; rintro e w25 ⟨rfl, b⟩
    rw [eqB_same]
    replace Ow0 := Ow0.keep b
    replace Zw0 := Zw0.below b Zw0.lt
    replace Og0 := Og0.keep b
    replace Zg0 := Zg0.below b Zg0.lt
    replace Oh0 := Oh0.keep b
    replace Zh0 := Zh0.below b Zh0.lt
    replace B := B.trans (b.mono B.size)
    have s26 : v22.heap.size ≤ w25.heap.size := b.size
    clear b
    have zZg0 : w7.heap.size < w25.heap.size := Zg0.lt
    have kZg00 : w25.cell? ⟨w7.heap.size, 0, none⟩ = some (.int .i64 (selI (okQ t0.data.toList) (prR t0.data.toList))) := (Zg0.cell 0).trans rfl
    have kZg01 : w25.cell? ⟨w7.heap.size, 1, none⟩ = some (.int .i64 (selI (okQ t0.data.toList) (prC t0.data.toList))) := (Zg0.cell 1).trans rfl
    have kZg02 : w25.cell? ⟨w7.heap.size, 2, none⟩ = some (.slice Ag0 (prL t0.data.toList).length cg0) := (Zg0.cell 2).trans rfl
    go_wp2_with fail
    refine (heldBoard_any _ _ _ _ (prL t0.data.toList).length _ _ (prL_len _) (by omega) (by omega) Og0).mono ?_; rintro e w27 ⟨rfl, b⟩
    clear zZg0 kZg00 kZg01 kZg02
    replace Ow0 := Ow0.keep b
    replace Zw0 := Zw0.below b Zw0.lt
    replace Og0 := Og0.keep b
    replace Zg0 := Zg0.below b Zg0.lt
    replace Oh0 := Oh0.keep b
    replace Zh0 := Zh0.below b Zh0.lt
    replace B := B.trans (b.mono B.size)
    have s28 : w25.heap.size ≤ w27.heap.size := b.size
    clear b
    go_wp2
    go_returns
    exact ⟨rfl, B⟩
  · have hb0 : decide ((1048576 : Int) < (t0.size : Int)) = true := by simp; omega
    go_enter Try.func5, Try.ntmps5
    go_wp2
    go_returns
    exact ⟨rfl, by (repeat' (first | (with_reducible exact Below.refl _ _) | (with_reducible assumption) | (with_reducible refine Below.alloc ?_ ?_ _) | (with_reducible refine Below.setCell ?_ ?_ _) | (with_reducible refine Below.drew ?_) | (with_reducible refine below_drewN ?_ _) | (with_reducible refine Below.trans ?_ (Below.mono (by assumption) ?_)) | (with_reducible exact Nat.le_refl _) | (simp; done) | omega | (simp at *; omega)))⟩
theorem ParseBoard_walk : Walk Try.prog 5 Try.f5 := by
  intro H enc W base args ds ps hA hval
  rw [Try.params5] at hA hval
  obtain ⟨v0, vs0, d0, ds0, p0, q0, hv0, hd0, hp0, h0, r0⟩ := trodAll_cons hA
  obtain ⟨e1, e2, e3⟩ := trodAll_nil r0
  have ha : args = #[v0] := by
    apply Array.toList_inj.1
    rw [hv0, e1]
  subst ha
  obtain ⟨t0, rfl, rfl, rfl, hm0⟩ := ChangeMaps.open_string Try.underlying9 (hval 0 9 v0 rfl rfl) h0
  exact ParseBoard_walk0 t0 W hm0
set_option maxRecDepth 100000 in
theorem ParseBoard_holds : Rows.FnExactParseBoardSaid :=
  OpenClaim.holds_of_wide 5 Try.f5 rfl rfl rfl rfl rfl rfl rfl ⟨rfl, rfl, rfl, rfl, rfl⟩ rfl rfl rfl rfl rfl (by kernel_rfl) Try.func5 (by kernel_rfl)
    (of_decide_eq_true (by kernel_rfl)) (by unfold Func.isWrapper; first | (rw [if_pos (by decide +kernel)]; kernel_rfl) | (rw [if_neg (by decide +kernel)]; exact ⟨rfl, rfl⟩))
    (fun os started H enc _ => lifted (C := Try.checked) (s := Rows.fnExactParseBoardSpec) started own (by kernel_rfl) Try.func5 ⟨#[], #[.string ⟨#[]⟩], []⟩ 8 (by kernel_rfl) (by kernel_rfl) (by kernel_rfl) (by kernel_rfl) (by kernel_rfl)
      laidOut (by kernel_rfl) rfl rfl Try.underlying4 (fun ds h => by
        match ds, h with
        | [d0], _ => exact ⟨rfl, rfl, rfl⟩) ParseBoard_walk)
end Go.Proofs.Ytdcaohmcidmigaa
