/- For every number, KindName of the program answers as the model does; nothing old is changed. The row lists the table of names; the card ties it to the program's text. -/
import Derived.Test.YtgecihedocifjabDoorCardBase
namespace Go.Proofs.YtgecihedocifjabDoor
open Go.ChangeShapes Go.WideShapes Go.ChangeAt Go.RowKit Go.Joins Go.Deep
set_option linter.unusedSimpArgs false
set_option linter.unusedVariables false
set_option maxRecDepth 100000
set_option maxHeartbeats 400000
def nameOf (k : Nat) : List UInt8 := match k with
  | 0 => [101, 109, 112, 116, 121] | 1 => [108, 101, 102, 116] | 2 => [114, 105, 103, 104, 116] | 3 => [102, 108, 105, 112] | 4 => [99, 114, 111, 115, 115] | 5 => [115, 116, 111, 112] | 6 => [103, 101, 97, 114] | _ => [99, 111, 103]
def names : List (List UInt8) := (List.range 8).map nameOf
theorem gTab : Tryd.prog.globalNamed "loop.example/g00942/impl.kindNames" = some 0 := by kernel_rfl
theorem gTabType : (Tryd.prog.globals[0]?).map (·.type) = some 27 := by kernel_rfl
theorem table {W : World} (h : laidMetH Tryd.prog Rows.fnExactKindNameRow.laid W) (k : Nat) (hk : k < 8) : W.cell? ⟨0, k, none⟩ = some (.string ⟨(nameOf k).toArray⟩) := by
  have h' : laidMet Tryd.prog [("loop.example/g00942/impl.kindNames", textData names)] W := h
  obtain ⟨ps, ⟨g', t', cs, fuel, p, q, hg', ht', hvar, hd, _, _⟩, _⟩ := h'
  obtain rfl := Option.some.inj (gTab.symm.trans hg')
  obtain rfl := Option.some.inj (gTabType.symm.trans ht')
  rw [World.var?_cell gTab hvar k]
  have := texts_of Tryd.underlying27 Tryd.underlying9 (by kernel_rfl) hd k (nameOf k) (by simp [names, hk])
  simpa using this
theorem spec_l1In (a b c : Int) (w : World) :
    Calls Tryd.prog 6 #[.int .i64 a, .int .i64 b, .int .i64 c] w fun e w' => e = .returned (.bool (decide (b ≤ a) && decide (a ≤ c))) ∧ w = w' := by
  by_cases h1 : b ≤ a
  all_goals go_enter Tryd.func6, Tryd.ntmps6
  all_goals go_wp2
  all_goals go_returns
  all_goals exact ⟨ret_bool (by (first | rfl | (refine Bool.eq_iff_iff.2 ?_; simp only [Bool.and_eq_true, Bool.or_eq_true, Bool.not_eq_true', decide_eq_true_eq, decide_eq_false_iff_not, beq_iff_eq, bne_iff_ne, ne_eq, true_iff, iff_true, false_iff, iff_false, Bool.false_eq_true, Bool.true_eq_false] <;> omega) | (simp; omega))), rfl⟩
theorem impl_isKind (a : Int) (w : World) :
    Calls Tryd.prog 7 #[.int .i64 a] w fun e w' => e = .returned (.bool (decide (0 ≤ a) && decide (a ≤ 7))) ∧ w = w' := by
  go_enter Tryd.func7, Tryd.ntmps7
  go_wp2
  all_goals go_returns
  all_goals refine ⟨ret_bool (by (first | rfl | (refine Bool.eq_iff_iff.2 ?_; simp only [Bool.and_eq_true, Bool.or_eq_true, Bool.not_eq_true', decide_eq_true_eq, decide_eq_false_iff_not, beq_iff_eq, bne_iff_ne, ne_eq, true_iff, iff_true, false_iff, iff_false, Bool.false_eq_true, Bool.true_eq_false] <;> omega) | (simp; omega))), rfl⟩
theorem spec_KindName_yes (k : Nat) (hk : k < 8) (w : World) :
    Calls Tryd.prog 4 #[.int .i64 (k : Int)] w fun e w' => e = .returned (.tuple #[.string ⟨(nameOf k).toArray⟩, .bool true]) ∧ Below w.heap.size w w' := by
  have hk8 : k = 0 ∨ k = 1 ∨ k = 2 ∨ k = 3 ∨ k = 4 ∨ k = 5 ∨ k = 6 ∨ k = 7 := by omega
  rcases hk8 with rfl | rfl | rfl | rfl | rfl | rfl | rfl | rfl
  all_goals go_enter Tryd.func4, Tryd.ntmps4
  all_goals go_wp2
  all_goals go_returns
  all_goals exact ⟨rfl, by (repeat' (first | (with_reducible exact Below.refl _ _) | (with_reducible assumption) | (with_reducible refine Below.alloc ?_ ?_ _) | (with_reducible refine Below.setCell ?_ ?_ _) | (with_reducible refine Below.drew ?_) | (with_reducible refine below_drewN ?_ _) | (with_reducible refine Below.trans ?_ (Below.mono (by assumption) ?_)) | (with_reducible exact Nat.le_refl _) | (simp; done) | omega | (simp at *; omega)))⟩
theorem spec_KindName_no (a : Int) (h : ¬ (0 ≤ a ∧ a ≤ 7)) (w : World) :
    Calls Tryd.prog 4 #[.int .i64 a] w fun e w' => e = .returned (.tuple #[.string ⟨#[]⟩, .bool false]) ∧ Below w.heap.size w w' := by
  have hb : (decide (0 ≤ a) && decide (a ≤ 7)) = false := by simp; omega
  have HB := Lib.hid hb
  clear hb h
  go_enter Tryd.func4, Tryd.ntmps4
  go_wp2_with fail
  refine (spec_l1In _ _ _ _).mono ?_; rintro e w1 ⟨rfl, rfl⟩
  rw [HB.out]
  go_wp2
  go_returns
  exact ⟨rfl, by (repeat' (first | (with_reducible exact Below.refl _ _) | (with_reducible assumption) | (with_reducible refine Below.alloc ?_ ?_ _) | (with_reducible refine Below.setCell ?_ ?_ _) | (with_reducible refine Below.drew ?_) | (with_reducible refine below_drewN ?_ _) | (with_reducible refine Below.trans ?_ (Below.mono (by assumption) ?_)) | (with_reducible exact Nat.le_refl _) | (simp; done) | omega | (simp at *; omega)))⟩
theorem impl_KindName_yes (k : Nat) (hk : k < 8) (w : World) (hc : w.cell? ⟨0, k, none⟩ = some (.string ⟨(nameOf k).toArray⟩)) :
    Calls Tryd.prog 5 #[.int .i64 (k : Int)] w fun e w' => e = .returned (.tuple #[.string ⟨(nameOf k).toArray⟩, .bool true]) ∧ Below w.heap.size w w' := by
  have hb : (decide (0 ≤ (k : Int)) && decide ((k : Int) ≤ 7)) = true := by simp; omega
  have HB := Lib.hid hb
  clear hb
  generalize (nameOf k).toArray = nm at *
  go_enter Tryd.func5, Tryd.ntmps5
  go_wp2_with fail
  refine (impl_isKind _ _).mono ?_; rintro e w1 ⟨rfl, rfl⟩
  rw [HB.out]
  go_wp2
  go_returns
  exact ⟨rfl, by (repeat' (first | (with_reducible exact Below.refl _ _) | (with_reducible assumption) | (with_reducible refine Below.alloc ?_ ?_ _) | (with_reducible refine Below.setCell ?_ ?_ _) | (with_reducible refine Below.drew ?_) | (with_reducible refine below_drewN ?_ _) | (with_reducible refine Below.trans ?_ (Below.mono (by assumption) ?_)) | (with_reducible exact Nat.le_refl _) | (simp; done) | omega | (simp at *; omega)))⟩
theorem impl_KindName_no (a : Int) (h : ¬ (0 ≤ a ∧ a ≤ 7)) (w : World) :
    Calls Tryd.prog 5 #[.int .i64 a] w fun e w' => e = .returned (.tuple #[.string ⟨#[]⟩, .bool false]) ∧ Below w.heap.size w w' := by
  have hb : (decide (0 ≤ a) && decide (a ≤ 7)) = false := by simp; omega
  have HB := Lib.hid hb
  clear hb h
  go_enter Tryd.func5, Tryd.ntmps5
  go_wp2_with fail
  refine (impl_isKind _ _).mono ?_; rintro e w1 ⟨rfl, rfl⟩
  rw [HB.out]
  go_wp2
  go_returns
  exact ⟨rfl, by (repeat' (first | (with_reducible exact Below.refl _ _) | (with_reducible assumption) | (with_reducible refine Below.alloc ?_ ?_ _) | (with_reducible refine Below.setCell ?_ ?_ _) | (with_reducible refine Below.drew ?_) | (with_reducible refine below_drewN ?_ _) | (with_reducible refine Below.trans ?_ (Below.mono (by assumption) ?_)) | (with_reducible exact Nat.le_refl _) | (simp; done) | omega | (simp at *; omega)))⟩
theorem KindName_walk0 (a : Int) (w : World) (hg : 0 < w.heap.size) (hc : ∀ k, k < 8 → w.cell? ⟨0, k, none⟩ = some (.string ⟨(nameOf k).toArray⟩)) :
    Calls Tryd.prog 3 #[.int .i64 a] w fun e w' => e = .returned (.bool true) ∧ Below w.heap.size w w' := by
  by_cases h : 0 ≤ a ∧ a ≤ 7
  · obtain ⟨k, rfl⟩ := Int.eq_ofNat_of_zero_le h.1
    have hk : k < 8 := by omega
    have hck := hc k hk
    clear hc h
    go_enter Tryd.func3, Tryd.ntmps3
    go_wp2_with fail
    refine (spec_KindName_yes k hk _).mono ?_; rintro e w1 ⟨rfl, b1⟩
    go_wp2_with fail
    refine (impl_KindName_yes k hk _ ((b1.cell (p := ⟨0, k, none⟩) hg).trans hck)).mono ?_; rintro e w2 ⟨rfl, b2⟩
    have s1 := b1.size
    generalize (nameOf k).toArray = nm at *
    go_wp2
    go_returns
    exact ⟨rfl, by (repeat' (first | (with_reducible exact Below.refl _ _) | (with_reducible assumption) | (with_reducible refine Below.alloc ?_ ?_ _) | (with_reducible refine Below.setCell ?_ ?_ _) | (with_reducible refine Below.drew ?_) | (with_reducible refine below_drewN ?_ _) | (with_reducible refine Below.trans ?_ (Below.mono (by assumption) ?_)) | (with_reducible exact Nat.le_refl _) | (simp; done) | omega | (simp at *; omega)))⟩
  · go_enter Tryd.func3, Tryd.ntmps3
    go_wp2_with fail
    refine (spec_KindName_no a h _).mono ?_; rintro e w1 ⟨rfl, b1⟩
    go_wp2_with fail
    refine (impl_KindName_no a h _).mono ?_; rintro e w2 ⟨rfl, b2⟩
    have s1 := b1.size
    go_wp2
    go_returns
    exact ⟨rfl, by (repeat' (first | (with_reducible exact Below.refl _ _) | (with_reducible assumption) | (with_reducible refine Below.alloc ?_ ?_ _) | (with_reducible refine Below.setCell ?_ ?_ _) | (with_reducible refine Below.drew ?_) | (with_reducible refine below_drewN ?_ _) | (with_reducible refine Below.trans ?_ (Below.mono (by assumption) ?_)) | (with_reducible exact Nat.le_refl _) | (simp; done) | omega | (simp at *; omega)))⟩
theorem KindName_walk : WalkL Tryd.prog 3 Tryd.f3 Rows.fnExactKindNameRow.laid := by
  intro H enc W base args ds ps hA hval hL
  rw [Tryd.params3] at hA hval
  obtain ⟨v0, d0, rfl, rfl, h0⟩ := trodAll_one hA
  obtain ⟨a, rfl, rfl, rfl, -⟩ := open_int Tryd.underlying3 (hval 0 3 v0 rfl rfl) h0
  have ht := table hL
  exact KindName_walk0 a W (lt_of_cell (ht 0 (by omega))) ht
/-- A world for the witness: the settled one, the table holding what its initialiser lays. -/
noncomputable def laidWorld (os : Os) : World :=
  { World.holding Tryd.prog os ⟨#[], #[], []⟩ with heap := (World.holding Tryd.prog os ⟨#[], #[], []⟩).heap.modify 0 fun
      | .cells _ t frozen => .cells (names.map fun s => Value.string ⟨s.toArray⟩).toArray t frozen
      | o => o }
theorem laid_met (os : Os) : laidMet Tryd.prog Rows.fnExactKindNameRow.laid ((laidWorld os).forCall (fun _ _ => 0) ⟨#[], #[.int .i64 0], []⟩).memory :=
  laidMet_of_run' 8 (by kernel_rfl) (by kernel_rfl)
theorem reads (os : Os) {H : Type} (enc : TypeId × Value → H) : ∃ places, DataW.whole enc Tryd.prog ((laidWorld os).forCall (fun _ _ => 0) ⟨#[], #[.int .i64 0], []⟩).memory Tryd.f3.params.toList Rows.fnExactKindNameSpec.vars false #[Value.int .i64 0].toList 8 = some ([.lit (.int .i64 0)], [textData names], places) :=
  ⟨MemPlace.row ⟨0, 0, none⟩ 8, by kernel_rfl⟩
set_option maxRecDepth 100000 in
theorem KindName_said : Rows.FnExactKindNameSaid :=
  OpenClaim.holds_of_cond 3 Tryd.f3 rfl rfl rfl rfl rfl rfl rfl ⟨rfl, rfl, rfl, rfl, rfl⟩ rfl rfl rfl rfl rfl (by kernel_rfl) Tryd.func3 (by kernel_rfl)
    (of_decide_eq_true (by kernel_rfl)) (by unfold Func.isWrapper; first | (rw [if_pos (by decide +kernel)]; kernel_rfl) | (rw [if_neg (by decide +kernel)]; exact ⟨rfl, rfl⟩))
    (fun os started H enc _ F => by
      rw [OpenClaim.pre_eq_preRow]
      obtain ⟨places, hx⟩ := reads os enc
      exact liftedL (C := Tryd.checked) (s := Rows.fnExactKindNameSpec) (laid := Rows.fnExactKindNameRow.laid) started own (by kernel_rfl) Tryd.func3
        (witness_row_at (enc := enc) (C := Tryd.checked) false (laidWorld os) #[.int .i64 0] rfl (by kernel_rfl) (by kernel_rfl) (by kernel_rfl)
          (OpenSpec.preRow_of_cond 8 hx (by kernel_rfl) (fun k hk => by cases hk) (by kernel_rfl) (laid_met os)))
        laidOut (by kernel_rfl) (by kernel_rfl) rfl Tryd.underlying4 (fun ds gs h1 h2 => by
          match ds, h1, gs, h2 with
          | [d0], _, [g0], _ => exact ⟨rfl, rfl, rfl⟩) KindName_walk)
theorem plain (f : FuncId) (fn : Func) (hf : Tryd.pinned.checked.prog.funcNamed "loop.example/g00942/laws.FnExactKindName" = some f) (hfn : Tryd.pinned.checked.prog.funcs[f]? = some fn) :
    false = Tryd.pinned.checked.prog.looks [] ∧ ∀ (j : Nat) t, fn.params[j]? = some t → Tryd.pinned.checked.prog.wantsStandIn t = false := by
  obtain rfl : f = 3 := Option.some.inj ((show Tryd.prog.funcNamed "loop.example/g00942/laws.FnExactKindName" = some 3 by kernel_rfl).symm.trans hf) |>.symm
  obtain rfl : fn = Tryd.f3 := (Option.some.inj (Tryd.func3.symm.trans hfn)).symm
  refine ⟨by kernel_rfl, fun j t ht => ?_⟩
  rw [Tryd.params3] at ht
  obtain rfl : t = 3 := by simpa using Array.mem_of_getElem? ht
  exact (show Tryd.prog.wantsStandIn 3 = false by kernel_rfl)
theorem KindName_card : Rows.FnExactKindNameCardSaid :=
  Claim7.holds_tied_plain_at .later [] _ _ _ _ KindName_said (fun _ h => by cases h) (by kernel_rfl) (fun _ h => by cases h) fnExactKindName_row_tie rfl ⟨rfl, rfl⟩ (by kernel_rfl) rfl plain (by kernel_rfl)
end Go.Proofs.YtgecihedocifjabDoor
