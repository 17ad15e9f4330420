/- For every text, ReadCells of the program answers as the model does, and owns what it hands back. No condition. -/
import Derived.Test.YtgecihedocifjabList4
import Derived.Test.YtgecihedocifjabReadCells2
namespace Go.Proofs.Ytgecihedocifjab
open Go.ChangeShapes Go.WideShapes Go.ChangeAt Go.RowKit Go.Joins Go.Deep
set_option linter.unusedSimpArgs false
set_option linter.unusedVariables false
set_option maxRecDepth 100000
theorem readT_len (s : ByteArray) : (readT s).length ≤ 1048576 := by
  unfold readT cellsOr
  cases h : okT s
  · simp
  · have : s.size ≤ 90 := by unfold okT at h; simp at h; exact h.1
    simp [cellsB]; omega
set_option maxHeartbeats 1000000 in
theorem ReadCells_walk0 (s : ByteArray) (w : World) (hs : s.size ≤ maxLen) :
    Calls Try.prog 11 #[.string s] w fun e w' => e = .returned (.bool true) ∧ Below w.heap.size w w' := by
  by_cases hn : s.size ≤ 1048576
  · have hb : decide ((1048576 : Int) < (s.size : Int)) = false := by simp; omega
    have hlen := readT_len s
    go_enter Try.func11, Try.ntmps11
    go_wp2_with fail
    refine (spec_ReadCells s _ hn).mono ?_; rintro e w1 ⟨A0, c0, rfl, o0, n0, b1⟩
    have B1 := b1
    go_wp2_with fail
    refine (impl_ReadCells s _ hn).mono ?_; rintro e w2 ⟨A1, c1, rfl, o1, n1, b2⟩
    have B2 := B1.trans (b2.mono B1.size)
    have q0 := o0.keep b2
    go_wp2_with fail
    refine (eqCellS_any _ _ _ _ _ _ _ hlen hlen o1.rd q0.rd).mono ?_; rintro e w3 ⟨rfl, b3⟩
    have B3 := B2.trans (b3.mono B2.size)
    have o1a := o1.keep b3
    have q0a := q0.keep b3
    go_wp2_with fail
    refine (markCellS_any _ _ (readT s).length (flat (readT s)) _ _ (flat_length _) hlen (by omega) (by omega) o1a).mono ?_; rintro e w4 ⟨rfl, m4, s4⟩
    have L12 := b2.size
    have b4 : Below w1.heap.size w3 w4 := s4.below (Nat.le_trans L12 b3.size) n1
    have B4 := B3.trans (b4.mono B1.size)
    have q0b := q0a.only s4 (fun hx a a' ha ha' => by have h1 := o0.lt hx ha; have h2 := n1 a' ha'; exact Nat.ne_of_lt (Nat.lt_of_lt_of_le h1 h2))
    go_wp2_with fail
    refine (heldCellS_any _ _ (readT s).length _ _ hlen (by omega) (by omega) m4).mono ?_; rintro e w5 ⟨rfl, rfl⟩
    go_wp2_with fail
    refine (impl_ReadCells s _ hn).mono ?_; rintro e w6 ⟨A2, c2, rfl, o2, n2, b6⟩
    have B6 := B4.trans (b6.mono B4.size)
    have q0c := q0b.keep b6
    have m6 := m4.keep b6
    go_wp2_with fail
    refine (eqCellS_any _ _ _ _ _ _ _ hlen hlen o2.rd q0c.rd).mono ?_; rintro e w7 ⟨rfl, b7⟩
    have B7 := B6.trans (b7.mono B6.size)
    have m7 := m6.keep b7
    go_wp2_with fail
    refine (heldCellS_any _ _ (readT s).length _ _ hlen (by omega) (by omega) m7).mono ?_; rintro e w8 ⟨rfl, rfl⟩
    go_wp2
    go_returns
    exact ⟨rfl, B7⟩
  · have hb : decide ((1048576 : Int) < (s.size : Int)) = true := by simp; omega
    go_enter Try.func11, Try.ntmps11
    go_wp2
    go_returns
    exact ⟨rfl, by (repeat' (first | (with_reducible exact Below.refl _ _) | (with_reducible assumption) | (with_reducible refine Below.alloc ?_ ?_ _) | (with_reducible refine Below.setCell ?_ ?_ _) | (with_reducible refine Below.drew ?_) | (with_reducible refine below_drewN ?_ _) | (with_reducible refine Below.trans ?_ (Below.mono (by assumption) ?_)) | (with_reducible exact Nat.le_refl _) | (simp; done) | omega | (simp at *; omega)))⟩
theorem ReadCells_walk : Walk Try.prog 11 Try.f11 := by
  intro H enc W base args ds ps hA hval
  rw [Try.params11] at hA hval
  obtain ⟨v0, d0, rfl, rfl, h0⟩ := trodAll_one hA
  obtain ⟨s, rfl, rfl, rfl, hs⟩ := ChangeMaps.open_string Try.underlying9 (hval 0 9 v0 rfl rfl) h0
  exact ReadCells_walk0 s W hs
set_option maxRecDepth 100000 in
theorem ReadCells_holds : Rows.FnExactReadCellsSaid :=
  OpenClaim.holds_of_wide 11 Try.f11 rfl rfl rfl rfl rfl rfl rfl ⟨rfl, rfl, rfl, rfl, rfl⟩ rfl rfl rfl rfl rfl (by kernel_rfl) Try.func11 (by kernel_rfl)
    (of_decide_eq_true (by kernel_rfl)) (by unfold Func.isWrapper; first | (rw [if_pos (by decide +kernel)]; kernel_rfl) | (rw [if_neg (by decide +kernel)]; exact ⟨rfl, rfl⟩))
    (fun os started H enc _ => lifted (C := Try.checked) (s := Rows.fnExactReadCellsSpec) started own (by kernel_rfl) Try.func11 ⟨#[], #[.string ⟨#[]⟩], []⟩ 8 (by kernel_rfl) (by kernel_rfl) (by kernel_rfl) (by kernel_rfl) (by kernel_rfl)
      laidOut (by kernel_rfl) rfl rfl Try.underlying4 (fun ds h => by
        match ds, h with
        | [d0], _ => exact ⟨rfl, rfl, rfl⟩) ReadCells_walk)
end Go.Proofs.Ytgecihedocifjab
