/- ReadCell, program and model. -/
import Derived.Test.YtgecihedocifjabWith
namespace Go.Proofs.Ytgecihedocifjab
open Go.ChangeShapes Go.WideShapes Go.ChangeAt Go.RowKit Go.Joins Go.Deep
set_option linter.unusedSimpArgs false
set_option linter.unusedVariables false
set_option maxRecDepth 100000
set_option maxHeartbeats 400000
theorem spec_ReadCell (s : ByteArray) (w : World) :
    Calls Try.prog 21 #[.string s] w fun e w' => e = .returned (.tuple #[.agg #[.int .i64 (rdK s), .int .i64 (rdS s)], .bool (rdC s).isSome]) ∧ Below w.heap.size w w' := by
  go_enter Try.func21, Try.ntmps21
  go_wp2_with fail; refine (spec_paRead _ _).mono ?_; rintro e w1 ⟨rfl, bw1⟩; obtain ⟨cw1, fw1⟩ := bcell bw1; have zw10 : w.heap.size < w1.heap.size := (by have := bw1.size; first | omega | (simp at this; omega))
  go_wp2
  refine bodyPost_ret (v := .tuple #[.agg #[.int .i64 (rdK s), .int .i64 (rdS s)], .bool (rdC s).isSome]) ?_ rfl ?_; (focus (simp [results, Try.results21, go_sem, *]; done))
  exact ⟨rfl, by (repeat' (first | (with_reducible exact Below.refl _ _) | (with_reducible assumption) | (with_reducible refine Below.alloc ?_ ?_ _) | (with_reducible refine Below.setCell ?_ ?_ _) | (with_reducible refine Below.drew ?_) | (with_reducible refine below_drewN ?_ _) | (with_reducible refine Below.trans ?_ (Below.mono (by assumption) ?_)) | (with_reducible exact Nat.le_refl _) | (simp; done) | omega | (simp at *; omega)))⟩
theorem data_one {s : ByteArray} (h : s.size = 1) (h0 : 0 < s.size) : s.toList = [s[0]] := by
  rw [ByteArray.toList_eq]
  have hl : s.data.toList.length = 1 := by simpa using h
  match hd : s.data.toList, hl with
  | [b], _ =>
    have : s[0] = b := by
      have h1 : s.data.toList[0]? = some b := by rw [hd]; rfl
      have h2 : s.data[0]? = some b := by simpa using h1
      have h3 : s.data[0]? = some (s.data[0]'(by simpa using h0)) := by simp
      rw [h3] at h2
      exact Option.some.inj h2
    rw [this]
theorem rd_one {s : ByteArray} (h : s.size = 1) (h0 : 0 < s.size) : rdC s = rrC (s[0].toNat : Int) := by
  unfold rdC rrC
  congr 1
  funext c
  unfold isLet isR
  rw [data_one h h0, Bool.eq_iff_iff]
  simp only [beq_iff_eq, List.cons.injEq, and_true]
  rw [← UInt8.toNat_inj]
  omega
theorem rd_not {s : ByteArray} (h : ¬ s.size = 1) : rdC s = none := by
  unfold rdC
  rw [List.find?_eq_none]
  intro c _ hc
  unfold isLet at hc
  simp only [beq_iff_eq] at hc
  have h2 : s.toList.length = 1 := by rw [← hc]; rfl
  rw [ByteArray.toList_eq] at h2
  exact h (by simpa using h2)
theorem byte32 (b : UInt8) : wrap32 (b.toNat : Int) = (b.toNat : Int) := by
  have := b.toNat_lt
  unfold wrap32
  omega
theorem impl_ReadCell (s : ByteArray) (w : World) (hs : s.size ≤ maxLen) :
    Calls Try.prog 22 #[.string s] w fun e w' => e = .returned (.tuple #[.agg #[.int .i64 (rdK s), .int .i64 (rdS s)], .bool (rdC s).isSome]) ∧ Below w.heap.size w w' := by
  unfold maxLen at hs
  by_cases h1 : s.size = 1
  · have hb : ((s.size : Int) != 1) = false := by simp [h1]
    have h0 : 0 < s.size := by omega
    have HS := Lib.hid h1
    clear h1
    go_enter Try.func22, Try.ntmps22
    go_wp2_with fail
    rw [byte32]
    refine (impl_cellWith _ _).mono ?_; rintro e w1 ⟨rfl, b1⟩; obtain ⟨c1, f1⟩ := bcell b1
    have z1 : w.heap.size < w1.heap.size := by have := b1.size; simp at this; omega
    have HR := Lib.hid (rd_one HS.out h0)
    go_wp2
    refine bodyPost_ret (v := .tuple #[.agg #[.int .i64 (rrK (s[0].toNat : Int)), .int .i64 (rrS (s[0].toNat : Int))], .bool (rrC (s[0].toNat : Int)).isSome]) ?_ rfl ?_; (focus (simp [results, Try.results22, go_sem, *]; done))
    refine ⟨ret_eq ?_, by (repeat' (first | (with_reducible exact Below.refl _ _) | (with_reducible assumption) | (with_reducible refine Below.alloc ?_ ?_ _) | (with_reducible refine Below.setCell ?_ ?_ _) | (with_reducible refine Below.drew ?_) | (with_reducible refine below_drewN ?_ _) | (with_reducible refine Below.trans ?_ (Below.mono (by assumption) ?_)) | (with_reducible exact Nat.le_refl _) | (simp; done) | omega | (simp at *; omega)))⟩
    unfold rdK rdS
    rw [HR.out]
    rfl
  · have hb : ((s.size : Int) != 1) = true := by simp; omega
    have HR := Lib.hid (rd_not h1)
    clear h1
    go_enter Try.func22, Try.ntmps22
    go_wp2
    refine bodyPost_ret (v := .tuple #[.agg #[.int .i64 0, .int .i64 0], .bool false]) ?_ rfl ?_; (focus (simp [results, Try.results22, go_sem, *]; done))
    refine ⟨ret_eq ?_, by (repeat' (first | (with_reducible exact Below.refl _ _) | (with_reducible assumption) | (with_reducible refine Below.alloc ?_ ?_ _) | (with_reducible refine Below.setCell ?_ ?_ _) | (with_reducible refine Below.drew ?_) | (with_reducible refine below_drewN ?_ _) | (with_reducible refine Below.trans ?_ (Below.mono (by assumption) ?_)) | (with_reducible exact Nat.le_refl _) | (simp; done) | omega | (simp at *; omega)))⟩
    unfold rdK rdS
    rw [HR.out]
    rfl
theorem ReadCell_walk0 (s : ByteArray) (w : World) (hs : s.size ≤ maxLen) :
    Calls Try.prog 6 #[.string s] w fun e w' => e = .returned (.bool true) ∧ Below w.heap.size w w' := by
  by_cases hn : s.size ≤ 1048576
  · have hb : decide ((1048576 : Int) < (s.size : Int)) = false := by simp; omega
    go_enter Try.func6, Try.ntmps6
    go_wp2_with fail
    refine (spec_ReadCell _ _).mono ?_; rintro e w1 ⟨rfl, b1⟩
    go_wp2_with fail
    refine (impl_ReadCell _ _ hs).mono ?_; rintro e w2 ⟨rfl, b2⟩; obtain ⟨c2, f2⟩ := bcell b2
    have z2 : w1.heap.size < w2.heap.size := by have := b2.size; simp at this; omega
    have s1 := b1.size
    go_wp2_with fail
    refine (eqCell_any _ _ _ _ _).mono ?_; rintro e w3 ⟨rfl, b3⟩
    go_wp2
    go_returns
    exact ⟨rfl, by (repeat' (first | (with_reducible exact Below.refl _ _) | (with_reducible assumption) | (with_reducible refine Below.alloc ?_ ?_ _) | (with_reducible refine Below.setCell ?_ ?_ _) | (with_reducible refine Below.drew ?_) | (with_reducible refine below_drewN ?_ _) | (with_reducible refine Below.trans ?_ (Below.mono (by assumption) ?_)) | (with_reducible exact Nat.le_refl _) | (simp; done) | omega | (simp at *; omega)))⟩
  · have hb : decide ((1048576 : Int) < (s.size : Int)) = true := by simp; omega
    go_enter Try.func6, Try.ntmps6
    go_wp2
    go_returns
    exact ⟨rfl, by (repeat' (first | (with_reducible exact Below.refl _ _) | (with_reducible assumption) | (with_reducible refine Below.alloc ?_ ?_ _) | (with_reducible refine Below.setCell ?_ ?_ _) | (with_reducible refine Below.drew ?_) | (with_reducible refine below_drewN ?_ _) | (with_reducible refine Below.trans ?_ (Below.mono (by assumption) ?_)) | (with_reducible exact Nat.le_refl _) | (simp; done) | omega | (simp at *; omega)))⟩
theorem ReadCell_walk : Walk Try.prog 6 Try.f6 := by
  intro H enc W base args ds ps hA hval
  rw [Try.params6] at hA hval
  obtain ⟨v0, d0, rfl, rfl, h0⟩ := trodAll_one hA
  obtain ⟨s, rfl, rfl, rfl, hs⟩ := ChangeMaps.open_string Try.underlying9 (hval 0 9 v0 rfl rfl) h0
  exact ReadCell_walk0 s W hs
end Go.Proofs.Ytgecihedocifjab
