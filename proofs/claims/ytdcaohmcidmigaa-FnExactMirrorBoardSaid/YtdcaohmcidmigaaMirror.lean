/- Contracts of MirrorCell, program and model. -/
import Derived.Test.YtdcaohmcidmigaaCell
namespace Go.Proofs.Ytdcaohmcidmigaa
open Go.ChangeShapes Go.WideShapes Go.ChangeAt Go.RowKit Go.Joins Go.Deep
set_option linter.unusedSimpArgs false
set_option linter.unusedVariables false
set_option maxRecDepth 100000
set_option maxHeartbeats 400000
def mirK (a : Int) : Int := if a = 1 then 2 else if a = 2 then 1 else a
def mirS (a b : Int) : Int := if a = 1 ∨ a = 2 then 0 else if a = 3 ∨ a = 6 then 1 - b else b
theorem ret_agg2 {a b c d : Int} (h1 : a = c) (h2 : b = d) : Ending.returned (.agg #[.int .i64 a, .int .i64 b]) = .returned (.agg #[.int .i64 c, .int .i64 d]) := by rw [h1, h2]
theorem spec_paMirror (a b : Int) (h : good a b = true) (w : World) :
    Calls Try.prog 52 #[.agg #[.int .i64 a, .int .i64 b]] w fun e w' => e = .returned (.agg #[.int .i64 (mirK a), .int .i64 (mirS a b)]) ∧ Below w.heap.size w w' := by
  go_enter Try.func52, Try.ntmps52
  go_wp2_with (first | (go_at_call 66; refine (spec_paTurn _ _ (by simp_all) _).mono ?_; rintro e w1 ⟨rfl, bw1⟩; obtain ⟨cw1, fw1⟩ := bcell bw1; have zw10 : w.heap.size < w1.heap.size := (by have := bw1.size; first | omega | (simp at this; omega)); have zw11 : w.heap.size + 1 < w1.heap.size := (by have := bw1.size; first | omega | (simp at this; omega))))
  all_goals have hh := h
  all_goals (unfold good at hh; simp at hh)
  all_goals first | (refine bodyPost_ret (v := .agg #[.int .i64 2, .int .i64 0]) ?_ rfl ?_; (focus (simp [results, Try.results52, go_sem, *]; done))) | (refine bodyPost_ret (v := .agg #[.int .i64 1, .int .i64 0]) ?_ rfl ?_; (focus (simp [results, Try.results52, go_sem, *]; done))) | (refine bodyPost_ret (v := .agg #[.int .i64 a, .int .i64 (1 - b)]) ?_ rfl ?_; (focus (simp [results, Try.results52, go_sem, *]; done))) | (refine bodyPost_ret (v := .agg #[.int .i64 a, .int .i64 b]) ?_ rfl ?_; (focus (simp [results, Try.results52, go_sem, *]; done)))
  all_goals refine ⟨ret_agg2 (by unfold mirK; (simp only [beq_iff_eq, beq_eq_false_iff_ne, ne_eq] at *; (repeat' split) <;> first | rfl | omega)) (by unfold mirS; (simp only [beq_iff_eq, beq_eq_false_iff_ne, ne_eq] at *; (repeat' split) <;> first | rfl | omega)), by (repeat' (first | (with_reducible exact Below.refl _ _) | (with_reducible assumption) | (with_reducible refine Below.alloc ?_ ?_ _) | (with_reducible refine Below.setCell ?_ ?_ _) | (with_reducible refine Below.drew ?_) | (with_reducible refine below_drewN ?_ _) | (with_reducible refine Below.trans ?_ (Below.mono (by assumption) ?_)) | (with_reducible exact Nat.le_refl _) | (simp; done) | omega | (simp at *; omega)))⟩
theorem good1 {b : Int} (h : good 1 b = true) : b = 0 := by unfold good at h; simp at h; omega
theorem impl_MirrorCell (a b : Int) (w : World) :
    Calls Try.prog 34 #[.agg #[.int .i64 a, .int .i64 b]] w fun e w' => e = .returned (.tuple #[.agg #[.int .i64 (selI (good a b) (mirK a)), .int .i64 (selI (good a b) (mirS a b))], .bool (good a b)]) ∧ Below w.heap.size w w' := by
  go_enter Try.func34, Try.ntmps34
  go_wp2_with (first | (go_at_call 55; refine (impl_IsCell _ _ _).mono ?_; rintro e w1 ⟨rfl, bw1⟩; obtain ⟨cw1, fw1⟩ := bcell bw1; have zw10 : w.heap.size < w1.heap.size := (by have := bw1.size; first | omega | (simp at this; omega)); have zw11 : w.heap.size + 1 < w1.heap.size := (by have := bw1.size; first | omega | (simp at this; omega))) | (go_at_call 56; refine (impl_TurnCell _ _ _).mono ?_; rintro e w2 ⟨rfl, bw2⟩; obtain ⟨cw2, fw2⟩ := bcell bw2; have zw20 : w.heap.size < w2.heap.size := (by have := bw2.size; first | omega | (simp at this; omega)); have zw21 : w.heap.size + 1 < w2.heap.size := (by have := bw2.size; first | omega | (simp at this; omega))))
  all_goals first | (refine bodyPost_ret (v := .tuple #[.agg #[.int .i64 0, .int .i64 0], .bool false]) ?_ rfl ?_; (focus (simp [results, Try.results34, go_sem, *]; done))) | (refine bodyPost_ret (v := .tuple #[.agg #[.int .i64 2, .int .i64 0], .bool true]) ?_ rfl ?_; (focus (simp [results, Try.results34, go_sem, *]; done))) | (refine bodyPost_ret (v := .tuple #[.agg #[.int .i64 1, .int .i64 0], .bool true]) ?_ rfl ?_; (focus (simp [results, Try.results34, go_sem, *]; done))) | (refine bodyPost_ret (v := .tuple #[.agg #[.int .i64 a, .int .i64 b], .bool true]) ?_ rfl ?_; (focus (simp [results, Try.results34, go_sem, *]; done))) | (refine bodyPost_ret (v := .tuple #[.agg #[.int .i64 (selI (good a b && turning a) a), .int .i64 (selI (good a b && turning a) (1 - b))], .bool (good a b && turning a)]) ?_ rfl ?_; (focus (simp [results, Try.results34, go_sem, *]; done)))
  all_goals refine ⟨by (simp_all [selI, mirK, mirS, turning]; done), by (repeat' (first | (with_reducible exact Below.refl _ _) | (with_reducible assumption) | (with_reducible refine Below.alloc ?_ ?_ _) | (with_reducible refine Below.setCell ?_ ?_ _) | (with_reducible refine Below.drew ?_) | (with_reducible refine below_drewN ?_ _) | (with_reducible refine Below.trans ?_ (Below.mono (by assumption) ?_)) | (with_reducible exact Nat.le_refl _) | (simp; done) | omega | (simp at *; omega)))⟩
end Go.Proofs.Ytdcaohmcidmigaa
