/- Logs: how far two agree, the model's and the program's. -/
import Derived.BigQuiet
import Derived.Laws.StructEq
import Derived.Test.YtlambflmabecfaaLogG
namespace Go.Proofs.Ytlambflmabecfaa
open Go.ChangeShapes Go.WideShapes Go.ChangeAt Go.RowKit Go.Joins Go.Deep
set_option linter.unusedSimpArgs false
set_option linter.unusedVariables false
set_option maxRecDepth 100000
set_option maxHeartbeats 4000000
theorem heldFall1 : Try.prog.stoodInHeld 59 = false := by kernel_rfl
theorem heldLog1 : Try.prog.stoodInHeld 61 = false := by kernel_rfl
theorem guardLog1 : Try.prog.eqGuardType Try.prog.depth 61 = false := by kernel_rfl
theorem fallInfo1 : (Try.prog.info? 59).map (fun i => (i.zero, i.size, i.bytes)) = some (some (.agg #[.int .i64 0, .int .i64 0, .int .i64 0]), 3, 24) := by kernel_rfl
theorem fall_eql1 (d : Nat) (a b c a' b' c' : Int) (w : World) : (Op.equalIn (d + 2) 59 (.agg #[.int .i64 a, .int .i64 b, .int .i64 c]) (.agg #[.int .i64 a', .int .i64 b', .int .i64 c'])).run Try.prog w = .ok (decide ((a, b, c) = (a', b', c'))) w := by
  have hf : Try.prog.underlying 59 = some (.struct (Try.prog.fieldsOf 59)) := by kernel_rfl
  rw [show d + 2 = (d + 1) + 1 from rfl, run_equalIn_struct w (d + 1) _ _ _ hf heldFall1]
  have hi := Try.underlying3
  by_cases h1 : a = a'
  · by_cases h2 : b = b'
    · by_cases h3 : c = c'
      · simp [Program.fieldsOf, Try.underlying59, Op.eqFields, Go.part, isAgg, run_underlying hi, run_equalIn_int, hi, Sem.run_bind, h1, h2, h3]
      · simp [Program.fieldsOf, Try.underlying59, Op.eqFields, Go.part, isAgg, run_underlying hi, run_equalIn_int, hi, Sem.run_bind, h1, h2, h3]
    · simp [Program.fieldsOf, Try.underlying59, Op.eqFields, Go.part, isAgg, run_underlying hi, run_equalIn_int, hi, Sem.run_bind, h1, h2]
  · simp [Program.fieldsOf, Try.underlying59, Op.eqFields, Go.part, isAgg, run_underlying hi, run_equalIn_int, hi, Sem.run_bind, h1]
theorem log_part (a b c d : Int) (w : World) : (Go.part 59 #[.int .i64 a, .int .i64 b, .int .i64 c, .int .i64 d] 1).run Try.prog w = .ok (.agg #[.int .i64 b, .int .i64 c, .int .i64 d]) w := by
  obtain ⟨i0, h1, h2, h3, h4⟩ := info_parts fallInfo1
  have hsz : (sizeOf 59).run Try.prog w = .ok 3 w := by simp [sizeOf, typeInfo, h1, h3]
  have hagg : (isAgg 59).run Try.prog w = .ok true w := by
    unfold isAgg
    rw [Sem.run_bind, run_underlying Try.underlying59 w]
    rfl
  simp only [Go.part, Sem.run_bind, hagg, hsz, Result.andThen_ok, if_true, Sem.run_pure]
  rfl
theorem log_eql (a b c d a' b' c' d' : Int) (w : World) : (Op.equalIn 10000 61 (.agg #[.int .i64 a, .int .i64 b, .int .i64 c, .int .i64 d]) (.agg #[.int .i64 a', .int .i64 b', .int .i64 c', .int .i64 d'])).run Try.prog w = .ok (decide (((a, b, c, d) : LE) = (a', b', c', d'))) w := by
  have hf : Try.prog.underlying 61 = some (.struct (Try.prog.fieldsOf 61)) := by kernel_rfl
  rw [show (10000 : Nat) = 9999 + 1 from rfl, run_equalIn_struct w 9999 _ _ _ hf heldLog1]
  have hi := Try.underlying3
  have hq := fun w => fall_eql1 9997 b c d b' c' d' w
  have hp := fun w => log_part a b c d w
  have hp' := fun w => log_part a' b' c' d' w
  by_cases h1 : a = a'
  · subst h1
    by_cases h2 : ((b, c, d) : Int × Int × Int) = (b', c', d')
    · rw [decide_eq_true h2] at hq
      rw [decide_eq_true (show ((a, b, c, d) : LE) = (a, b', c', d') by rw [h2])]
      clear h2
      simp [Program.fieldsOf, Try.underlying61, Op.eqFields, Go.part, isAgg, run_underlying hi, run_equalIn_int, hi, Sem.run_bind]
      simp [hp, hp', hq]
    · rw [decide_eq_false h2] at hq
      rw [decide_eq_false (show ¬ ((a, b, c, d) : LE) = (a, b', c', d') by intro h; injection h with _ h; exact h2 h)]
      clear h2
      simp [Program.fieldsOf, Try.underlying61, Op.eqFields, Go.part, isAgg, run_underlying hi, run_equalIn_int, hi, Sem.run_bind]
      simp [hp, hp', hq]
  · simp [Program.fieldsOf, Try.underlying61, Op.eqFields, Go.part, isAgg, run_underlying hi, run_equalIn_int, hi, Sem.run_bind, h1]
end Go.Proofs.Ytlambflmabecfaa
