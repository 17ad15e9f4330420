/- For every machine, MachineText of the program answers as the model does, and keeps its argument. The row lists three tables of the library; the card ties them to the program's text. No condition. -/
import Derived.Test.YtpfjbecpfdgnpabDoorM1
import Derived.Test.YtpfjbecpfdgnpabDoorM5
namespace Go.Proofs.YtpfjbecpfdgnpabDoor
open Go.ChangeShapes Go.WideShapes Go.ChangeAt Go.RowKit Go.Joins Go.Deep
set_option linter.unusedSimpArgs false
set_option linter.unusedVariables false
set_option maxRecDepth 100000
set_option maxHeartbeats 2000000
theorem MachineText_walkL : WalkL Tryd.prog 3 Tryd.f3 Rows.fnExactMachineTextRow.laid :=
  fun H enc W base args ds ps hA hval _ => MachineText_walk H enc W base args ds ps hA hval
/-- The cells of a table that is laid. -/
def cellsLaid : DataW Unit → List Value
  | .agg parts => parts.map fun
    | .lit (.int k n) => .int k n
    | _ => .bool false
  | _ => []
def zeroArg : Array Value := #[.agg #[.int .i64 0, .int .i64 0, .slice none 0 0, .int .i64 0, .int .i64 0, .int .i64 0, .int .i64 0, .int .i64 0]]
def lay (d : DataW Unit) : Obj → Obj
  | .cells _ t frozen => .cells (cellsLaid d).toArray t frozen
  | o => o
/-- A world for the witness: the settled one, the tables holding what their initialisers lay. -/
noncomputable def laidWorld (os : Os) : World :=
  { World.holding Tryd.prog os ⟨#[], #[], []⟩ with heap := (((World.holding Tryd.prog os ⟨#[], #[], []⟩).heap.modify 2 (lay Rows.laid_math_bits_deBruijn32tab)).modify 3 (lay Rows.laid_math_bits_deBruijn64tab)).modify 0 (lay Rows.laid_internal_strconv_uint64pow10) }
theorem laid_met (os : Os) : laidMet Tryd.prog Rows.fnExactMachineTextRow.laid ((laidWorld os).forCall (fun _ _ => 0) ⟨#[], zeroArg, []⟩).memory :=
  laidMet_of_run' 8 (by kernel_rfl) (by kernel_rfl)
theorem reads (os : Os) {H : Type} (enc : TypeId × Value → H) : ∃ places, DataW.whole enc Tryd.prog ((laidWorld os).forCall (fun _ _ => 0) ⟨#[], zeroArg, []⟩).memory Tryd.f3.params.toList Rows.fnExactMachineTextSpec.vars false zeroArg.toList 8 = some ([.agg [.agg [.lit (.int .i64 0), .lit (.int .i64 0), .nil], .lit (.int .i64 0), .lit (.int .i64 0), .lit (.int .i64 0), .lit (.int .i64 0), .lit (.int .i64 0)]], [], places) :=
  ⟨[], by kernel_rfl⟩
set_option maxRecDepth 100000 in
theorem MachineText_said : Rows.FnExactMachineTextSaid :=
  OpenClaim.holds_of_cond 3 Tryd.f3 rfl rfl rfl rfl rfl rfl rfl ⟨rfl, rfl, rfl, rfl, rfl⟩ rfl rfl rfl rfl rfl (by kernel_rfl) Tryd.func3 (by kernel_rfl)
    (of_decide_eq_true (by kernel_rfl)) (by unfold Func.isWrapper; first | (rw [if_pos (by decide +kernel)]; kernel_rfl) | (rw [if_neg (by decide +kernel)]; exact ⟨rfl, rfl⟩))
    (fun os started H enc _ F => by
      rw [OpenClaim.pre_eq_preRow]
      obtain ⟨places, hx⟩ := reads os enc
      exact liftedL (C := Tryd.checked) (s := Rows.fnExactMachineTextSpec) (laid := Rows.fnExactMachineTextRow.laid) started own (by kernel_rfl) Tryd.func3
        (witness_row_at (enc := enc) (C := Tryd.checked) false (laidWorld os) zeroArg rfl (by kernel_rfl) (by kernel_rfl) (by kernel_rfl)
          (OpenSpec.preRow_of_cond 8 hx (by kernel_rfl) (fun k hk => by cases hk) (by kernel_rfl) (laid_met os)))
        laidOut (by kernel_rfl) (by kernel_rfl) rfl Tryd.underlying4 (fun ds gs h1 h2 => by
          match ds, h1, gs, h2 with
          | [d0], _, [], _ => exact ⟨rfl, rfl, rfl⟩) MachineText_walkL)
theorem plain (f : FuncId) (fn : Func) (hf : Tryd.pinned.checked.prog.funcNamed "loop.example/g00942/laws.FnExactMachineText" = some f) (hfn : Tryd.pinned.checked.prog.funcs[f]? = some fn) :
    false = Tryd.pinned.checked.prog.looks [] ∧ ∀ (j : Nat) t, fn.params[j]? = some t → Tryd.pinned.checked.prog.wantsStandIn t = false := by
  obtain rfl : f = 3 := Option.some.inj ((show Tryd.prog.funcNamed "loop.example/g00942/laws.FnExactMachineText" = some 3 by kernel_rfl).symm.trans hf) |>.symm
  obtain rfl : fn = Tryd.f3 := (Option.some.inj (Tryd.func3.symm.trans hfn)).symm
  refine ⟨by kernel_rfl, fun j t ht => ?_⟩
  rw [Tryd.params3] at ht
  obtain rfl : t = 26 := by simpa using Array.mem_of_getElem? ht
  exact (show Tryd.prog.wantsStandIn 26 = false by kernel_rfl)
theorem MachineText_card : Rows.FnExactMachineTextCardSaid :=
  Claim7.holds_tied_plain_at .later [] _ _ _ _ MachineText_said (fun _ h => by cases h) (by kernel_rfl) (fun _ h => by cases h) fnExactMachineText_row_tie rfl ⟨rfl, rfl⟩ (by kernel_rfl) rfl plain (by kernel_rfl)
end Go.Proofs.YtpfjbecpfdgnpabDoor
