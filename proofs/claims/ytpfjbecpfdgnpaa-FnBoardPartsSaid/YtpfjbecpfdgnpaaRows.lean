/-
  No cell of these rows narrows 'for every input' (looked for: loops, veiled, ifaces, maps, wideKeys, modest, calm, conditions, laid).
  DERIVED. THE GIVEN ROWS OF THIS SEAT. 11 by the template 'for every input the law returns true; each argument reads behind the call as it read before'; 0 by the template 'total and deterministic' (their statements: YtpfjbecpfdgnpaaTotals.lean).
  GIVEN WITH THE SEED: the statements are not yours to turn. If you find one false, say at which input.
  Laid BY PROGRAM, IN A SANDBOX (cutbox-rows.mjs): the forced cells as the released guide's own fill.sh prints them over the translation 24bb67bf351732bf… (all of the seat's roots in one cut). By AI agents, Wed Nov 11 2026. No macro, syntax, notation, axiom, sorry.
-/
import Derived.Test.YtpfjbecpfdgnpaaChecked
import GoSem.Claim
import GoSem.ClaimJoined
import GoSem.ClaimMapViews
import Derived.JoinedTies
import Derived.KernelRfl
namespace Go.Proofs.Ytpfjbecpfdgnpaa
/- THE CELL 'sum', in the pinned program and in every row, IS THE sha256 OF THE DUMP (.gsa) THAT YtpfjbecpfdgnpaaProg.lean LOADS. Nothing in Lean hashes anything: it is a label: what it is worth is what the hold of that sum in a sandbox is worth. -/
noncomputable def Try.pinned : Pinned := { name := "ytpfjbecpfdgnpaa", sum := "24bb67bf351732bf184cd43915b7faea93f5e1c9148c2b1a24b41e1764dc2862", checked := Try.checked }
namespace Rows
def none {H : Type} : Left H := { results := [], args := [] }

/-- 'laws.FnBoardParts': WHATEVER THE INPUT: true; the input reads as it did. -/
def fnBoardPartsSpec : ChangeSpec := { name := "fnBoardParts", fn := fun _ => fun
  | [d1, d2] => { results := [.lit (.bool true)], args := [d1, d2] }
  | _ => none }
def fnBoardPartsRow : OpenClaim := { program := "ytpfjbecpfdgnpaa", sum := "24bb67bf351732bf184cd43915b7faea93f5e1c9148c2b1a24b41e1764dc2862", func := "loop.example/g00942/laws.FnBoardParts", spec := "fnBoardParts", apart := false }
def FnBoardPartsSaid : Prop := fnBoardPartsRow.holds Try.pinned (OpenSpec.ofChange fnBoardPartsSpec)

/-- ITS FALSE NEIGHBOUR: 'it returns false'. Refute it at one input. -/
def fnBoardPartsWrong : ChangeSpec := { name := "fnBoardParts", fn := fun _ => fun
  | [d1, d2] => { results := [.lit (.bool false)], args := [d1, d2] }
  | _ => none }
def FnBoardPartsWrongFalsely : Prop := fnBoardPartsRow.holds Try.pinned (OpenSpec.ofChange fnBoardPartsWrong)

/-- 'laws.FnExactIsMachine': WHATEVER THE INPUT: true; the input reads as it did. -/
def fnExactIsMachineSpec : ChangeSpec := { name := "fnExactIsMachine", fn := fun _ => fun
  | [d] => { results := [.lit (.bool true)], args := [d] }
  | _ => none }
def fnExactIsMachineRow : OpenClaim := { program := "ytpfjbecpfdgnpaa", sum := "24bb67bf351732bf184cd43915b7faea93f5e1c9148c2b1a24b41e1764dc2862", func := "loop.example/g00942/laws.FnExactIsMachine", spec := "fnExactIsMachine", apart := false }
def FnExactIsMachineSaid : Prop := fnExactIsMachineRow.holds Try.pinned (OpenSpec.ofChange fnExactIsMachineSpec)

/-- ITS FALSE NEIGHBOUR: 'it returns false'. Refute it at one input. -/
def fnExactIsMachineWrong : ChangeSpec := { name := "fnExactIsMachine", fn := fun _ => fun
  | [d] => { results := [.lit (.bool false)], args := [d] }
  | _ => none }
def FnExactIsMachineWrongFalsely : Prop := fnExactIsMachineRow.holds Try.pinned (OpenSpec.ofChange fnExactIsMachineWrong)

/-- 'laws.FnExactStepMachine': WHATEVER THE INPUT: true; the input reads as it did. -/
def fnExactStepMachineSpec : ChangeSpec := { name := "fnExactStepMachine", fn := fun _ => fun
  | [d] => { results := [.lit (.bool true)], args := [d] }
  | _ => none }
def fnExactStepMachineRow : OpenClaim := { program := "ytpfjbecpfdgnpaa", sum := "24bb67bf351732bf184cd43915b7faea93f5e1c9148c2b1a24b41e1764dc2862", func := "loop.example/g00942/laws.FnExactStepMachine", spec := "fnExactStepMachine", unfollowed := true, recurses := true, apart := false }
def FnExactStepMachineSaid : Prop := fnExactStepMachineRow.holds Try.pinned (OpenSpec.ofChange fnExactStepMachineSpec)

/-- ITS FALSE NEIGHBOUR: 'it returns false'. Refute it at one input. -/
def fnExactStepMachineWrong : ChangeSpec := { name := "fnExactStepMachine", fn := fun _ => fun
  | [d] => { results := [.lit (.bool false)], args := [d] }
  | _ => none }
def FnExactStepMachineWrongFalsely : Prop := fnExactStepMachineRow.holds Try.pinned (OpenSpec.ofChange fnExactStepMachineWrong)

/-- 'laws.FnExactRunMachine': WHATEVER THE INPUT: true; the input reads as it did. -/
def fnExactRunMachineSpec : ChangeSpec := { name := "fnExactRunMachine", fn := fun _ => fun
  | [d1, d2] => { results := [.lit (.bool true)], args := [d1, d2] }
  | _ => none }
def fnExactRunMachineRow : OpenClaim := { program := "ytpfjbecpfdgnpaa", sum := "24bb67bf351732bf184cd43915b7faea93f5e1c9148c2b1a24b41e1764dc2862", func := "loop.example/g00942/laws.FnExactRunMachine", spec := "fnExactRunMachine", unfollowed := true, recurses := true, apart := false }
def FnExactRunMachineSaid : Prop := fnExactRunMachineRow.holds Try.pinned (OpenSpec.ofChange fnExactRunMachineSpec)

/-- ITS FALSE NEIGHBOUR: 'it returns false'. Refute it at one input. -/
def fnExactRunMachineWrong : ChangeSpec := { name := "fnExactRunMachine", fn := fun _ => fun
  | [d1, d2] => { results := [.lit (.bool false)], args := [d1, d2] }
  | _ => none }
def FnExactRunMachineWrongFalsely : Prop := fnExactRunMachineRow.holds Try.pinned (OpenSpec.ofChange fnExactRunMachineWrong)

/-- 'laws.FnExactRunToEnd': WHATEVER THE INPUT: true; the input reads as it did. -/
def fnExactRunToEndSpec : ChangeSpec := { name := "fnExactRunToEnd", fn := fun _ => fun
  | [d] => { results := [.lit (.bool true)], args := [d] }
  | _ => none }
def fnExactRunToEndRow : OpenClaim := { program := "ytpfjbecpfdgnpaa", sum := "24bb67bf351732bf184cd43915b7faea93f5e1c9148c2b1a24b41e1764dc2862", func := "loop.example/g00942/laws.FnExactRunToEnd", spec := "fnExactRunToEnd", unfollowed := true, recurses := true, apart := false }
def FnExactRunToEndSaid : Prop := fnExactRunToEndRow.holds Try.pinned (OpenSpec.ofChange fnExactRunToEndSpec)

/-- ITS FALSE NEIGHBOUR: 'it returns false'. Refute it at one input. -/
def fnExactRunToEndWrong : ChangeSpec := { name := "fnExactRunToEnd", fn := fun _ => fun
  | [d] => { results := [.lit (.bool false)], args := [d] }
  | _ => none }
def FnExactRunToEndWrongFalsely : Prop := fnExactRunToEndRow.holds Try.pinned (OpenSpec.ofChange fnExactRunToEndWrong)

/-- 'laws.FnExactReleasedColours': WHATEVER THE INPUT: true; the input reads as it did. -/
def fnExactReleasedColoursSpec : ChangeSpec := { name := "fnExactReleasedColours", fn := fun _ => fun
  | [d] => { results := [.lit (.bool true)], args := [d] }
  | _ => none }
def fnExactReleasedColoursRow : OpenClaim := { program := "ytpfjbecpfdgnpaa", sum := "24bb67bf351732bf184cd43915b7faea93f5e1c9148c2b1a24b41e1764dc2862", func := "loop.example/g00942/laws.FnExactReleasedColours", spec := "fnExactReleasedColours", unfollowed := true, recurses := true, apart := false }
def FnExactReleasedColoursSaid : Prop := fnExactReleasedColoursRow.holds Try.pinned (OpenSpec.ofChange fnExactReleasedColoursSpec)

/-- ITS FALSE NEIGHBOUR: 'it returns false'. Refute it at one input. -/
def fnExactReleasedColoursWrong : ChangeSpec := { name := "fnExactReleasedColours", fn := fun _ => fun
  | [d] => { results := [.lit (.bool false)], args := [d] }
  | _ => none }
def FnExactReleasedColoursWrongFalsely : Prop := fnExactReleasedColoursRow.holds Try.pinned (OpenSpec.ofChange fnExactReleasedColoursWrong)

/-- 'laws.FnExactArrivalColumns': WHATEVER THE INPUT: true; the input reads as it did. -/
def fnExactArrivalColumnsSpec : ChangeSpec := { name := "fnExactArrivalColumns", fn := fun _ => fun
  | [d] => { results := [.lit (.bool true)], args := [d] }
  | _ => none }
def fnExactArrivalColumnsRow : OpenClaim := { program := "ytpfjbecpfdgnpaa", sum := "24bb67bf351732bf184cd43915b7faea93f5e1c9148c2b1a24b41e1764dc2862", func := "loop.example/g00942/laws.FnExactArrivalColumns", spec := "fnExactArrivalColumns", unfollowed := true, recurses := true, apart := false }
def FnExactArrivalColumnsSaid : Prop := fnExactArrivalColumnsRow.holds Try.pinned (OpenSpec.ofChange fnExactArrivalColumnsSpec)

/-- ITS FALSE NEIGHBOUR: 'it returns false'. Refute it at one input. -/
def fnExactArrivalColumnsWrong : ChangeSpec := { name := "fnExactArrivalColumns", fn := fun _ => fun
  | [d] => { results := [.lit (.bool false)], args := [d] }
  | _ => none }
def FnExactArrivalColumnsWrongFalsely : Prop := fnExactArrivalColumnsRow.holds Try.pinned (OpenSpec.ofChange fnExactArrivalColumnsWrong)

/-- 'laws.FnExactArrivedColours': WHATEVER THE INPUT: true; the input reads as it did. -/
def fnExactArrivedColoursSpec : ChangeSpec := { name := "fnExactArrivedColours", fn := fun _ => fun
  | [d] => { results := [.lit (.bool true)], args := [d] }
  | _ => none }
def fnExactArrivedColoursRow : OpenClaim := { program := "ytpfjbecpfdgnpaa", sum := "24bb67bf351732bf184cd43915b7faea93f5e1c9148c2b1a24b41e1764dc2862", func := "loop.example/g00942/laws.FnExactArrivedColours", spec := "fnExactArrivedColours", unfollowed := true, recurses := true, apart := false }
def FnExactArrivedColoursSaid : Prop := fnExactArrivedColoursRow.holds Try.pinned (OpenSpec.ofChange fnExactArrivedColoursSpec)

/-- ITS FALSE NEIGHBOUR: 'it returns false'. Refute it at one input. -/
def fnExactArrivedColoursWrong : ChangeSpec := { name := "fnExactArrivedColours", fn := fun _ => fun
  | [d] => { results := [.lit (.bool false)], args := [d] }
  | _ => none }
def FnExactArrivedColoursWrongFalsely : Prop := fnExactArrivedColoursRow.holds Try.pinned (OpenSpec.ofChange fnExactArrivedColoursWrong)

/-- 'laws.FnExactEndOfRun': WHATEVER THE INPUT: true; the input reads as it did. -/
def fnExactEndOfRunSpec : ChangeSpec := { name := "fnExactEndOfRun", fn := fun _ => fun
  | [d] => { results := [.lit (.bool true)], args := [d] }
  | _ => none }
def fnExactEndOfRunRow : OpenClaim := { program := "ytpfjbecpfdgnpaa", sum := "24bb67bf351732bf184cd43915b7faea93f5e1c9148c2b1a24b41e1764dc2862", func := "loop.example/g00942/laws.FnExactEndOfRun", spec := "fnExactEndOfRun", unfollowed := true, recurses := true, apart := false }
def FnExactEndOfRunSaid : Prop := fnExactEndOfRunRow.holds Try.pinned (OpenSpec.ofChange fnExactEndOfRunSpec)

/-- ITS FALSE NEIGHBOUR: 'it returns false'. Refute it at one input. -/
def fnExactEndOfRunWrong : ChangeSpec := { name := "fnExactEndOfRun", fn := fun _ => fun
  | [d] => { results := [.lit (.bool false)], args := [d] }
  | _ => none }
def FnExactEndOfRunWrongFalsely : Prop := fnExactEndOfRunRow.holds Try.pinned (OpenSpec.ofChange fnExactEndOfRunWrong)

/-- 'laws.FnExactRefillMachine': WHATEVER THE INPUT: true; the input reads as it did. -/
def fnExactRefillMachineSpec : ChangeSpec := { name := "fnExactRefillMachine", fn := fun _ => fun
  | [d1, d2, d3] => { results := [.lit (.bool true)], args := [d1, d2, d3] }
  | _ => none }
def fnExactRefillMachineRow : OpenClaim := { program := "ytpfjbecpfdgnpaa", sum := "24bb67bf351732bf184cd43915b7faea93f5e1c9148c2b1a24b41e1764dc2862", func := "loop.example/g00942/laws.FnExactRefillMachine", spec := "fnExactRefillMachine", apart := false }
def FnExactRefillMachineSaid : Prop := fnExactRefillMachineRow.holds Try.pinned (OpenSpec.ofChange fnExactRefillMachineSpec)

/-- ITS FALSE NEIGHBOUR: 'it returns false'. Refute it at one input. -/
def fnExactRefillMachineWrong : ChangeSpec := { name := "fnExactRefillMachine", fn := fun _ => fun
  | [d1, d2, d3] => { results := [.lit (.bool false)], args := [d1, d2, d3] }
  | _ => none }
def FnExactRefillMachineWrongFalsely : Prop := fnExactRefillMachineRow.holds Try.pinned (OpenSpec.ofChange fnExactRefillMachineWrong)

/-- 'laws.FnExactFirstArrivalIn': WHATEVER THE INPUT: true; the input reads as it did. -/
def fnExactFirstArrivalInSpec : ChangeSpec := { name := "fnExactFirstArrivalIn", fn := fun _ => fun
  | [d1, d2] => { results := [.lit (.bool true)], args := [d1, d2] }
  | _ => none }
def fnExactFirstArrivalInRow : OpenClaim := { program := "ytpfjbecpfdgnpaa", sum := "24bb67bf351732bf184cd43915b7faea93f5e1c9148c2b1a24b41e1764dc2862", func := "loop.example/g00942/laws.FnExactFirstArrivalIn", spec := "fnExactFirstArrivalIn", unfollowed := true, recurses := true, apart := false }
def FnExactFirstArrivalInSaid : Prop := fnExactFirstArrivalInRow.holds Try.pinned (OpenSpec.ofChange fnExactFirstArrivalInSpec)

/-- ITS FALSE NEIGHBOUR: 'it returns false'. Refute it at one input. -/
def fnExactFirstArrivalInWrong : ChangeSpec := { name := "fnExactFirstArrivalIn", fn := fun _ => fun
  | [d1, d2] => { results := [.lit (.bool false)], args := [d1, d2] }
  | _ => none }
def FnExactFirstArrivalInWrongFalsely : Prop := fnExactFirstArrivalInRow.holds Try.pinned (OpenSpec.ofChange fnExactFirstArrivalInWrong)

/- THE SECOND FORM. 'bulk': how many values and letters a reading holds, each counted each time it is reached (what is shared counts as often as it is met; a slice's spare places count too). A statement '..UptoSaid' is the law's where the arguments, and the package variables that the reading takes, are together of bulk at most 1048576: NARROWER than '..Said'. Prove '..Said' where nothing that the law and all that it calls make is longer than what came in: it says more and counts as full. Else prove '..UptoSaid'. A law counts once. -/
mutual
def uptoBulk {H : Type} : DataW H → Nat
  | .lit (.string bytes) => bytes.length + 1
  | .lit _ => 1
  | .nil => 1
  | .ptr d => uptoBulk d + 1
  | .slice elems spare => uptoBulkAll elems + uptoBulkAll spare + 1
  | .agg parts => uptoBulkAll parts + 1
  | .iface _ d => uptoBulk d + 1
  | .map entries => uptoBulkEntries entries + 1
  | .held _ => 1
def uptoBulkAll {H : Type} : List (DataW H) → Nat
  | [] => 0
  | d :: r => uptoBulk d + uptoBulkAll r
def uptoBulkEntries {H : Type} : List (Lit × DataW H) → Nat
  | [] => 0
  | x :: r => uptoBulkEntry x + uptoBulkEntries r
def uptoBulkEntry {H : Type} : Lit × DataW H → Nat
  | (.string bytes, d) => bytes.length + uptoBulk d + 1
  | (_, d) => uptoBulk d + 1
 end
def uptoSmall : (H : Type) → List (DataW H) → Bool := fun _ ds => decide (uptoBulkAll ds ≤ 1048576)
def OpenSpec.upto (s : _root_.Go.ChangeSpec) : _root_.Go.OpenSpec := { _root_.Go.OpenSpec.ofChange s with cond := some uptoSmall }

/-- 'laws.FnBoardParts', WHERE WHAT IT READS IS OF BULK AT MOST 1048576: true; the input reads as it did. -/
def fnBoardPartsUptoRow : OpenClaim := { program := "ytpfjbecpfdgnpaa", sum := "24bb67bf351732bf184cd43915b7faea93f5e1c9148c2b1a24b41e1764dc2862", func := "loop.example/g00942/laws.FnBoardParts", spec := "fnBoardParts", apart := false, narrowed := true }
def FnBoardPartsUptoSaid : Prop := fnBoardPartsUptoRow.holds Try.pinned (OpenSpec.upto fnBoardPartsSpec)

/-- 'laws.FnExactIsMachine', WHERE WHAT IT READS IS OF BULK AT MOST 1048576: true; the input reads as it did. -/
def fnExactIsMachineUptoRow : OpenClaim := { program := "ytpfjbecpfdgnpaa", sum := "24bb67bf351732bf184cd43915b7faea93f5e1c9148c2b1a24b41e1764dc2862", func := "loop.example/g00942/laws.FnExactIsMachine", spec := "fnExactIsMachine", apart := false, narrowed := true }
def FnExactIsMachineUptoSaid : Prop := fnExactIsMachineUptoRow.holds Try.pinned (OpenSpec.upto fnExactIsMachineSpec)

/-- 'laws.FnExactStepMachine', WHERE WHAT IT READS IS OF BULK AT MOST 1048576: true; the input reads as it did. -/
def fnExactStepMachineUptoRow : OpenClaim := { program := "ytpfjbecpfdgnpaa", sum := "24bb67bf351732bf184cd43915b7faea93f5e1c9148c2b1a24b41e1764dc2862", func := "loop.example/g00942/laws.FnExactStepMachine", spec := "fnExactStepMachine", unfollowed := true, recurses := true, apart := false, narrowed := true }
def FnExactStepMachineUptoSaid : Prop := fnExactStepMachineUptoRow.holds Try.pinned (OpenSpec.upto fnExactStepMachineSpec)

/-- 'laws.FnExactRunMachine', WHERE WHAT IT READS IS OF BULK AT MOST 1048576: true; the input reads as it did. -/
def fnExactRunMachineUptoRow : OpenClaim := { program := "ytpfjbecpfdgnpaa", sum := "24bb67bf351732bf184cd43915b7faea93f5e1c9148c2b1a24b41e1764dc2862", func := "loop.example/g00942/laws.FnExactRunMachine", spec := "fnExactRunMachine", unfollowed := true, recurses := true, apart := false, narrowed := true }
def FnExactRunMachineUptoSaid : Prop := fnExactRunMachineUptoRow.holds Try.pinned (OpenSpec.upto fnExactRunMachineSpec)

/-- 'laws.FnExactRunToEnd', WHERE WHAT IT READS IS OF BULK AT MOST 1048576: true; the input reads as it did. -/
def fnExactRunToEndUptoRow : OpenClaim := { program := "ytpfjbecpfdgnpaa", sum := "24bb67bf351732bf184cd43915b7faea93f5e1c9148c2b1a24b41e1764dc2862", func := "loop.example/g00942/laws.FnExactRunToEnd", spec := "fnExactRunToEnd", unfollowed := true, recurses := true, apart := false, narrowed := true }
def FnExactRunToEndUptoSaid : Prop := fnExactRunToEndUptoRow.holds Try.pinned (OpenSpec.upto fnExactRunToEndSpec)

/-- 'laws.FnExactReleasedColours', WHERE WHAT IT READS IS OF BULK AT MOST 1048576: true; the input reads as it did. -/
def fnExactReleasedColoursUptoRow : OpenClaim := { program := "ytpfjbecpfdgnpaa", sum := "24bb67bf351732bf184cd43915b7faea93f5e1c9148c2b1a24b41e1764dc2862", func := "loop.example/g00942/laws.FnExactReleasedColours", spec := "fnExactReleasedColours", unfollowed := true, recurses := true, apart := false, narrowed := true }
def FnExactReleasedColoursUptoSaid : Prop := fnExactReleasedColoursUptoRow.holds Try.pinned (OpenSpec.upto fnExactReleasedColoursSpec)

/-- 'laws.FnExactArrivalColumns', WHERE WHAT IT READS IS OF BULK AT MOST 1048576: true; the input reads as it did. -/
def fnExactArrivalColumnsUptoRow : OpenClaim := { program := "ytpfjbecpfdgnpaa", sum := "24bb67bf351732bf184cd43915b7faea93f5e1c9148c2b1a24b41e1764dc2862", func := "loop.example/g00942/laws.FnExactArrivalColumns", spec := "fnExactArrivalColumns", unfollowed := true, recurses := true, apart := false, narrowed := true }
def FnExactArrivalColumnsUptoSaid : Prop := fnExactArrivalColumnsUptoRow.holds Try.pinned (OpenSpec.upto fnExactArrivalColumnsSpec)

/-- 'laws.FnExactArrivedColours', WHERE WHAT IT READS IS OF BULK AT MOST 1048576: true; the input reads as it did. -/
def fnExactArrivedColoursUptoRow : OpenClaim := { program := "ytpfjbecpfdgnpaa", sum := "24bb67bf351732bf184cd43915b7faea93f5e1c9148c2b1a24b41e1764dc2862", func := "loop.example/g00942/laws.FnExactArrivedColours", spec := "fnExactArrivedColours", unfollowed := true, recurses := true, apart := false, narrowed := true }
def FnExactArrivedColoursUptoSaid : Prop := fnExactArrivedColoursUptoRow.holds Try.pinned (OpenSpec.upto fnExactArrivedColoursSpec)

/-- 'laws.FnExactEndOfRun', WHERE WHAT IT READS IS OF BULK AT MOST 1048576: true; the input reads as it did. -/
def fnExactEndOfRunUptoRow : OpenClaim := { program := "ytpfjbecpfdgnpaa", sum := "24bb67bf351732bf184cd43915b7faea93f5e1c9148c2b1a24b41e1764dc2862", func := "loop.example/g00942/laws.FnExactEndOfRun", spec := "fnExactEndOfRun", unfollowed := true, recurses := true, apart := false, narrowed := true }
def FnExactEndOfRunUptoSaid : Prop := fnExactEndOfRunUptoRow.holds Try.pinned (OpenSpec.upto fnExactEndOfRunSpec)

/-- 'laws.FnExactRefillMachine', WHERE WHAT IT READS IS OF BULK AT MOST 1048576: true; the input reads as it did. -/
def fnExactRefillMachineUptoRow : OpenClaim := { program := "ytpfjbecpfdgnpaa", sum := "24bb67bf351732bf184cd43915b7faea93f5e1c9148c2b1a24b41e1764dc2862", func := "loop.example/g00942/laws.FnExactRefillMachine", spec := "fnExactRefillMachine", apart := false, narrowed := true }
def FnExactRefillMachineUptoSaid : Prop := fnExactRefillMachineUptoRow.holds Try.pinned (OpenSpec.upto fnExactRefillMachineSpec)

/-- 'laws.FnExactFirstArrivalIn', WHERE WHAT IT READS IS OF BULK AT MOST 1048576: true; the input reads as it did. -/
def fnExactFirstArrivalInUptoRow : OpenClaim := { program := "ytpfjbecpfdgnpaa", sum := "24bb67bf351732bf184cd43915b7faea93f5e1c9148c2b1a24b41e1764dc2862", func := "loop.example/g00942/laws.FnExactFirstArrivalIn", spec := "fnExactFirstArrivalIn", unfollowed := true, recurses := true, apart := false, narrowed := true }
def FnExactFirstArrivalInUptoSaid : Prop := fnExactFirstArrivalInUptoRow.holds Try.pinned (OpenSpec.upto fnExactFirstArrivalInSpec)

end Rows
end Go.Proofs.Ytpfjbecpfdgnpaa
