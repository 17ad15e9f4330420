/-
  No cell of these rows narrows 'for every input' (looked for: loops, veiled, ifaces, maps, wideKeys, modest, calm, conditions, laid).
  DERIVED. THE GIVEN ROWS OF THIS SEAT. 7 by the template 'for every input the law returns true; each argument reads behind the call as it read before'; 0 by the template 'total and deterministic' (their statements: YtlambflmabecfaaTotals.lean).
  GIVEN WITH THE SEED: the statements are not yours to turn. If you find one false, say at which input.
  Laid BY PROGRAM, IN A SANDBOX (cutbox-rows.mjs): the forced cells as the released guide's own fill.sh prints them over the translation 9389a02c4ebd564d… (all of the seat's roots in one cut). By AI agents, Wed Nov 11 2026. No macro, syntax, notation, axiom, sorry.
-/
import Derived.Test.YtlambflmabecfaaChecked
import GoSem.Claim
import GoSem.ClaimJoined
import GoSem.ClaimMapViews
import Derived.JoinedTies
import Derived.KernelRfl
namespace Go.Proofs.Ytlambflmabecfaa
/- THE CELL 'sum', in the pinned program and in every row, IS THE sha256 OF THE DUMP (.gsa) THAT YtlambflmabecfaaProg.lean LOADS. Nothing in Lean hashes anything: it is a label: what it is worth is what the hold of that sum in a sandbox is worth. -/
noncomputable def Try.pinned : Pinned := { name := "ytlambflmabecfaa", sum := "9389a02c4ebd564d6273f6c19549b4b53b2fbab933e1b029c700120496fd20ba", checked := Try.checked }
namespace Rows
def none {H : Type} : Left H := { results := [], args := [] }

/-- 'laws.FnExactIsLog': WHATEVER THE INPUT: true; the input reads as it did. -/
def fnExactIsLogSpec : ChangeSpec := { name := "fnExactIsLog", fn := fun _ => fun
  | [d] => { results := [.lit (.bool true)], args := [d] }
  | _ => none }
def fnExactIsLogRow : OpenClaim := { program := "ytlambflmabecfaa", sum := "9389a02c4ebd564d6273f6c19549b4b53b2fbab933e1b029c700120496fd20ba", func := "loop.example/g00942/laws.FnExactIsLog", spec := "fnExactIsLog", apart := false }
def FnExactIsLogSaid : Prop := fnExactIsLogRow.holds Try.pinned (OpenSpec.ofChange fnExactIsLogSpec)

/-- ITS FALSE NEIGHBOUR: 'it returns false'. Refute it at one input. -/
def fnExactIsLogWrong : ChangeSpec := { name := "fnExactIsLog", fn := fun _ => fun
  | [d] => { results := [.lit (.bool false)], args := [d] }
  | _ => none }
def FnExactIsLogWrongFalsely : Prop := fnExactIsLogRow.holds Try.pinned (OpenSpec.ofChange fnExactIsLogWrong)

/-- 'laws.FnExactLogOf': WHATEVER THE INPUT: true; the input reads as it did. -/
def fnExactLogOfSpec : ChangeSpec := { name := "fnExactLogOf", fn := fun _ => fun
  | [d] => { results := [.lit (.bool true)], args := [d] }
  | _ => none }
def fnExactLogOfRow : OpenClaim := { program := "ytlambflmabecfaa", sum := "9389a02c4ebd564d6273f6c19549b4b53b2fbab933e1b029c700120496fd20ba", func := "loop.example/g00942/laws.FnExactLogOf", spec := "fnExactLogOf", unfollowed := true, recurses := true, apart := false }
def FnExactLogOfSaid : Prop := fnExactLogOfRow.holds Try.pinned (OpenSpec.ofChange fnExactLogOfSpec)

/-- ITS FALSE NEIGHBOUR: 'it returns false'. Refute it at one input. -/
def fnExactLogOfWrong : ChangeSpec := { name := "fnExactLogOf", fn := fun _ => fun
  | [d] => { results := [.lit (.bool false)], args := [d] }
  | _ => none }
def FnExactLogOfWrongFalsely : Prop := fnExactLogOfRow.holds Try.pinned (OpenSpec.ofChange fnExactLogOfWrong)

/-- 'laws.FnExactCountEnds': WHATEVER THE INPUT: true; the input reads as it did. -/
def fnExactCountEndsSpec : ChangeSpec := { name := "fnExactCountEnds", fn := fun _ => fun
  | [d] => { results := [.lit (.bool true)], args := [d] }
  | _ => none }
def fnExactCountEndsRow : OpenClaim := { program := "ytlambflmabecfaa", sum := "9389a02c4ebd564d6273f6c19549b4b53b2fbab933e1b029c700120496fd20ba", func := "loop.example/g00942/laws.FnExactCountEnds", spec := "fnExactCountEnds", apart := false }
def FnExactCountEndsSaid : Prop := fnExactCountEndsRow.holds Try.pinned (OpenSpec.ofChange fnExactCountEndsSpec)

/-- ITS FALSE NEIGHBOUR: 'it returns false'. Refute it at one input. -/
def fnExactCountEndsWrong : ChangeSpec := { name := "fnExactCountEnds", fn := fun _ => fun
  | [d] => { results := [.lit (.bool false)], args := [d] }
  | _ => none }
def FnExactCountEndsWrongFalsely : Prop := fnExactCountEndsRow.holds Try.pinned (OpenSpec.ofChange fnExactCountEndsWrong)

/-- 'laws.FnExactLongestColour': WHATEVER THE INPUT: true; the input reads as it did. -/
def fnExactLongestColourSpec : ChangeSpec := { name := "fnExactLongestColour", fn := fun _ => fun
  | [d] => { results := [.lit (.bool true)], args := [d] }
  | _ => none }
def fnExactLongestColourRow : OpenClaim := { program := "ytlambflmabecfaa", sum := "9389a02c4ebd564d6273f6c19549b4b53b2fbab933e1b029c700120496fd20ba", func := "loop.example/g00942/laws.FnExactLongestColour", spec := "fnExactLongestColour", apart := false }
def FnExactLongestColourSaid : Prop := fnExactLongestColourRow.holds Try.pinned (OpenSpec.ofChange fnExactLongestColourSpec)

/-- ITS FALSE NEIGHBOUR: 'it returns false'. Refute it at one input. -/
def fnExactLongestColourWrong : ChangeSpec := { name := "fnExactLongestColour", fn := fun _ => fun
  | [d] => { results := [.lit (.bool false)], args := [d] }
  | _ => none }
def FnExactLongestColourWrongFalsely : Prop := fnExactLongestColourRow.holds Try.pinned (OpenSpec.ofChange fnExactLongestColourWrong)

/-- 'laws.FnExactAgreeingEntries': WHATEVER THE INPUT: true; the input reads as it did. -/
def fnExactAgreeingEntriesSpec : ChangeSpec := { name := "fnExactAgreeingEntries", fn := fun _ => fun
  | [d1, d2] => { results := [.lit (.bool true)], args := [d1, d2] }
  | _ => none }
def fnExactAgreeingEntriesRow : OpenClaim := { program := "ytlambflmabecfaa", sum := "9389a02c4ebd564d6273f6c19549b4b53b2fbab933e1b029c700120496fd20ba", func := "loop.example/g00942/laws.FnExactAgreeingEntries", spec := "fnExactAgreeingEntries", apart := false }
def FnExactAgreeingEntriesSaid : Prop := fnExactAgreeingEntriesRow.holds Try.pinned (OpenSpec.ofChange fnExactAgreeingEntriesSpec)

/-- ITS FALSE NEIGHBOUR: 'it returns false'. Refute it at one input. -/
def fnExactAgreeingEntriesWrong : ChangeSpec := { name := "fnExactAgreeingEntries", fn := fun _ => fun
  | [d1, d2] => { results := [.lit (.bool false)], args := [d1, d2] }
  | _ => none }
def FnExactAgreeingEntriesWrongFalsely : Prop := fnExactAgreeingEntriesRow.holds Try.pinned (OpenSpec.ofChange fnExactAgreeingEntriesWrong)

/-- 'laws.FnExactPeriodOf': WHATEVER THE INPUT: true; the input reads as it did. -/
def fnExactPeriodOfSpec : ChangeSpec := { name := "fnExactPeriodOf", fn := fun _ => fun
  | [d] => { results := [.lit (.bool true)], args := [d] }
  | _ => none }
def fnExactPeriodOfRow : OpenClaim := { program := "ytlambflmabecfaa", sum := "9389a02c4ebd564d6273f6c19549b4b53b2fbab933e1b029c700120496fd20ba", func := "loop.example/g00942/laws.FnExactPeriodOf", spec := "fnExactPeriodOf", apart := false }
def FnExactPeriodOfSaid : Prop := fnExactPeriodOfRow.holds Try.pinned (OpenSpec.ofChange fnExactPeriodOfSpec)

/-- ITS FALSE NEIGHBOUR: 'it returns false'. Refute it at one input. -/
def fnExactPeriodOfWrong : ChangeSpec := { name := "fnExactPeriodOf", fn := fun _ => fun
  | [d] => { results := [.lit (.bool false)], args := [d] }
  | _ => none }
def FnExactPeriodOfWrongFalsely : Prop := fnExactPeriodOfRow.holds Try.pinned (OpenSpec.ofChange fnExactPeriodOfWrong)

/-- 'laws.FnExactColoursChange': WHATEVER THE INPUT: true; the input reads as it did. -/
def fnExactColoursChangeSpec : ChangeSpec := { name := "fnExactColoursChange", fn := fun _ => fun
  | [d] => { results := [.lit (.bool true)], args := [d] }
  | _ => none }
def fnExactColoursChangeRow : OpenClaim := { program := "ytlambflmabecfaa", sum := "9389a02c4ebd564d6273f6c19549b4b53b2fbab933e1b029c700120496fd20ba", func := "loop.example/g00942/laws.FnExactColoursChange", spec := "fnExactColoursChange", apart := false }
def FnExactColoursChangeSaid : Prop := fnExactColoursChangeRow.holds Try.pinned (OpenSpec.ofChange fnExactColoursChangeSpec)

/-- ITS FALSE NEIGHBOUR: 'it returns false'. Refute it at one input. -/
def fnExactColoursChangeWrong : ChangeSpec := { name := "fnExactColoursChange", fn := fun _ => fun
  | [d] => { results := [.lit (.bool false)], args := [d] }
  | _ => none }
def FnExactColoursChangeWrongFalsely : Prop := fnExactColoursChangeRow.holds Try.pinned (OpenSpec.ofChange fnExactColoursChangeWrong)

/- THE SECOND FORM. 'bulk': how many values and letters a reading holds, each counted each time it is reached (what is shared counts as often as it is met; a slice's spare places count too). A statement '..UptoSaid' is the law's where the arguments, and the package variables that the reading takes, are together of bulk at most 1048576: NARROWER than '..Said'. Prove '..Said' where nothing that the law and all that it calls make is longer than what came in: it says more and counts as full. Else prove '..UptoSaid'. A law counts once. -/
mutual
def uptoBulk {H : Type} : DataW H → Nat
  | .lit (.string bytes) => bytes.length + 1
  | .lit _ => 1
  | .nil => 1
  | .ptr d => uptoBulk d + 1
  | .slice elems spare => uptoBulkAll elems + uptoBulkAll spare + 1
  | .agg parts => uptoBulkAll parts + 1
  | .iface _ d => uptoBulk d + 1
  | .map entries => uptoBulkEntries entries + 1
  | .held _ => 1
def uptoBulkAll {H : Type} : List (DataW H) → Nat
  | [] => 0
  | d :: r => uptoBulk d + uptoBulkAll r
def uptoBulkEntries {H : Type} : List (Lit × DataW H) → Nat
  | [] => 0
  | x :: r => uptoBulkEntry x + uptoBulkEntries r
def uptoBulkEntry {H : Type} : Lit × DataW H → Nat
  | (.string bytes, d) => bytes.length + uptoBulk d + 1
  | (_, d) => uptoBulk d + 1
 end
def uptoSmall : (H : Type) → List (DataW H) → Bool := fun _ ds => decide (uptoBulkAll ds ≤ 1048576)
def OpenSpec.upto (s : _root_.Go.ChangeSpec) : _root_.Go.OpenSpec := { _root_.Go.OpenSpec.ofChange s with cond := some uptoSmall }

/-- 'laws.FnExactIsLog', WHERE WHAT IT READS IS OF BULK AT MOST 1048576: true; the input reads as it did. -/
def fnExactIsLogUptoRow : OpenClaim := { program := "ytlambflmabecfaa", sum := "9389a02c4ebd564d6273f6c19549b4b53b2fbab933e1b029c700120496fd20ba", func := "loop.example/g00942/laws.FnExactIsLog", spec := "fnExactIsLog", apart := false, narrowed := true }
def FnExactIsLogUptoSaid : Prop := fnExactIsLogUptoRow.holds Try.pinned (OpenSpec.upto fnExactIsLogSpec)

/-- 'laws.FnExactLogOf', WHERE WHAT IT READS IS OF BULK AT MOST 1048576: true; the input reads as it did. -/
def fnExactLogOfUptoRow : OpenClaim := { program := "ytlambflmabecfaa", sum := "9389a02c4ebd564d6273f6c19549b4b53b2fbab933e1b029c700120496fd20ba", func := "loop.example/g00942/laws.FnExactLogOf", spec := "fnExactLogOf", unfollowed := true, recurses := true, apart := false, narrowed := true }
def FnExactLogOfUptoSaid : Prop := fnExactLogOfUptoRow.holds Try.pinned (OpenSpec.upto fnExactLogOfSpec)

/-- 'laws.FnExactCountEnds', WHERE WHAT IT READS IS OF BULK AT MOST 1048576: true; the input reads as it did. -/
def fnExactCountEndsUptoRow : OpenClaim := { program := "ytlambflmabecfaa", sum := "9389a02c4ebd564d6273f6c19549b4b53b2fbab933e1b029c700120496fd20ba", func := "loop.example/g00942/laws.FnExactCountEnds", spec := "fnExactCountEnds", apart := false, narrowed := true }
def FnExactCountEndsUptoSaid : Prop := fnExactCountEndsUptoRow.holds Try.pinned (OpenSpec.upto fnExactCountEndsSpec)

/-- 'laws.FnExactLongestColour', WHERE WHAT IT READS IS OF BULK AT MOST 1048576: true; the input reads as it did. -/
def fnExactLongestColourUptoRow : OpenClaim := { program := "ytlambflmabecfaa", sum := "9389a02c4ebd564d6273f6c19549b4b53b2fbab933e1b029c700120496fd20ba", func := "loop.example/g00942/laws.FnExactLongestColour", spec := "fnExactLongestColour", apart := false, narrowed := true }
def FnExactLongestColourUptoSaid : Prop := fnExactLongestColourUptoRow.holds Try.pinned (OpenSpec.upto fnExactLongestColourSpec)

/-- 'laws.FnExactAgreeingEntries', WHERE WHAT IT READS IS OF BULK AT MOST 1048576: true; the input reads as it did. -/
def fnExactAgreeingEntriesUptoRow : OpenClaim := { program := "ytlambflmabecfaa", sum := "9389a02c4ebd564d6273f6c19549b4b53b2fbab933e1b029c700120496fd20ba", func := "loop.example/g00942/laws.FnExactAgreeingEntries", spec := "fnExactAgreeingEntries", apart := false, narrowed := true }
def FnExactAgreeingEntriesUptoSaid : Prop := fnExactAgreeingEntriesUptoRow.holds Try.pinned (OpenSpec.upto fnExactAgreeingEntriesSpec)

/-- 'laws.FnExactPeriodOf', WHERE WHAT IT READS IS OF BULK AT MOST 1048576: true; the input reads as it did. -/
def fnExactPeriodOfUptoRow : OpenClaim := { program := "ytlambflmabecfaa", sum := "9389a02c4ebd564d6273f6c19549b4b53b2fbab933e1b029c700120496fd20ba", func := "loop.example/g00942/laws.FnExactPeriodOf", spec := "fnExactPeriodOf", apart := false, narrowed := true }
def FnExactPeriodOfUptoSaid : Prop := fnExactPeriodOfUptoRow.holds Try.pinned (OpenSpec.upto fnExactPeriodOfSpec)

/-- 'laws.FnExactColoursChange', WHERE WHAT IT READS IS OF BULK AT MOST 1048576: true; the input reads as it did. -/
def fnExactColoursChangeUptoRow : OpenClaim := { program := "ytlambflmabecfaa", sum := "9389a02c4ebd564d6273f6c19549b4b53b2fbab933e1b029c700120496fd20ba", func := "loop.example/g00942/laws.FnExactColoursChange", spec := "fnExactColoursChange", apart := false, narrowed := true }
def FnExactColoursChangeUptoSaid : Prop := fnExactColoursChangeUptoRow.holds Try.pinned (OpenSpec.upto fnExactColoursChangeSpec)

end Rows
end Go.Proofs.Ytlambflmabecfaa
