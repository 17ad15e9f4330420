/-
  No cell of these rows narrows 'for every input' (looked for: loops, veiled, ifaces, maps, wideKeys, modest, calm, conditions, laid).
  DERIVED. THE GIVEN ROWS OF THIS SEAT. 10 by the template 'for every input the law returns true; each argument reads behind the call as it read before'; 0 by the template 'total and deterministic' (their statements: YtoflhjekldlaiaaTotals.lean).
  GIVEN WITH THE SEED: the statements are not yours to turn. If you find one false, say at which input.
  Laid BY PROGRAM, IN A SANDBOX (cutbox-rows.mjs): the forced cells as the released guide's own fill.sh prints them over the translation fa8c8ece6f78f10b… (all of the seat's roots in one cut). By AI agents, Wed Nov 11 2026. No macro, syntax, notation, axiom, sorry.
-/
import Derived.Test.YtoflhjekldlaiaaChecked
import GoSem.Claim
import GoSem.ClaimJoined
import GoSem.ClaimMapViews
import Derived.JoinedTies
import Derived.KernelRfl
namespace Go.Proofs.Ytoflhjekldlaiaa
/- THE CELL 'sum', in the pinned program and in every row, IS THE sha256 OF THE DUMP (.gsa) THAT YtoflhjekldlaiaaProg.lean LOADS. Nothing in Lean hashes anything: it is a label: what it is worth is what the hold of that sum in a sandbox is worth. -/
noncomputable def Try.pinned : Pinned := { name := "ytoflhjekldlaiaa", sum := "fa8c8ece6f78f10b8b9616b5d6f83247b9fa65d00f61bd14f83ec3ddd33f638a", checked := Try.checked }
namespace Rows
def none {H : Type} : Left H := { results := [], args := [] }

/-- 'laws.FnExactFallOf': WHATEVER THE INPUT: true; the input reads as it did. -/
def fnExactFallOfSpec : ChangeSpec := { name := "fnExactFallOf", fn := fun _ => fun
  | [d1, d2] => { results := [.lit (.bool true)], args := [d1, d2] }
  | _ => none }
def fnExactFallOfRow : OpenClaim := { program := "ytoflhjekldlaiaa", sum := "fa8c8ece6f78f10b8b9616b5d6f83247b9fa65d00f61bd14f83ec3ddd33f638a", func := "loop.example/g00942/laws.FnExactFallOf", spec := "fnExactFallOf", unfollowed := true, recurses := true, apart := false }
def FnExactFallOfSaid : Prop := fnExactFallOfRow.holds Try.pinned (OpenSpec.ofChange fnExactFallOfSpec)

/-- ITS FALSE NEIGHBOUR: 'it returns false'. Refute it at one input. -/
def fnExactFallOfWrong : ChangeSpec := { name := "fnExactFallOf", fn := fun _ => fun
  | [d1, d2] => { results := [.lit (.bool false)], args := [d1, d2] }
  | _ => none }
def FnExactFallOfWrongFalsely : Prop := fnExactFallOfRow.holds Try.pinned (OpenSpec.ofChange fnExactFallOfWrong)

/-- 'laws.FnExactBoardAfter': WHATEVER THE INPUT: true; the input reads as it did. -/
def fnExactBoardAfterSpec : ChangeSpec := { name := "fnExactBoardAfter", fn := fun _ => fun
  | [d1, d2] => { results := [.lit (.bool true)], args := [d1, d2] }
  | _ => none }
def fnExactBoardAfterRow : OpenClaim := { program := "ytoflhjekldlaiaa", sum := "fa8c8ece6f78f10b8b9616b5d6f83247b9fa65d00f61bd14f83ec3ddd33f638a", func := "loop.example/g00942/laws.FnExactBoardAfter", spec := "fnExactBoardAfter", unfollowed := true, recurses := true, apart := false }
def FnExactBoardAfterSaid : Prop := fnExactBoardAfterRow.holds Try.pinned (OpenSpec.ofChange fnExactBoardAfterSpec)

/-- ITS FALSE NEIGHBOUR: 'it returns false'. Refute it at one input. -/
def fnExactBoardAfterWrong : ChangeSpec := { name := "fnExactBoardAfter", fn := fun _ => fun
  | [d1, d2] => { results := [.lit (.bool false)], args := [d1, d2] }
  | _ => none }
def FnExactBoardAfterWrongFalsely : Prop := fnExactBoardAfterRow.holds Try.pinned (OpenSpec.ofChange fnExactBoardAfterWrong)

/-- 'laws.FnExactWayOf': WHATEVER THE INPUT: true; the input reads as it did. -/
def fnExactWayOfSpec : ChangeSpec := { name := "fnExactWayOf", fn := fun _ => fun
  | [d1, d2] => { results := [.lit (.bool true)], args := [d1, d2] }
  | _ => none }
def fnExactWayOfRow : OpenClaim := { program := "ytoflhjekldlaiaa", sum := "fa8c8ece6f78f10b8b9616b5d6f83247b9fa65d00f61bd14f83ec3ddd33f638a", func := "loop.example/g00942/laws.FnExactWayOf", spec := "fnExactWayOf", unfollowed := true, recurses := true, apart := false }
def FnExactWayOfSaid : Prop := fnExactWayOfRow.holds Try.pinned (OpenSpec.ofChange fnExactWayOfSpec)

/-- ITS FALSE NEIGHBOUR: 'it returns false'. Refute it at one input. -/
def fnExactWayOfWrong : ChangeSpec := { name := "fnExactWayOf", fn := fun _ => fun
  | [d1, d2] => { results := [.lit (.bool false)], args := [d1, d2] }
  | _ => none }
def FnExactWayOfWrongFalsely : Prop := fnExactWayOfRow.holds Try.pinned (OpenSpec.ofChange fnExactWayOfWrong)

/-- 'laws.FnExactTurnedBy': WHATEVER THE INPUT: true; the input reads as it did. -/
def fnExactTurnedBySpec : ChangeSpec := { name := "fnExactTurnedBy", fn := fun _ => fun
  | [d1, d2] => { results := [.lit (.bool true)], args := [d1, d2] }
  | _ => none }
def fnExactTurnedByRow : OpenClaim := { program := "ytoflhjekldlaiaa", sum := "fa8c8ece6f78f10b8b9616b5d6f83247b9fa65d00f61bd14f83ec3ddd33f638a", func := "loop.example/g00942/laws.FnExactTurnedBy", spec := "fnExactTurnedBy", unfollowed := true, recurses := true, apart := false }
def FnExactTurnedBySaid : Prop := fnExactTurnedByRow.holds Try.pinned (OpenSpec.ofChange fnExactTurnedBySpec)

/-- ITS FALSE NEIGHBOUR: 'it returns false'. Refute it at one input. -/
def fnExactTurnedByWrong : ChangeSpec := { name := "fnExactTurnedBy", fn := fun _ => fun
  | [d1, d2] => { results := [.lit (.bool false)], args := [d1, d2] }
  | _ => none }
def FnExactTurnedByWrongFalsely : Prop := fnExactTurnedByRow.holds Try.pinned (OpenSpec.ofChange fnExactTurnedByWrong)

/-- 'laws.FnExactFallsOf': WHATEVER THE INPUT: true; the input reads as it did. -/
def fnExactFallsOfSpec : ChangeSpec := { name := "fnExactFallsOf", fn := fun _ => fun
  | [d1, d2] => { results := [.lit (.bool true)], args := [d1, d2] }
  | _ => none }
def fnExactFallsOfRow : OpenClaim := { program := "ytoflhjekldlaiaa", sum := "fa8c8ece6f78f10b8b9616b5d6f83247b9fa65d00f61bd14f83ec3ddd33f638a", func := "loop.example/g00942/laws.FnExactFallsOf", spec := "fnExactFallsOf", unfollowed := true, recurses := true, apart := false }
def FnExactFallsOfSaid : Prop := fnExactFallsOfRow.holds Try.pinned (OpenSpec.ofChange fnExactFallsOfSpec)

/-- ITS FALSE NEIGHBOUR: 'it returns false'. Refute it at one input. -/
def fnExactFallsOfWrong : ChangeSpec := { name := "fnExactFallsOf", fn := fun _ => fun
  | [d1, d2] => { results := [.lit (.bool false)], args := [d1, d2] }
  | _ => none }
def FnExactFallsOfWrongFalsely : Prop := fnExactFallsOfRow.holds Try.pinned (OpenSpec.ofChange fnExactFallsOfWrong)

/-- 'laws.FnExactArrivalCounts': WHATEVER THE INPUT: true; the input reads as it did. -/
def fnExactArrivalCountsSpec : ChangeSpec := { name := "fnExactArrivalCounts", fn := fun _ => fun
  | [d1, d2] => { results := [.lit (.bool true)], args := [d1, d2] }
  | _ => none }
def fnExactArrivalCountsRow : OpenClaim := { program := "ytoflhjekldlaiaa", sum := "fa8c8ece6f78f10b8b9616b5d6f83247b9fa65d00f61bd14f83ec3ddd33f638a", func := "loop.example/g00942/laws.FnExactArrivalCounts", spec := "fnExactArrivalCounts", unfollowed := true, recurses := true, apart := false }
def FnExactArrivalCountsSaid : Prop := fnExactArrivalCountsRow.holds Try.pinned (OpenSpec.ofChange fnExactArrivalCountsSpec)

/-- ITS FALSE NEIGHBOUR: 'it returns false'. Refute it at one input. -/
def fnExactArrivalCountsWrong : ChangeSpec := { name := "fnExactArrivalCounts", fn := fun _ => fun
  | [d1, d2] => { results := [.lit (.bool false)], args := [d1, d2] }
  | _ => none }
def FnExactArrivalCountsWrongFalsely : Prop := fnExactArrivalCountsRow.holds Try.pinned (OpenSpec.ofChange fnExactArrivalCountsWrong)

/-- 'laws.FnExactColumnsTo': WHATEVER THE INPUT: true; the input reads as it did. -/
def fnExactColumnsToSpec : ChangeSpec := { name := "fnExactColumnsTo", fn := fun _ => fun
  | [d1, d2] => { results := [.lit (.bool true)], args := [d1, d2] }
  | _ => none }
def fnExactColumnsToRow : OpenClaim := { program := "ytoflhjekldlaiaa", sum := "fa8c8ece6f78f10b8b9616b5d6f83247b9fa65d00f61bd14f83ec3ddd33f638a", func := "loop.example/g00942/laws.FnExactColumnsTo", spec := "fnExactColumnsTo", unfollowed := true, recurses := true, apart := false }
def FnExactColumnsToSaid : Prop := fnExactColumnsToRow.holds Try.pinned (OpenSpec.ofChange fnExactColumnsToSpec)

/-- ITS FALSE NEIGHBOUR: 'it returns false'. Refute it at one input. -/
def fnExactColumnsToWrong : ChangeSpec := { name := "fnExactColumnsTo", fn := fun _ => fun
  | [d1, d2] => { results := [.lit (.bool false)], args := [d1, d2] }
  | _ => none }
def FnExactColumnsToWrongFalsely : Prop := fnExactColumnsToRow.holds Try.pinned (OpenSpec.ofChange fnExactColumnsToWrong)

/-- 'laws.FnExactMetCells': WHATEVER THE INPUT: true; the input reads as it did. -/
def fnExactMetCellsSpec : ChangeSpec := { name := "fnExactMetCells", fn := fun _ => fun
  | [d] => { results := [.lit (.bool true)], args := [d] }
  | _ => none }
def fnExactMetCellsRow : OpenClaim := { program := "ytoflhjekldlaiaa", sum := "fa8c8ece6f78f10b8b9616b5d6f83247b9fa65d00f61bd14f83ec3ddd33f638a", func := "loop.example/g00942/laws.FnExactMetCells", spec := "fnExactMetCells", unfollowed := true, recurses := true, apart := false }
def FnExactMetCellsSaid : Prop := fnExactMetCellsRow.holds Try.pinned (OpenSpec.ofChange fnExactMetCellsSpec)

/-- ITS FALSE NEIGHBOUR: 'it returns false'. Refute it at one input. -/
def fnExactMetCellsWrong : ChangeSpec := { name := "fnExactMetCells", fn := fun _ => fun
  | [d] => { results := [.lit (.bool false)], args := [d] }
  | _ => none }
def FnExactMetCellsWrongFalsely : Prop := fnExactMetCellsRow.holds Try.pinned (OpenSpec.ofChange fnExactMetCellsWrong)

/-- 'laws.FnExactSameFalls': WHATEVER THE INPUT: true; the input reads as it did. -/
def fnExactSameFallsSpec : ChangeSpec := { name := "fnExactSameFalls", fn := fun _ => fun
  | [d1, d2] => { results := [.lit (.bool true)], args := [d1, d2] }
  | _ => none }
def fnExactSameFallsRow : OpenClaim := { program := "ytoflhjekldlaiaa", sum := "fa8c8ece6f78f10b8b9616b5d6f83247b9fa65d00f61bd14f83ec3ddd33f638a", func := "loop.example/g00942/laws.FnExactSameFalls", spec := "fnExactSameFalls", unfollowed := true, recurses := true, apart := false }
def FnExactSameFallsSaid : Prop := fnExactSameFallsRow.holds Try.pinned (OpenSpec.ofChange fnExactSameFallsSpec)

/-- ITS FALSE NEIGHBOUR: 'it returns false'. Refute it at one input. -/
def fnExactSameFallsWrong : ChangeSpec := { name := "fnExactSameFalls", fn := fun _ => fun
  | [d1, d2] => { results := [.lit (.bool false)], args := [d1, d2] }
  | _ => none }
def FnExactSameFallsWrongFalsely : Prop := fnExactSameFallsRow.holds Try.pinned (OpenSpec.ofChange fnExactSameFallsWrong)

/-- 'laws.FnExactFirstDifferent': WHATEVER THE INPUT: true; the input reads as it did. -/
def fnExactFirstDifferentSpec : ChangeSpec := { name := "fnExactFirstDifferent", fn := fun _ => fun
  | [d1, d2, d3] => { results := [.lit (.bool true)], args := [d1, d2, d3] }
  | _ => none }
def fnExactFirstDifferentRow : OpenClaim := { program := "ytoflhjekldlaiaa", sum := "fa8c8ece6f78f10b8b9616b5d6f83247b9fa65d00f61bd14f83ec3ddd33f638a", func := "loop.example/g00942/laws.FnExactFirstDifferent", spec := "fnExactFirstDifferent", unfollowed := true, recurses := true, apart := false }
def FnExactFirstDifferentSaid : Prop := fnExactFirstDifferentRow.holds Try.pinned (OpenSpec.ofChange fnExactFirstDifferentSpec)

/-- ITS FALSE NEIGHBOUR: 'it returns false'. Refute it at one input. -/
def fnExactFirstDifferentWrong : ChangeSpec := { name := "fnExactFirstDifferent", fn := fun _ => fun
  | [d1, d2, d3] => { results := [.lit (.bool false)], args := [d1, d2, d3] }
  | _ => none }
def FnExactFirstDifferentWrongFalsely : Prop := fnExactFirstDifferentRow.holds Try.pinned (OpenSpec.ofChange fnExactFirstDifferentWrong)

/- THE SECOND FORM. 'bulk': how many values and letters a reading holds, each counted each time it is reached (what is shared counts as often as it is met; a slice's spare places count too). A statement '..UptoSaid' is the law's where the arguments, and the package variables that the reading takes, are together of bulk at most 1048576: NARROWER than '..Said'. Prove '..Said' where nothing that the law and all that it calls make is longer than what came in: it says more and counts as full. Else prove '..UptoSaid'. A law counts once. -/
mutual
def uptoBulk {H : Type} : DataW H → Nat
  | .lit (.string bytes) => bytes.length + 1
  | .lit _ => 1
  | .nil => 1
  | .ptr d => uptoBulk d + 1
  | .slice elems spare => uptoBulkAll elems + uptoBulkAll spare + 1
  | .agg parts => uptoBulkAll parts + 1
  | .iface _ d => uptoBulk d + 1
  | .map entries => uptoBulkEntries entries + 1
  | .held _ => 1
def uptoBulkAll {H : Type} : List (DataW H) → Nat
  | [] => 0
  | d :: r => uptoBulk d + uptoBulkAll r
def uptoBulkEntries {H : Type} : List (Lit × DataW H) → Nat
  | [] => 0
  | x :: r => uptoBulkEntry x + uptoBulkEntries r
def uptoBulkEntry {H : Type} : Lit × DataW H → Nat
  | (.string bytes, d) => bytes.length + uptoBulk d + 1
  | (_, d) => uptoBulk d + 1
 end
def uptoSmall : (H : Type) → List (DataW H) → Bool := fun _ ds => decide (uptoBulkAll ds ≤ 1048576)
def OpenSpec.upto (s : _root_.Go.ChangeSpec) : _root_.Go.OpenSpec := { _root_.Go.OpenSpec.ofChange s with cond := some uptoSmall }

/-- 'laws.FnExactFallOf', WHERE WHAT IT READS IS OF BULK AT MOST 1048576: true; the input reads as it did. -/
def fnExactFallOfUptoRow : OpenClaim := { program := "ytoflhjekldlaiaa", sum := "fa8c8ece6f78f10b8b9616b5d6f83247b9fa65d00f61bd14f83ec3ddd33f638a", func := "loop.example/g00942/laws.FnExactFallOf", spec := "fnExactFallOf", unfollowed := true, recurses := true, apart := false, narrowed := true }
def FnExactFallOfUptoSaid : Prop := fnExactFallOfUptoRow.holds Try.pinned (OpenSpec.upto fnExactFallOfSpec)

/-- 'laws.FnExactBoardAfter', WHERE WHAT IT READS IS OF BULK AT MOST 1048576: true; the input reads as it did. -/
def fnExactBoardAfterUptoRow : OpenClaim := { program := "ytoflhjekldlaiaa", sum := "fa8c8ece6f78f10b8b9616b5d6f83247b9fa65d00f61bd14f83ec3ddd33f638a", func := "loop.example/g00942/laws.FnExactBoardAfter", spec := "fnExactBoardAfter", unfollowed := true, recurses := true, apart := false, narrowed := true }
def FnExactBoardAfterUptoSaid : Prop := fnExactBoardAfterUptoRow.holds Try.pinned (OpenSpec.upto fnExactBoardAfterSpec)

/-- 'laws.FnExactWayOf', WHERE WHAT IT READS IS OF BULK AT MOST 1048576: true; the input reads as it did. -/
def fnExactWayOfUptoRow : OpenClaim := { program := "ytoflhjekldlaiaa", sum := "fa8c8ece6f78f10b8b9616b5d6f83247b9fa65d00f61bd14f83ec3ddd33f638a", func := "loop.example/g00942/laws.FnExactWayOf", spec := "fnExactWayOf", unfollowed := true, recurses := true, apart := false, narrowed := true }
def FnExactWayOfUptoSaid : Prop := fnExactWayOfUptoRow.holds Try.pinned (OpenSpec.upto fnExactWayOfSpec)

/-- 'laws.FnExactTurnedBy', WHERE WHAT IT READS IS OF BULK AT MOST 1048576: true; the input reads as it did. -/
def fnExactTurnedByUptoRow : OpenClaim := { program := "ytoflhjekldlaiaa", sum := "fa8c8ece6f78f10b8b9616b5d6f83247b9fa65d00f61bd14f83ec3ddd33f638a", func := "loop.example/g00942/laws.FnExactTurnedBy", spec := "fnExactTurnedBy", unfollowed := true, recurses := true, apart := false, narrowed := true }
def FnExactTurnedByUptoSaid : Prop := fnExactTurnedByUptoRow.holds Try.pinned (OpenSpec.upto fnExactTurnedBySpec)

/-- 'laws.FnExactFallsOf', WHERE WHAT IT READS IS OF BULK AT MOST 1048576: true; the input reads as it did. -/
def fnExactFallsOfUptoRow : OpenClaim := { program := "ytoflhjekldlaiaa", sum := "fa8c8ece6f78f10b8b9616b5d6f83247b9fa65d00f61bd14f83ec3ddd33f638a", func := "loop.example/g00942/laws.FnExactFallsOf", spec := "fnExactFallsOf", unfollowed := true, recurses := true, apart := false, narrowed := true }
def FnExactFallsOfUptoSaid : Prop := fnExactFallsOfUptoRow.holds Try.pinned (OpenSpec.upto fnExactFallsOfSpec)

/-- 'laws.FnExactArrivalCounts', WHERE WHAT IT READS IS OF BULK AT MOST 1048576: true; the input reads as it did. -/
def fnExactArrivalCountsUptoRow : OpenClaim := { program := "ytoflhjekldlaiaa", sum := "fa8c8ece6f78f10b8b9616b5d6f83247b9fa65d00f61bd14f83ec3ddd33f638a", func := "loop.example/g00942/laws.FnExactArrivalCounts", spec := "fnExactArrivalCounts", unfollowed := true, recurses := true, apart := false, narrowed := true }
def FnExactArrivalCountsUptoSaid : Prop := fnExactArrivalCountsUptoRow.holds Try.pinned (OpenSpec.upto fnExactArrivalCountsSpec)

/-- 'laws.FnExactColumnsTo', WHERE WHAT IT READS IS OF BULK AT MOST 1048576: true; the input reads as it did. -/
def fnExactColumnsToUptoRow : OpenClaim := { program := "ytoflhjekldlaiaa", sum := "fa8c8ece6f78f10b8b9616b5d6f83247b9fa65d00f61bd14f83ec3ddd33f638a", func := "loop.example/g00942/laws.FnExactColumnsTo", spec := "fnExactColumnsTo", unfollowed := true, recurses := true, apart := false, narrowed := true }
def FnExactColumnsToUptoSaid : Prop := fnExactColumnsToUptoRow.holds Try.pinned (OpenSpec.upto fnExactColumnsToSpec)

/-- 'laws.FnExactMetCells', WHERE WHAT IT READS IS OF BULK AT MOST 1048576: true; the input reads as it did. -/
def fnExactMetCellsUptoRow : OpenClaim := { program := "ytoflhjekldlaiaa", sum := "fa8c8ece6f78f10b8b9616b5d6f83247b9fa65d00f61bd14f83ec3ddd33f638a", func := "loop.example/g00942/laws.FnExactMetCells", spec := "fnExactMetCells", unfollowed := true, recurses := true, apart := false, narrowed := true }
def FnExactMetCellsUptoSaid : Prop := fnExactMetCellsUptoRow.holds Try.pinned (OpenSpec.upto fnExactMetCellsSpec)

/-- 'laws.FnExactSameFalls', WHERE WHAT IT READS IS OF BULK AT MOST 1048576: true; the input reads as it did. -/
def fnExactSameFallsUptoRow : OpenClaim := { program := "ytoflhjekldlaiaa", sum := "fa8c8ece6f78f10b8b9616b5d6f83247b9fa65d00f61bd14f83ec3ddd33f638a", func := "loop.example/g00942/laws.FnExactSameFalls", spec := "fnExactSameFalls", unfollowed := true, recurses := true, apart := false, narrowed := true }
def FnExactSameFallsUptoSaid : Prop := fnExactSameFallsUptoRow.holds Try.pinned (OpenSpec.upto fnExactSameFallsSpec)

/-- 'laws.FnExactFirstDifferent', WHERE WHAT IT READS IS OF BULK AT MOST 1048576: true; the input reads as it did. -/
def fnExactFirstDifferentUptoRow : OpenClaim := { program := "ytoflhjekldlaiaa", sum := "fa8c8ece6f78f10b8b9616b5d6f83247b9fa65d00f61bd14f83ec3ddd33f638a", func := "loop.example/g00942/laws.FnExactFirstDifferent", spec := "fnExactFirstDifferent", unfollowed := true, recurses := true, apart := false, narrowed := true }
def FnExactFirstDifferentUptoSaid : Prop := fnExactFirstDifferentUptoRow.holds Try.pinned (OpenSpec.upto fnExactFirstDifferentSpec)

end Rows
end Go.Proofs.Ytoflhjekldlaiaa
