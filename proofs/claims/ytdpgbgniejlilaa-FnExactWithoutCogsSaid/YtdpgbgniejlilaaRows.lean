/-
  No cell of these rows narrows 'for every input' (looked for: loops, veiled, ifaces, maps, wideKeys, modest, calm, conditions, laid).
  DERIVED. THE GIVEN ROWS OF THIS SEAT. 4 by the template 'for every input the law returns true; each argument reads behind the call as it read before'; 0 by the template 'total and deterministic' (their statements: YtdpgbgniejlilaaTotals.lean).
  GIVEN WITH THE SEED: the statements are not yours to turn. If you find one false, say at which input.
  Laid BY PROGRAM, IN A SANDBOX (cutbox-rows.mjs): the forced cells as the released guide's own fill.sh prints them over the translation df9e0a4c70ebcd9e… (all of the seat's roots in one cut). By AI agents, Wed Nov 11 2026. No macro, syntax, notation, axiom, sorry.
-/
import Derived.Test.YtdpgbgniejlilaaChecked
import GoSem.Claim
import GoSem.ClaimJoined
import GoSem.ClaimMapViews
import Derived.JoinedTies
import Derived.KernelRfl
namespace Go.Proofs.Ytdpgbgniejlilaa
/- THE CELL 'sum', in the pinned program and in every row, IS THE sha256 OF THE DUMP (.gsa) THAT YtdpgbgniejlilaaProg.lean LOADS. Nothing in Lean hashes anything: it is a label: what it is worth is what the hold of that sum in a sandbox is worth. -/
noncomputable def Try.pinned : Pinned := { name := "ytdpgbgniejlilaa", sum := "df9e0a4c70ebcd9eee11493c44ee714397864da78b5ed2456856868ff1d9a1f3", checked := Try.checked }
namespace Rows
def none {H : Type} : Left H := { results := [], args := [] }

/-- 'laws.FnExactPutCell': WHATEVER THE INPUT: true; the input reads as it did. -/
def fnExactPutCellSpec : ChangeSpec := { name := "fnExactPutCell", fn := fun _ => fun
  | [d1, d2, d3, d4] => { results := [.lit (.bool true)], args := [d1, d2, d3, d4] }
  | _ => none }
def fnExactPutCellRow : OpenClaim := { program := "ytdpgbgniejlilaa", sum := "df9e0a4c70ebcd9eee11493c44ee714397864da78b5ed2456856868ff1d9a1f3", func := "loop.example/g00942/laws.FnExactPutCell", spec := "fnExactPutCell", apart := false }
def FnExactPutCellSaid : Prop := fnExactPutCellRow.holds Try.pinned (OpenSpec.ofChange fnExactPutCellSpec)

/-- ITS FALSE NEIGHBOUR: 'it returns false'. Refute it at one input. -/
def fnExactPutCellWrong : ChangeSpec := { name := "fnExactPutCell", fn := fun _ => fun
  | [d1, d2, d3, d4] => { results := [.lit (.bool false)], args := [d1, d2, d3, d4] }
  | _ => none }
def FnExactPutCellWrongFalsely : Prop := fnExactPutCellRow.holds Try.pinned (OpenSpec.ofChange fnExactPutCellWrong)

/-- 'laws.FnExactTurnGear': WHATEVER THE INPUT: true; the input reads as it did. -/
def fnExactTurnGearSpec : ChangeSpec := { name := "fnExactTurnGear", fn := fun _ => fun
  | [d1, d2, d3] => { results := [.lit (.bool true)], args := [d1, d2, d3] }
  | _ => none }
def fnExactTurnGearRow : OpenClaim := { program := "ytdpgbgniejlilaa", sum := "df9e0a4c70ebcd9eee11493c44ee714397864da78b5ed2456856868ff1d9a1f3", func := "loop.example/g00942/laws.FnExactTurnGear", spec := "fnExactTurnGear", unfollowed := true, recurses := true, apart := false }
def FnExactTurnGearSaid : Prop := fnExactTurnGearRow.holds Try.pinned (OpenSpec.ofChange fnExactTurnGearSpec)

/-- ITS FALSE NEIGHBOUR: 'it returns false'. Refute it at one input. -/
def fnExactTurnGearWrong : ChangeSpec := { name := "fnExactTurnGear", fn := fun _ => fun
  | [d1, d2, d3] => { results := [.lit (.bool false)], args := [d1, d2, d3] }
  | _ => none }
def FnExactTurnGearWrongFalsely : Prop := fnExactTurnGearRow.holds Try.pinned (OpenSpec.ofChange fnExactTurnGearWrong)

/-- 'laws.FnExactAlignGears': WHATEVER THE INPUT: true; the input reads as it did. -/
def fnExactAlignGearsSpec : ChangeSpec := { name := "fnExactAlignGears", fn := fun _ => fun
  | [d] => { results := [.lit (.bool true)], args := [d] }
  | _ => none }
def fnExactAlignGearsRow : OpenClaim := { program := "ytdpgbgniejlilaa", sum := "df9e0a4c70ebcd9eee11493c44ee714397864da78b5ed2456856868ff1d9a1f3", func := "loop.example/g00942/laws.FnExactAlignGears", spec := "fnExactAlignGears", unfollowed := true, recurses := true, apart := false }
def FnExactAlignGearsSaid : Prop := fnExactAlignGearsRow.holds Try.pinned (OpenSpec.ofChange fnExactAlignGearsSpec)

/-- ITS FALSE NEIGHBOUR: 'it returns false'. Refute it at one input. -/
def fnExactAlignGearsWrong : ChangeSpec := { name := "fnExactAlignGears", fn := fun _ => fun
  | [d] => { results := [.lit (.bool false)], args := [d] }
  | _ => none }
def FnExactAlignGearsWrongFalsely : Prop := fnExactAlignGearsRow.holds Try.pinned (OpenSpec.ofChange fnExactAlignGearsWrong)

/-- 'laws.FnExactWithoutCogs': WHATEVER THE INPUT: true; the input reads as it did. -/
def fnExactWithoutCogsSpec : ChangeSpec := { name := "fnExactWithoutCogs", fn := fun _ => fun
  | [d] => { results := [.lit (.bool true)], args := [d] }
  | _ => none }
def fnExactWithoutCogsRow : OpenClaim := { program := "ytdpgbgniejlilaa", sum := "df9e0a4c70ebcd9eee11493c44ee714397864da78b5ed2456856868ff1d9a1f3", func := "loop.example/g00942/laws.FnExactWithoutCogs", spec := "fnExactWithoutCogs", unfollowed := true, recurses := true, apart := false }
def FnExactWithoutCogsSaid : Prop := fnExactWithoutCogsRow.holds Try.pinned (OpenSpec.ofChange fnExactWithoutCogsSpec)

/-- ITS FALSE NEIGHBOUR: 'it returns false'. Refute it at one input. -/
def fnExactWithoutCogsWrong : ChangeSpec := { name := "fnExactWithoutCogs", fn := fun _ => fun
  | [d] => { results := [.lit (.bool false)], args := [d] }
  | _ => none }
def FnExactWithoutCogsWrongFalsely : Prop := fnExactWithoutCogsRow.holds Try.pinned (OpenSpec.ofChange fnExactWithoutCogsWrong)

/- THE SECOND FORM. 'bulk': how many values and letters a reading holds, each counted each time it is reached (what is shared counts as often as it is met; a slice's spare places count too). A statement '..UptoSaid' is the law's where the arguments, and the package variables that the reading takes, are together of bulk at most 1048576: NARROWER than '..Said'. Prove '..Said' where nothing that the law and all that it calls make is longer than what came in: it says more and counts as full. Else prove '..UptoSaid'. A law counts once. -/
mutual
def uptoBulk {H : Type} : DataW H → Nat
  | .lit (.string bytes) => bytes.length + 1
  | .lit _ => 1
  | .nil => 1
  | .ptr d => uptoBulk d + 1
  | .slice elems spare => uptoBulkAll elems + uptoBulkAll spare + 1
  | .agg parts => uptoBulkAll parts + 1
  | .iface _ d => uptoBulk d + 1
  | .map entries => uptoBulkEntries entries + 1
  | .held _ => 1
def uptoBulkAll {H : Type} : List (DataW H) → Nat
  | [] => 0
  | d :: r => uptoBulk d + uptoBulkAll r
def uptoBulkEntries {H : Type} : List (Lit × DataW H) → Nat
  | [] => 0
  | x :: r => uptoBulkEntry x + uptoBulkEntries r
def uptoBulkEntry {H : Type} : Lit × DataW H → Nat
  | (.string bytes, d) => bytes.length + uptoBulk d + 1
  | (_, d) => uptoBulk d + 1
 end
def uptoSmall : (H : Type) → List (DataW H) → Bool := fun _ ds => decide (uptoBulkAll ds ≤ 1048576)
def OpenSpec.upto (s : _root_.Go.ChangeSpec) : _root_.Go.OpenSpec := { _root_.Go.OpenSpec.ofChange s with cond := some uptoSmall }

/-- 'laws.FnExactPutCell', WHERE WHAT IT READS IS OF BULK AT MOST 1048576: true; the input reads as it did. -/
def fnExactPutCellUptoRow : OpenClaim := { program := "ytdpgbgniejlilaa", sum := "df9e0a4c70ebcd9eee11493c44ee714397864da78b5ed2456856868ff1d9a1f3", func := "loop.example/g00942/laws.FnExactPutCell", spec := "fnExactPutCell", apart := false, narrowed := true }
def FnExactPutCellUptoSaid : Prop := fnExactPutCellUptoRow.holds Try.pinned (OpenSpec.upto fnExactPutCellSpec)

/-- 'laws.FnExactTurnGear', WHERE WHAT IT READS IS OF BULK AT MOST 1048576: true; the input reads as it did. -/
def fnExactTurnGearUptoRow : OpenClaim := { program := "ytdpgbgniejlilaa", sum := "df9e0a4c70ebcd9eee11493c44ee714397864da78b5ed2456856868ff1d9a1f3", func := "loop.example/g00942/laws.FnExactTurnGear", spec := "fnExactTurnGear", unfollowed := true, recurses := true, apart := false, narrowed := true }
def FnExactTurnGearUptoSaid : Prop := fnExactTurnGearUptoRow.holds Try.pinned (OpenSpec.upto fnExactTurnGearSpec)

/-- 'laws.FnExactAlignGears', WHERE WHAT IT READS IS OF BULK AT MOST 1048576: true; the input reads as it did. -/
def fnExactAlignGearsUptoRow : OpenClaim := { program := "ytdpgbgniejlilaa", sum := "df9e0a4c70ebcd9eee11493c44ee714397864da78b5ed2456856868ff1d9a1f3", func := "loop.example/g00942/laws.FnExactAlignGears", spec := "fnExactAlignGears", unfollowed := true, recurses := true, apart := false, narrowed := true }
def FnExactAlignGearsUptoSaid : Prop := fnExactAlignGearsUptoRow.holds Try.pinned (OpenSpec.upto fnExactAlignGearsSpec)

/-- 'laws.FnExactWithoutCogs', WHERE WHAT IT READS IS OF BULK AT MOST 1048576: true; the input reads as it did. -/
def fnExactWithoutCogsUptoRow : OpenClaim := { program := "ytdpgbgniejlilaa", sum := "df9e0a4c70ebcd9eee11493c44ee714397864da78b5ed2456856868ff1d9a1f3", func := "loop.example/g00942/laws.FnExactWithoutCogs", spec := "fnExactWithoutCogs", unfollowed := true, recurses := true, apart := false, narrowed := true }
def FnExactWithoutCogsUptoSaid : Prop := fnExactWithoutCogsUptoRow.holds Try.pinned (OpenSpec.upto fnExactWithoutCogsSpec)

end Rows
end Go.Proofs.Ytdpgbgniejlilaa
