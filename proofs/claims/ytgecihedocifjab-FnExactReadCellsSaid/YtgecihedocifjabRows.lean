/-
  No cell of these rows narrows 'for every input' (looked for: loops, veiled, ifaces, maps, wideKeys, modest, calm, conditions, laid).
  DERIVED. THE GIVEN ROWS OF THIS SEAT. 11 by the template 'for every input the law returns true; each argument reads behind the call as it read before'; 0 by the template 'total and deterministic' (their statements: YtgecihedocifjabTotals.lean).
  GIVEN WITH THE SEED: the statements are not yours to turn. If you find one false, say at which input.
  Laid BY PROGRAM, IN A SANDBOX (cutbox-rows.mjs): the forced cells as the released guide's own fill.sh prints them over the translation deb6e51b2de65548… (all of the seat's roots in one cut). By AI agents, Wed Nov 11 2026. No macro, syntax, notation, axiom, sorry.
-/
import Derived.Test.YtgecihedocifjabChecked
import GoSem.Claim
import GoSem.ClaimJoined
import GoSem.ClaimMapViews
import Derived.JoinedTies
import Derived.KernelRfl
namespace Go.Proofs.Ytgecihedocifjab
/- THE CELL 'sum', in the pinned program and in every row, IS THE sha256 OF THE DUMP (.gsa) THAT YtgecihedocifjabProg.lean LOADS. Nothing in Lean hashes anything: it is a label: what it is worth is what the hold of that sum in a sandbox is worth. -/
noncomputable def Try.pinned : Pinned := { name := "ytgecihedocifjab", sum := "deb6e51b2de65548b68a8b233bb6805144c3fddbdd701b879aa85d3229634860", checked := Try.checked }
namespace Rows
def none {H : Type} : Left H := { results := [], args := [] }

/-- 'laws.FnExactIsCell': WHATEVER THE INPUT: true; the input reads as it did. -/
def fnExactIsCellSpec : ChangeSpec := { name := "fnExactIsCell", fn := fun _ => fun
  | [d] => { results := [.lit (.bool true)], args := [d] }
  | _ => none }
def fnExactIsCellRow : OpenClaim := { program := "ytgecihedocifjab", sum := "deb6e51b2de65548b68a8b233bb6805144c3fddbdd701b879aa85d3229634860", func := "loop.example/g00942/laws.FnExactIsCell", spec := "fnExactIsCell", apart := false }
def FnExactIsCellSaid : Prop := fnExactIsCellRow.holds Try.pinned (OpenSpec.ofChange fnExactIsCellSpec)

/-- ITS FALSE NEIGHBOUR: 'it returns false'. Refute it at one input. -/
def fnExactIsCellWrong : ChangeSpec := { name := "fnExactIsCell", fn := fun _ => fun
  | [d] => { results := [.lit (.bool false)], args := [d] }
  | _ => none }
def FnExactIsCellWrongFalsely : Prop := fnExactIsCellRow.holds Try.pinned (OpenSpec.ofChange fnExactIsCellWrong)

/-- 'laws.FnExactIsTurning': WHATEVER THE INPUT: true; the input reads as it did. -/
def fnExactIsTurningSpec : ChangeSpec := { name := "fnExactIsTurning", fn := fun _ => fun
  | [d] => { results := [.lit (.bool true)], args := [d] }
  | _ => none }
def fnExactIsTurningRow : OpenClaim := { program := "ytgecihedocifjab", sum := "deb6e51b2de65548b68a8b233bb6805144c3fddbdd701b879aa85d3229634860", func := "loop.example/g00942/laws.FnExactIsTurning", spec := "fnExactIsTurning", apart := false }
def FnExactIsTurningSaid : Prop := fnExactIsTurningRow.holds Try.pinned (OpenSpec.ofChange fnExactIsTurningSpec)

/-- ITS FALSE NEIGHBOUR: 'it returns false'. Refute it at one input. -/
def fnExactIsTurningWrong : ChangeSpec := { name := "fnExactIsTurning", fn := fun _ => fun
  | [d] => { results := [.lit (.bool false)], args := [d] }
  | _ => none }
def FnExactIsTurningWrongFalsely : Prop := fnExactIsTurningRow.holds Try.pinned (OpenSpec.ofChange fnExactIsTurningWrong)

/-- 'laws.FnExactCellLetter': WHATEVER THE INPUT: true; the input reads as it did. -/
def fnExactCellLetterSpec : ChangeSpec := { name := "fnExactCellLetter", fn := fun _ => fun
  | [d] => { results := [.lit (.bool true)], args := [d] }
  | _ => none }
def fnExactCellLetterRow : OpenClaim := { program := "ytgecihedocifjab", sum := "deb6e51b2de65548b68a8b233bb6805144c3fddbdd701b879aa85d3229634860", func := "loop.example/g00942/laws.FnExactCellLetter", spec := "fnExactCellLetter", apart := false }
def FnExactCellLetterSaid : Prop := fnExactCellLetterRow.holds Try.pinned (OpenSpec.ofChange fnExactCellLetterSpec)

/-- ITS FALSE NEIGHBOUR: 'it returns false'. Refute it at one input. -/
def fnExactCellLetterWrong : ChangeSpec := { name := "fnExactCellLetter", fn := fun _ => fun
  | [d] => { results := [.lit (.bool false)], args := [d] }
  | _ => none }
def FnExactCellLetterWrongFalsely : Prop := fnExactCellLetterRow.holds Try.pinned (OpenSpec.ofChange fnExactCellLetterWrong)

/-- 'laws.FnExactReadCell': WHATEVER THE INPUT: true; the input reads as it did. -/
def fnExactReadCellSpec : ChangeSpec := { name := "fnExactReadCell", fn := fun _ => fun
  | [d] => { results := [.lit (.bool true)], args := [d] }
  | _ => none }
def fnExactReadCellRow : OpenClaim := { program := "ytgecihedocifjab", sum := "deb6e51b2de65548b68a8b233bb6805144c3fddbdd701b879aa85d3229634860", func := "loop.example/g00942/laws.FnExactReadCell", spec := "fnExactReadCell", apart := false }
def FnExactReadCellSaid : Prop := fnExactReadCellRow.holds Try.pinned (OpenSpec.ofChange fnExactReadCellSpec)

/-- ITS FALSE NEIGHBOUR: 'it returns false'. Refute it at one input. -/
def fnExactReadCellWrong : ChangeSpec := { name := "fnExactReadCell", fn := fun _ => fun
  | [d] => { results := [.lit (.bool false)], args := [d] }
  | _ => none }
def FnExactReadCellWrongFalsely : Prop := fnExactReadCellRow.holds Try.pinned (OpenSpec.ofChange fnExactReadCellWrong)

/-- 'laws.FnExactMirrorCell': WHATEVER THE INPUT: true; the input reads as it did. -/
def fnExactMirrorCellSpec : ChangeSpec := { name := "fnExactMirrorCell", fn := fun _ => fun
  | [d] => { results := [.lit (.bool true)], args := [d] }
  | _ => none }
def fnExactMirrorCellRow : OpenClaim := { program := "ytgecihedocifjab", sum := "deb6e51b2de65548b68a8b233bb6805144c3fddbdd701b879aa85d3229634860", func := "loop.example/g00942/laws.FnExactMirrorCell", spec := "fnExactMirrorCell", apart := false }
def FnExactMirrorCellSaid : Prop := fnExactMirrorCellRow.holds Try.pinned (OpenSpec.ofChange fnExactMirrorCellSpec)

/-- ITS FALSE NEIGHBOUR: 'it returns false'. Refute it at one input. -/
def fnExactMirrorCellWrong : ChangeSpec := { name := "fnExactMirrorCell", fn := fun _ => fun
  | [d] => { results := [.lit (.bool false)], args := [d] }
  | _ => none }
def FnExactMirrorCellWrongFalsely : Prop := fnExactMirrorCellRow.holds Try.pinned (OpenSpec.ofChange fnExactMirrorCellWrong)

/-- 'laws.FnExactTurnCell': WHATEVER THE INPUT: true; the input reads as it did. -/
def fnExactTurnCellSpec : ChangeSpec := { name := "fnExactTurnCell", fn := fun _ => fun
  | [d] => { results := [.lit (.bool true)], args := [d] }
  | _ => none }
def fnExactTurnCellRow : OpenClaim := { program := "ytgecihedocifjab", sum := "deb6e51b2de65548b68a8b233bb6805144c3fddbdd701b879aa85d3229634860", func := "loop.example/g00942/laws.FnExactTurnCell", spec := "fnExactTurnCell", apart := false }
def FnExactTurnCellSaid : Prop := fnExactTurnCellRow.holds Try.pinned (OpenSpec.ofChange fnExactTurnCellSpec)

/-- ITS FALSE NEIGHBOUR: 'it returns false'. Refute it at one input. -/
def fnExactTurnCellWrong : ChangeSpec := { name := "fnExactTurnCell", fn := fun _ => fun
  | [d] => { results := [.lit (.bool false)], args := [d] }
  | _ => none }
def FnExactTurnCellWrongFalsely : Prop := fnExactTurnCellRow.holds Try.pinned (OpenSpec.ofChange fnExactTurnCellWrong)

/-- 'laws.FnExactGoesTo': WHATEVER THE INPUT: true; the input reads as it did. -/
def fnExactGoesToSpec : ChangeSpec := { name := "fnExactGoesTo", fn := fun _ => fun
  | [d1, d2] => { results := [.lit (.bool true)], args := [d1, d2] }
  | _ => none }
def fnExactGoesToRow : OpenClaim := { program := "ytgecihedocifjab", sum := "deb6e51b2de65548b68a8b233bb6805144c3fddbdd701b879aa85d3229634860", func := "loop.example/g00942/laws.FnExactGoesTo", spec := "fnExactGoesTo", unfollowed := true, recurses := true, apart := false }
def FnExactGoesToSaid : Prop := fnExactGoesToRow.holds Try.pinned (OpenSpec.ofChange fnExactGoesToSpec)

/-- ITS FALSE NEIGHBOUR: 'it returns false'. Refute it at one input. -/
def fnExactGoesToWrong : ChangeSpec := { name := "fnExactGoesTo", fn := fun _ => fun
  | [d1, d2] => { results := [.lit (.bool false)], args := [d1, d2] }
  | _ => none }
def FnExactGoesToWrongFalsely : Prop := fnExactGoesToRow.holds Try.pinned (OpenSpec.ofChange fnExactGoesToWrong)

/-- 'laws.FnExactCellsText': WHATEVER THE INPUT: true; the input reads as it did. -/
def fnExactCellsTextSpec : ChangeSpec := { name := "fnExactCellsText", fn := fun _ => fun
  | [d] => { results := [.lit (.bool true)], args := [d] }
  | _ => none }
def fnExactCellsTextRow : OpenClaim := { program := "ytgecihedocifjab", sum := "deb6e51b2de65548b68a8b233bb6805144c3fddbdd701b879aa85d3229634860", func := "loop.example/g00942/laws.FnExactCellsText", spec := "fnExactCellsText", inPlace := ["internal/abi.NoEscape"], apart := false }
def FnExactCellsTextSaid : Prop := fnExactCellsTextRow.holds Try.pinned (OpenSpec.ofChange fnExactCellsTextSpec)

/-- ITS FALSE NEIGHBOUR: 'it returns false'. Refute it at one input. -/
def fnExactCellsTextWrong : ChangeSpec := { name := "fnExactCellsText", fn := fun _ => fun
  | [d] => { results := [.lit (.bool false)], args := [d] }
  | _ => none }
def FnExactCellsTextWrongFalsely : Prop := fnExactCellsTextRow.holds Try.pinned (OpenSpec.ofChange fnExactCellsTextWrong)

/-- 'laws.FnExactReadCells': WHATEVER THE INPUT: true; the input reads as it did. -/
def fnExactReadCellsSpec : ChangeSpec := { name := "fnExactReadCells", fn := fun _ => fun
  | [d] => { results := [.lit (.bool true)], args := [d] }
  | _ => none }
def fnExactReadCellsRow : OpenClaim := { program := "ytgecihedocifjab", sum := "deb6e51b2de65548b68a8b233bb6805144c3fddbdd701b879aa85d3229634860", func := "loop.example/g00942/laws.FnExactReadCells", spec := "fnExactReadCells", apart := false }
def FnExactReadCellsSaid : Prop := fnExactReadCellsRow.holds Try.pinned (OpenSpec.ofChange fnExactReadCellsSpec)

/-- ITS FALSE NEIGHBOUR: 'it returns false'. Refute it at one input. -/
def fnExactReadCellsWrong : ChangeSpec := { name := "fnExactReadCells", fn := fun _ => fun
  | [d] => { results := [.lit (.bool false)], args := [d] }
  | _ => none }
def FnExactReadCellsWrongFalsely : Prop := fnExactReadCellsRow.holds Try.pinned (OpenSpec.ofChange fnExactReadCellsWrong)

/-- 'laws.FnExactCountKinds': WHATEVER THE INPUT: true; the input reads as it did. -/
def fnExactCountKindsSpec : ChangeSpec := { name := "fnExactCountKinds", fn := fun _ => fun
  | [d] => { results := [.lit (.bool true)], args := [d] }
  | _ => none }
def fnExactCountKindsRow : OpenClaim := { program := "ytgecihedocifjab", sum := "deb6e51b2de65548b68a8b233bb6805144c3fddbdd701b879aa85d3229634860", func := "loop.example/g00942/laws.FnExactCountKinds", spec := "fnExactCountKinds", apart := false }
def FnExactCountKindsSaid : Prop := fnExactCountKindsRow.holds Try.pinned (OpenSpec.ofChange fnExactCountKindsSpec)

/-- ITS FALSE NEIGHBOUR: 'it returns false'. Refute it at one input. -/
def fnExactCountKindsWrong : ChangeSpec := { name := "fnExactCountKinds", fn := fun _ => fun
  | [d] => { results := [.lit (.bool false)], args := [d] }
  | _ => none }
def FnExactCountKindsWrongFalsely : Prop := fnExactCountKindsRow.holds Try.pinned (OpenSpec.ofChange fnExactCountKindsWrong)

/-- 'laws.FnExactParseBoard': WHATEVER THE INPUT: true; the input reads as it did. -/
def fnExactParseBoardSpec : ChangeSpec := { name := "fnExactParseBoard", fn := fun _ => fun
  | [d] => { results := [.lit (.bool true)], args := [d] }
  | _ => none }
def fnExactParseBoardRow : OpenClaim := { program := "ytgecihedocifjab", sum := "deb6e51b2de65548b68a8b233bb6805144c3fddbdd701b879aa85d3229634860", func := "loop.example/g00942/laws.FnExactParseBoard", spec := "fnExactParseBoard", inPlace := ["internal/bytealg.CountString", "internal/bytealg.IndexByteString", "internal/bytealg.IndexString"], named := ["internal/bytealg.MaxLen"], apart := false }
def FnExactParseBoardSaid : Prop := fnExactParseBoardRow.holds Try.pinned (OpenSpec.ofChange fnExactParseBoardSpec)

/-- ITS FALSE NEIGHBOUR: 'it returns false'. Refute it at one input. -/
def fnExactParseBoardWrong : ChangeSpec := { name := "fnExactParseBoard", fn := fun _ => fun
  | [d] => { results := [.lit (.bool false)], args := [d] }
  | _ => none }
def FnExactParseBoardWrongFalsely : Prop := fnExactParseBoardRow.holds Try.pinned (OpenSpec.ofChange fnExactParseBoardWrong)

/- THE SECOND FORM. 'bulk': how many values and letters a reading holds, each counted each time it is reached (what is shared counts as often as it is met; a slice's spare places count too). A statement '..UptoSaid' is the law's where the arguments, and the package variables that the reading takes, are together of bulk at most 1048576: NARROWER than '..Said'. Prove '..Said' where nothing that the law and all that it calls make is longer than what came in: it says more and counts as full. Else prove '..UptoSaid'. A law counts once. -/
mutual
def uptoBulk {H : Type} : DataW H → Nat
  | .lit (.string bytes) => bytes.length + 1
  | .lit _ => 1
  | .nil => 1
  | .ptr d => uptoBulk d + 1
  | .slice elems spare => uptoBulkAll elems + uptoBulkAll spare + 1
  | .agg parts => uptoBulkAll parts + 1
  | .iface _ d => uptoBulk d + 1
  | .map entries => uptoBulkEntries entries + 1
  | .held _ => 1
def uptoBulkAll {H : Type} : List (DataW H) → Nat
  | [] => 0
  | d :: r => uptoBulk d + uptoBulkAll r
def uptoBulkEntries {H : Type} : List (Lit × DataW H) → Nat
  | [] => 0
  | x :: r => uptoBulkEntry x + uptoBulkEntries r
def uptoBulkEntry {H : Type} : Lit × DataW H → Nat
  | (.string bytes, d) => bytes.length + uptoBulk d + 1
  | (_, d) => uptoBulk d + 1
 end
def uptoSmall : (H : Type) → List (DataW H) → Bool := fun _ ds => decide (uptoBulkAll ds ≤ 1048576)
def OpenSpec.upto (s : _root_.Go.ChangeSpec) : _root_.Go.OpenSpec := { _root_.Go.OpenSpec.ofChange s with cond := some uptoSmall }

/-- 'laws.FnExactIsCell', WHERE WHAT IT READS IS OF BULK AT MOST 1048576: true; the input reads as it did. -/
def fnExactIsCellUptoRow : OpenClaim := { program := "ytgecihedocifjab", sum := "deb6e51b2de65548b68a8b233bb6805144c3fddbdd701b879aa85d3229634860", func := "loop.example/g00942/laws.FnExactIsCell", spec := "fnExactIsCell", apart := false, narrowed := true }
def FnExactIsCellUptoSaid : Prop := fnExactIsCellUptoRow.holds Try.pinned (OpenSpec.upto fnExactIsCellSpec)

/-- 'laws.FnExactIsTurning', WHERE WHAT IT READS IS OF BULK AT MOST 1048576: true; the input reads as it did. -/
def fnExactIsTurningUptoRow : OpenClaim := { program := "ytgecihedocifjab", sum := "deb6e51b2de65548b68a8b233bb6805144c3fddbdd701b879aa85d3229634860", func := "loop.example/g00942/laws.FnExactIsTurning", spec := "fnExactIsTurning", apart := false, narrowed := true }
def FnExactIsTurningUptoSaid : Prop := fnExactIsTurningUptoRow.holds Try.pinned (OpenSpec.upto fnExactIsTurningSpec)

/-- 'laws.FnExactCellLetter', WHERE WHAT IT READS IS OF BULK AT MOST 1048576: true; the input reads as it did. -/
def fnExactCellLetterUptoRow : OpenClaim := { program := "ytgecihedocifjab", sum := "deb6e51b2de65548b68a8b233bb6805144c3fddbdd701b879aa85d3229634860", func := "loop.example/g00942/laws.FnExactCellLetter", spec := "fnExactCellLetter", apart := false, narrowed := true }
def FnExactCellLetterUptoSaid : Prop := fnExactCellLetterUptoRow.holds Try.pinned (OpenSpec.upto fnExactCellLetterSpec)

/-- 'laws.FnExactReadCell', WHERE WHAT IT READS IS OF BULK AT MOST 1048576: true; the input reads as it did. -/
def fnExactReadCellUptoRow : OpenClaim := { program := "ytgecihedocifjab", sum := "deb6e51b2de65548b68a8b233bb6805144c3fddbdd701b879aa85d3229634860", func := "loop.example/g00942/laws.FnExactReadCell", spec := "fnExactReadCell", apart := false, narrowed := true }
def FnExactReadCellUptoSaid : Prop := fnExactReadCellUptoRow.holds Try.pinned (OpenSpec.upto fnExactReadCellSpec)

/-- 'laws.FnExactMirrorCell', WHERE WHAT IT READS IS OF BULK AT MOST 1048576: true; the input reads as it did. -/
def fnExactMirrorCellUptoRow : OpenClaim := { program := "ytgecihedocifjab", sum := "deb6e51b2de65548b68a8b233bb6805144c3fddbdd701b879aa85d3229634860", func := "loop.example/g00942/laws.FnExactMirrorCell", spec := "fnExactMirrorCell", apart := false, narrowed := true }
def FnExactMirrorCellUptoSaid : Prop := fnExactMirrorCellUptoRow.holds Try.pinned (OpenSpec.upto fnExactMirrorCellSpec)

/-- 'laws.FnExactTurnCell', WHERE WHAT IT READS IS OF BULK AT MOST 1048576: true; the input reads as it did. -/
def fnExactTurnCellUptoRow : OpenClaim := { program := "ytgecihedocifjab", sum := "deb6e51b2de65548b68a8b233bb6805144c3fddbdd701b879aa85d3229634860", func := "loop.example/g00942/laws.FnExactTurnCell", spec := "fnExactTurnCell", apart := false, narrowed := true }
def FnExactTurnCellUptoSaid : Prop := fnExactTurnCellUptoRow.holds Try.pinned (OpenSpec.upto fnExactTurnCellSpec)

/-- 'laws.FnExactGoesTo', WHERE WHAT IT READS IS OF BULK AT MOST 1048576: true; the input reads as it did. -/
def fnExactGoesToUptoRow : OpenClaim := { program := "ytgecihedocifjab", sum := "deb6e51b2de65548b68a8b233bb6805144c3fddbdd701b879aa85d3229634860", func := "loop.example/g00942/laws.FnExactGoesTo", spec := "fnExactGoesTo", unfollowed := true, recurses := true, apart := false, narrowed := true }
def FnExactGoesToUptoSaid : Prop := fnExactGoesToUptoRow.holds Try.pinned (OpenSpec.upto fnExactGoesToSpec)

/-- 'laws.FnExactCellsText', WHERE WHAT IT READS IS OF BULK AT MOST 1048576: true; the input reads as it did. -/
def fnExactCellsTextUptoRow : OpenClaim := { program := "ytgecihedocifjab", sum := "deb6e51b2de65548b68a8b233bb6805144c3fddbdd701b879aa85d3229634860", func := "loop.example/g00942/laws.FnExactCellsText", spec := "fnExactCellsText", inPlace := ["internal/abi.NoEscape"], apart := false, narrowed := true }
def FnExactCellsTextUptoSaid : Prop := fnExactCellsTextUptoRow.holds Try.pinned (OpenSpec.upto fnExactCellsTextSpec)

/-- 'laws.FnExactReadCells', WHERE WHAT IT READS IS OF BULK AT MOST 1048576: true; the input reads as it did. -/
def fnExactReadCellsUptoRow : OpenClaim := { program := "ytgecihedocifjab", sum := "deb6e51b2de65548b68a8b233bb6805144c3fddbdd701b879aa85d3229634860", func := "loop.example/g00942/laws.FnExactReadCells", spec := "fnExactReadCells", apart := false, narrowed := true }
def FnExactReadCellsUptoSaid : Prop := fnExactReadCellsUptoRow.holds Try.pinned (OpenSpec.upto fnExactReadCellsSpec)

/-- 'laws.FnExactCountKinds', WHERE WHAT IT READS IS OF BULK AT MOST 1048576: true; the input reads as it did. -/
def fnExactCountKindsUptoRow : OpenClaim := { program := "ytgecihedocifjab", sum := "deb6e51b2de65548b68a8b233bb6805144c3fddbdd701b879aa85d3229634860", func := "loop.example/g00942/laws.FnExactCountKinds", spec := "fnExactCountKinds", apart := false, narrowed := true }
def FnExactCountKindsUptoSaid : Prop := fnExactCountKindsUptoRow.holds Try.pinned (OpenSpec.upto fnExactCountKindsSpec)

/-- 'laws.FnExactParseBoard', WHERE WHAT IT READS IS OF BULK AT MOST 1048576: true; the input reads as it did. -/
def fnExactParseBoardUptoRow : OpenClaim := { program := "ytgecihedocifjab", sum := "deb6e51b2de65548b68a8b233bb6805144c3fddbdd701b879aa85d3229634860", func := "loop.example/g00942/laws.FnExactParseBoard", spec := "fnExactParseBoard", inPlace := ["internal/bytealg.CountString", "internal/bytealg.IndexByteString", "internal/bytealg.IndexString"], named := ["internal/bytealg.MaxLen"], apart := false, narrowed := true }
def FnExactParseBoardUptoSaid : Prop := fnExactParseBoardUptoRow.holds Try.pinned (OpenSpec.upto fnExactParseBoardSpec)

end Rows
end Go.Proofs.Ytgecihedocifjab
