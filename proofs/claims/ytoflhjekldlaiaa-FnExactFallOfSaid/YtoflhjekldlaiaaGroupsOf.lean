/- The program's groups in their order. -/
import Derived.Test.YtoflhjekldlaiaaJoined
import Derived.Test.YtoflhjekldlaiaaLRow
namespace Go.Proofs.Ytoflhjekldlaiaa
open Go.ChangeShapes Go.WideShapes Go.ChangeAt Go.RowKit Go.Joins Go.Deep
set_option linter.unusedSimpArgs false
set_option linter.unusedVariables false
set_option maxRecDepth 100000
set_option maxHeartbeats 2000000
theorem opn_flat (J : Nat → Bool) (G : List (List Nat)) (q : List Nat) (i : Nat) : opn J (G ++ [q]).flatten [] i = opn J G.flatten q i := by
  rw [Bool.eq_iff_iff, opn_iff, opn_iff, flatten_snoc, List.mem_append]
  constructor
  · rintro ⟨a, b, _⟩; exact ⟨a, fun h => b (.inl h), fun h => b (.inr h)⟩
  · rintro ⟨a, b, c⟩; exact ⟨a, fun h => h.elim b c, List.not_mem_nil⟩
end Go.Proofs.Ytoflhjekldlaiaa
