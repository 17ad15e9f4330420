/- flAll, the model's: several marbles. -/
import Derived.Test.YtoflhjekldlaiaaFallS
import Derived.Test.YtoflhjekldlaiaaColumns
namespace Go.Proofs.Ytoflhjekldlaiaa
open Go.ChangeShapes Go.WideShapes Go.ChangeAt Go.RowKit Go.Joins Go.Deep
set_option linter.unusedSimpArgs false
set_option linter.unusedVariables false
set_option maxRecDepth 100000
set_option maxHeartbeats 4000000
theorem flG_good (nm : List Int) (r c : Nat) : ∀ (n row : Nat) (l : List (Int × Int)) (col : Nat) (side : Int) (way : List (List Nat)), l.length = r * c → row + n ≤ r → col < c → (∀ x ∈ l, good x.1 x.2 = true) → ∀ x ∈ (flG nm r c n row l col side way).cells, good x.1 x.2 = true
  | 0, _, l, _, _, _, _, _, _, h => h
  | n + 1, row, l, col, side, way, hl, hrow, hcol, h => by
    have hi : row * c + col < l.length := by
      rw [hl]
      have h1 := Nat.mul_le_mul (show row + 1 ≤ r by omega) (Nat.le_refl c)
      rw [Nat.succ_mul] at h1
      omega
    rw [flG_step nm r c n row l col side way _ _ rfl rfl]
    split
    · exact h
    · split
      · next hin => exact flG_good nm r c n (row + 1) _ _ _ _ (by rw [passL_len]; exact hl) (by omega) (by omega) (passL_good hi h)
      · exact passL_good hi h
/-- The ends of the first k marbles, and the cells after them. -/
def stA (nm : List Int) (r c : Nat) (l : List (Int × Int)) (cs : List Int) : Nat → List (Int × Int × Int) × List (Int × Int)
  | 0 => ([], l)
  | k + 1 => ((stA nm r c l cs k).1 ++ [((flG nm r c r 0 (stA nm r c l cs k).2 (cs.getD k 0).toNat 0 []).e, (flG nm r c r 0 (stA nm r c l cs k).2 (cs.getD k 0).toNat 0 []).row, (flG nm r c r 0 (stA nm r c l cs k).2 (cs.getD k 0).toNat 0 []).col)],
      (flG nm r c r 0 (stA nm r c l cs k).2 (cs.getD k 0).toNat 0 []).cells)
theorem stA_len (nm : List Int) (r c : Nat) (l : List (Int × Int)) (cs : List Int) : ∀ k, (stA nm r c l cs k).1.length = k ∧ (stA nm r c l cs k).2.length = l.length
  | 0 => ⟨rfl, rfl⟩
  | k + 1 => by
    obtain ⟨h1, h2⟩ := stA_len nm r c l cs k
    unfold stA
    exact ⟨by rw [List.length_append, h1]; rfl, by rw [flG_len]; exact h2⟩
theorem stA_good (nm : List Int) {r c : Nat} {l : List (Int × Int)} {cs : List Int} (hl : l.length = r * c) (h : ∀ x ∈ l, good x.1 x.2 = true) (hcs : ∀ k, k < cs.length → 0 ≤ cs.getD k 0 ∧ cs.getD k 0 < c) : ∀ k, k ≤ cs.length → ∀ x ∈ (stA nm r c l cs k).2, good x.1 x.2 = true
  | 0, _ => h
  | k + 1, hk => by
    have ih := stA_good nm hl h hcs k (by omega)
    have hc := hcs k (by omega)
    unfold stA
    exact flG_good nm r c r 0 _ _ _ _ (by rw [(stA_len nm r c l cs k).2]; exact hl) (by omega) (by omega) ih
/-- Rows of ends. -/
def flatF (fs : List (Int × Int × Int)) : List Value := fs.flatMap fun f => [.int .i64 f.1, .int .i64 f.2.1, .int .i64 f.2.2]
theorem flatF_len (fs : List (Int × Int × Int)) : (flatF fs).length = fs.length * 3 := by
  unfold flatF
  induction fs with
  | nil => rfl
  | cons f fs ih => rw [List.flatMap_cons, List.length_append, ih, List.length_cons]; simp; omega
theorem flatF_app (a b : List (Int × Int × Int)) : flatF (a ++ b) = flatF a ++ flatF b := by unfold flatF; rw [List.flatMap_append]
theorem fallInfo : (Try.prog.info? 27).map (fun i => (i.zero, i.size, i.bytes)) = some (some (.agg #[.int .i64 0, .int .i64 0, .int .i64 0]), 3, 24) := by kernel_rfl
theorem allI_at {lo hi : Int} {cs : List Int} (h : allI lo hi cs = true) : ∀ k, k < cs.length → lo ≤ cs.getD k 0 ∧ cs.getD k 0 ≤ hi := fun k hk => by
  unfold allI at h
  have := List.all_eq_true.1 h _ (List.getElem_mem hk)
  unfold inI at this
  rw [List.getD_eq_getElem?_getD, List.getElem?_eq_getElem hk]
  simpa using this
end Go.Proofs.Ytoflhjekldlaiaa
