/- AreJoined, program and model. -/
import Derived.Test.YtdpgbgniejlilaaGroupOf
namespace Go.Proofs.Ytdpgbgniejlilaa
open Go.ChangeShapes Go.WideShapes Go.ChangeAt Go.RowKit Go.Joins Go.Deep
set_option linter.unusedSimpArgs false
set_option linter.unusedVariables false
set_option maxRecDepth 100000
set_option maxHeartbeats 2000000
def okJJ (R C : Int) (l : List (Int × Int)) (i j i2 j2 : Int) : Bool := okJ R C l i j && okJ R C l i2 j2
def joinedB (R C : Int) (l : List (Int × Int)) (i j i2 j2 : Int) : Bool := okJJ R C l i j i2 j2 && decide (nmb C l (atI C i j) = nmb C l (atI C i2 j2))
theorem ret_two {a b c d : Bool} (h1 : a = c) (h2 : b = d) : Ending.returned (.tuple #[.bool a, .bool b]) = .returned (.tuple #[.bool c, .bool d]) := by rw [h1, h2]
theorem grpL_has {c k m : Nat} {l : List (Int × Int)} (hm : m < l.length) : ((nI (grpL (c : Int) l k)).take (nI (grpL (c : Int) l k)).length).contains (m : Int) = decide (nmb (c : Int) l k = nmb (c : Int) l m) := by
  rw [List.take_length, Bool.eq_iff_iff, List.contains_iff_mem, decide_eq_true_eq]
  unfold nI grpL
  rw [List.mem_map]
  constructor
  · rintro ⟨x, hx, e⟩
    rw [List.mem_filter, decide_eq_true_eq] at hx
    have : x = m := by omega
    subst this
    exact hx.2.symm
  · intro h
    exact ⟨m, List.mem_filter.2 ⟨List.mem_range.2 hm, by rw [decide_eq_true_eq]; exact h.symm⟩, rfl⟩
theorem grpL_pos {c k : Nat} {l : List (Int × Int)} (hk : k < l.length) : 0 < (grpL (c : Int) l k).length :=
  List.length_pos_of_mem (List.mem_filter.2 ⟨List.mem_range.2 hk, by rw [decide_eq_true_eq]⟩)
end Go.Proofs.Ytdpgbgniejlilaa
