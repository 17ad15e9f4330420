/- ARGUMENTS OPENED: a list of cells that came in. -/
import Derived.Deep.SlicePairs
import Derived.Test.YtlambflmabecfaaList4
namespace Go.Proofs.Ytlambflmabecfaa
open Go.ChangeShapes Go.WideShapes Go.ChangeAt Go.RowKit Go.Joins Go.Deep
set_option linter.unusedSimpArgs false
set_option linter.unusedVariables false
set_option maxRecDepth 100000
theorem list_of (n : Nat) (f : Nat → Int × Int) : ∃ l : List (Int × Int), l.length = n ∧ ∀ i (h : i < l.length), l[i] = f i :=
  ⟨(List.range n).map f, by simp, fun i h => by simp⟩
theorem flat_get (l : List (Int × Int)) (j : Nat) (u : Value) (h : (flat l)[j]? = some u) : ∃ k, ∃ hk : k < l.length, (j = k * 2 ∧ u = .int .i64 l[k].1) ∨ (j = k * 2 + 1 ∧ u = .int .i64 l[k].2) := by
  have hj : j < 2 * l.length := by rw [← flat_length]; exact (List.getElem?_eq_some_iff.1 h).1
  have hk : j / 2 < l.length := by omega
  have h2 := flat_at l (j / 2) hk
  refine ⟨j / 2, hk, ?_⟩
  rcases (show j = j / 2 * 2 ∨ j = j / 2 * 2 + 1 by omega) with e | e
  · left
    refine ⟨e, ?_⟩
    have := h2.1
    rw [← e, h] at this
    exact Option.some.inj this
  · right
    refine ⟨e, ?_⟩
    have := h2.2
    rw [← e, h] at this
    exact Option.some.inj this
set_option maxRecDepth 100000 in
theorem open_cells_f {H : Type} {enc : TypeId × Value → H} {W : World} {v : Value} {x : DataW H × List MemPlace} {fuel : Nat}
    (hf : DataW.trod enc Try.prog W 0 (fun _ => true) true fuel 29 [v] = some x) :
    ∃ (A : Option Addr) (cap : Nat) (l : List (Int × Int)), v = .slice A l.length cap ∧ l.length ≤ maxLen ∧ Rd W W.heap.size A (flat l) := by
  rcases open_slice_pairs (f0 := _) (f1 := _) Try.underlying29 Try.underlying106 (by kernel_rfl) rfl rfl (by kernel_rfl) (by kernel_rfl) hf with ⟨hcs, hx⟩ | ⟨a, len, cap', m, n', V0, V1, D0, D1, P0, P1, hcs, _, hl, hm, hmm, hx, hi⟩
  · obtain rfl := List.head_eq_of_cons_eq hcs
    exact ⟨none, 0, [], rfl, by simp, fun h => absurd h (by simp [flat])⟩
  · obtain rfl := List.head_eq_of_cons_eq hcs
    simp only [if_true] at hmm
    subst hmm
    have hV : ∀ i, i < m → ∃ x y : Int, V0 i = .int .i64 x ∧ V1 i = .int .i64 y := fun i hin => by
      obtain ⟨_, _, h3, h4⟩ := hi i (by omega)
      obtain ⟨x, e0, _, _⟩ := DataW.trod_int Try.underlying3 h3
      obtain ⟨y, e1, _, _⟩ := DataW.trod_int Try.underlying3 h4
      exact ⟨x, y, List.head_eq_of_cons_eq e0, List.head_eq_of_cons_eq e1⟩
    obtain ⟨l, hlen, hget⟩ := list_of len (fun i => (match V0 i with | .int _ q => q | _ => 0, match V1 i with | .int _ q => q | _ => 0))
    subst hlen
    refine ⟨some a, _, l, rfl, by omega, fun hpos => ?_⟩
    rw [flat_length] at hpos
    obtain ⟨h1, _, _, _⟩ := hi 0 (by omega)
    obtain ⟨b, off, spot⟩ := a
    have hspot : spot = none := by simpa [Addr.add] using World.cell?_spot h1
    subst hspot
    refine ⟨b, off, rfl, by simpa [Addr.add] using lt_of_cell h1, fun j u hu => ?_⟩
    obtain ⟨k, hk, h2⟩ := flat_get l j u hu
    obtain ⟨x, y, ex, ey⟩ := hV k (by omega)
    have hg := hget k hk
    rw [ex, ey] at hg
    obtain ⟨h3, h4, _, _⟩ := hi k (by omega)
    rw [add_plain] at h3 h4
    rcases h2 with ⟨rfl, rfl⟩ | ⟨rfl, rfl⟩
    · rw [h3, ex, hg]
    · rw [h4, ey, hg]
theorem open_cells {H : Type} {enc : TypeId × Value → H} {W : World} {r : Reach} {b0 : Nat} {v : Value} {d : DataW H} {p : List MemPlace}
    (hv : Value.okWide Try.prog W r b0 29 v) (h : DataW.Trod enc Try.prog W 0 (fun _ => true) true 29 v d p) :
    ∃ (A : Option Addr) (cap : Nat) (l : List (Int × Int)), v = .slice A l.length cap ∧ l.length ≤ maxLen ∧ Rd W W.heap.size A (flat l) := by
  obtain ⟨A, n, cap, rfl⟩ := okWide_slice Try.underlying29 hv
  obtain ⟨fuel, hf⟩ := h
  exact open_cells_f (v := .slice A n cap) hf
theorem open_board {H : Type} {enc : TypeId × Value → H} {W : World} {r : Reach} {b0 : Nat} {v : Value} {d : DataW H} {p : List MemPlace}
    (hv : Value.okWide Try.prog W r b0 31 v) (h : DataW.Trod enc Try.prog W 0 (fun _ => true) true 31 v d p) :
    ∃ (R C : Int) (A : Option Addr) (cap : Nat) (l : List (Int × Int)), v = .agg #[.int .i64 R, .int .i64 C, .slice A l.length cap] ∧ l.length ≤ maxLen ∧ Rd W W.heap.size A (flat l) ∧ (Lit.int .i64 R).wf = true ∧ (Lit.int .i64 C).wf = true := by
  obtain ⟨v0, v1, v2, y0, y1, y2, n, rfl, _, _, h0, h1, h2⟩ := Go.Joins.open_agg3 (f0 := _) (f1 := _) (f2 := _) Try.underlying31 (by kernel_rfl) (by kernel_rfl) hv h
  obtain ⟨x, e0, _, wx⟩ := DataW.trod_int Try.underlying3 h0
  obtain ⟨y, e1, _, wy⟩ := DataW.trod_int Try.underlying3 h1
  obtain rfl := List.head_eq_of_cons_eq e0
  obtain rfl := List.head_eq_of_cons_eq e1
  obtain ⟨A, cap, l, rfl, hl, hr⟩ := open_cells_f h2
  exact ⟨x, y, A, cap, l, rfl, hl, hr, wx, wy⟩
end Go.Proofs.Ytlambflmabecfaa
