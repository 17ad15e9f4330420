/- Arguments that are lists of entries: opened. -/
import Derived.Deep.Slices
import Derived.ChangeSame
import Derived.Test.YtlambflmabecfaaDoorOpen
import Derived.Test.YtlambflmabecfaaDoorLog
namespace Go.Proofs.YtlambflmabecfaaDoor
open Go.ChangeShapes Go.WideShapes Go.ChangeAt Go.RowKit Go.Joins Go.Deep
set_option linter.unusedSimpArgs false
set_option linter.unusedVariables false
set_option maxRecDepth 100000
set_option maxHeartbeats 1000000
section
variable {H : Type} {enc : TypeId × Value → H} {P : Program} {w : World} {base : Nat} {spare : Nat → Bool} {held : Bool}
/-- A struct of an integer and of a struct of three integers, from its four cells. -/
theorem four_ints {e f : TypeId} {f0 f1 g0 g1 g2 : Field} {fuel : Nat} {cs : List Value} {x : DataW H × List MemPlace} (he : P.underlying e = some (.struct #[f0, f1])) (hf : f1.type = f) (hu : P.underlying f = some (.struct #[g0, g1, g2]))
    (ce : P.cellsOf e = 4) (cf : P.cellsOf f = 3) (o0 : f0.offset = 0) (o1 : f1.offset = 1) (p0 : g0.offset = 0) (p1 : g1.offset = 1) (p2 : g2.offset = 2)
    (c0 : P.cellsOf f0.type = 1) (d0 : P.cellsOf g0.type = 1) (d1 : P.cellsOf g1.type = 1) (d2 : P.cellsOf g2.type = 1)
    (k0 : P.underlying f0.type = some (.int .i64)) (l0 : P.underlying g0.type = some (.int .i64)) (l1 : P.underlying g1.type = some (.int .i64)) (l2 : P.underlying g2.type = some (.int .i64))
    (h : DataW.trod enc P w base spare held fuel e cs = some x) : ∃ a b c d : Int, cs = [.int .i64 a, .int .i64 b, .int .i64 c, .int .i64 d] := by
  subst hf
  obtain ⟨y0, y1, n, rfl, hl, h0, h1⟩ := trod_struct2 he h
  rw [ce] at hl
  rw [o0, c0] at h0
  rw [o1, cf] at h1
  match cs, hl with
  | [v0, v1, v2, v3], _ =>
    obtain ⟨xs, m, _, rfl, hl', hlen, hq⟩ := DataW.trod_struct hu h1
    match xs, hlen with
    | [z0, z1, z2], _ =>
      have q0 := hq 0 g0 rfl
      have q1 := hq 1 g1 rfl
      have q2 := hq 2 g2 rfl
      simp [p0, p1, p2, d0, d1, d2] at q0 q1 q2 h0
      obtain ⟨a, e0, _, _⟩ := DataW.trod_int k0 h0
      obtain ⟨b, e1, _, _⟩ := DataW.trod_int l0 q0
      obtain ⟨c, e2, _, _⟩ := DataW.trod_int l1 q1
      obtain ⟨d, e3, _, _⟩ := DataW.trod_int l2 q2
      simp at e0 e1 e2 e3
      subst e0 e1 e2 e3
      exact ⟨a, b, c, d, rfl⟩
end
set_option maxRecDepth 100000 in
theorem open_logs {H : Type} {enc : TypeId × Value → H} {W : World} {r : Reach} {b0 : Nat} {v : Value} {d : DataW H} {p : List MemPlace}
    (hv : Value.okWide Tryd.prog W r b0 22 v) (h : DataW.Trod enc Tryd.prog W 0 (fun _ => true) true 22 v d p) :
    ∃ (A : Option Addr) (cap : Nat) (l : List (Int × Int × Int × Int)), v = .slice A l.length cap ∧ l.length ≤ maxLen ∧ Rd W W.heap.size A (flatL l) := by
  obtain ⟨A, n, cap, rfl⟩ := okWide_slice Tryd.underlying22 hv
  obtain ⟨fuel, hf⟩ := h
  rcases open_slice Tryd.underlying22 hf with ⟨hcs, hx⟩ | ⟨a, len, cap', m, n', D, Pl, hcs, _, hl, hm, hmm, hx, hi⟩
  · obtain h1 := List.head_eq_of_cons_eq hcs
    rw [h1]
    exact ⟨none, 0, [], rfl, by simp, fun h => absurd h (by simp [flatL])⟩
  · obtain h1 := List.head_eq_of_cons_eq hcs
    rw [h1]
    simp only [if_true] at hmm
    subst hmm
    have each : ∀ i, i < m → ∃ q : Int × Int × Int × Int, W.cell? (a.add (i * 4)) = some (.int .i64 q.1) ∧ W.cell? (a.add (i * 4 + 1)) = some (.int .i64 q.2.1) ∧ W.cell? (a.add (i * 4 + 2)) = some (.int .i64 q.2.2.1) ∧ W.cell? (a.add (i * 4 + 3)) = some (.int .i64 q.2.2.2) := by
      intro i him
      obtain ⟨cs', h1, h2⟩ := hi i him
      have ce : Tryd.prog.cellsOf 43 = 4 := by kernel_rfl
      rw [ce] at h1
      obtain ⟨_, hlen, hcell⟩ := World.cells?_some h1
      obtain ⟨x, y, z, u, rfl⟩ := four_ints Tryd.underlying43 rfl Tryd.underlying41 ce (by kernel_rfl) rfl rfl rfl rfl rfl (by kernel_rfl) (by kernel_rfl) (by kernel_rfl) (by kernel_rfl) Tryd.underlying3 Tryd.underlying3 Tryd.underlying3 Tryd.underlying3 h2
      have e0 := hcell 0 (by omega)
      have e1 := hcell 1 (by omega)
      have e2 := hcell 2 (by omega)
      have e3 := hcell 3 (by omega)
      rw [add_add] at e0 e1 e2 e3
      exact ⟨(x, y, z, u), by simpa using e0, by simpa using e1, by simpa using e2, by simpa using e3⟩
    obtain ⟨q, hq⟩ := choose_lt each
    obtain ⟨l, hlen, hget⟩ := listL_of len q
    refine ⟨some a, m, l, by rw [hlen], by omega, fun hpos => ?_⟩
    rw [flatL_len, hlen] at hpos
    have h0 := (hq 0 (by omega)).1
    obtain ⟨b, off, spot⟩ := a
    have hspot : spot = none := by simpa [Addr.add] using World.cell?_spot h0
    subst hspot
    refine ⟨b, off, rfl, by simpa [Addr.add] using lt_of_cell h0, fun j u hu => ?_⟩
    obtain ⟨k, hk, h2⟩ := flatL_get l j u hu
    have hg := hget k hk
    obtain ⟨q0, q1, q2, q3⟩ := hq k (by omega)
    rw [add_plain] at q0 q1 q2 q3
    rw [hg] at h2
    rcases h2 with ⟨rfl, rfl⟩ | ⟨rfl, rfl⟩ | ⟨rfl, rfl⟩ | ⟨rfl, rfl⟩
    · exact q0
    · exact q1
    · exact q2
    · exact q3
end Go.Proofs.YtlambflmabecfaaDoor
