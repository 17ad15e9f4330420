/- What the program's search keeps: the board's box, the cells reached, the open cells; what each step does to them. -/
import Derived.Test.YtdpgbgniejlilaaSpread
namespace Go.Proofs.Ytdpgbgniejlilaa
open Go.ChangeShapes Go.WideShapes Go.ChangeAt Go.RowKit Go.Joins Go.Deep
set_option linter.unusedSimpArgs false
set_option linter.unusedVariables false
set_option maxRecDepth 100000
set_option maxHeartbeats 1000000
def SpS (w : World) (bx : List Value) (B nB : Nat) (o : Nat → Bool) (v : Value) (q : List Nat) (wr : World) : Prop :=
  Whole wr w.heap.size 30 bx ∧ IRow wr (w.heap.size + 1) v (nI q) ∧ Keys wr B nB o ∧ w.grownBy wr (some B)
/-- A list of numbers that lies apart from a row. -/
def NrS (base : Nat) (v : Value) (A : Option Addr) (nl : List Nat) (wr : World) : Prop :=
  Own wr A 3 (ints (nI nl)) ∧ (0 < nl.length → ∀ a, A = some a → base ≤ a.block ∧ v.ownBlock ≠ some a.block)
theorem grown_below {w wr w2 : World} {row : Option Nat} {B : Nat} (h : w.grownBy wr row) (hb : Below B wr w2) (hB : w.heap.size ≤ B) : w.grownBy w2 row :=
  ⟨h.os ▸ hb.os, hb.tape.trans h.tape, hb.output.trans h.output, Nat.le_trans h.size hb.size, fun i hi hne => (hb.block i (Nat.lt_of_lt_of_le hi hB)).trans (h.block i hi hne)⟩
variable {w wr w2 : World} {bx : List Value} {B nB : Nat} {o o' : Nat → Bool} {v v2 : Value} {q nl : List Nat} {A : Option Addr}
theorem SpS.below (h : SpS w bx B nB o v q wr) (hb : Below wr.heap.size wr w2) : SpS w bx B nB o v q w2 :=
  ⟨h.1.below hb h.1.lt, h.2.1.keep hb, h.2.2.1.below hb, grown_below h.2.2.2 hb h.2.2.2.size⟩
theorem SpS.del (h : SpS w bx B nB o v q wr) (hk : Keys w2 B nB o') (hg : wr.grownBy w2 (some B)) : SpS w bx B nB o' v q w2 := by
  refine ⟨h.1.grown hg (fun e => h.2.2.1.whole h.1 (by cases e; rfl)), ?_, hk, h.2.2.2.trans hg⟩
  refine h.2.1.grown hg (.inr fun e => h.2.2.1.row h.2.1 e.symm)
theorem SpS.congr (h : SpS w bx B nB o v q wr) (he : ∀ i, i ≤ 1048576 → o i = o' i) : SpS w bx B nB o' v q wr := ⟨h.1, h.2.1, h.2.2.1.congr he, h.2.2.2⟩
theorem SpS.push {x : Int} {y : Nat} (h : SpS w bx B nB o v q wr) (hrow : IRow w2 (w.heap.size + 1) v2 (nI q ++ [x])) (hx : x = (y : Int)) (hg : (wr.alloc (.cells #[.int .i64 x] 3)).grownBy w2 v.ownBlock) (hb : Below (w.heap.size + 1) wr w2) : SpS w bx B nB o v2 (q ++ [y]) w2 := by
  refine ⟨h.1.below hb (Nat.lt_succ_self _), ?_, ?_, grown_below h.2.2.2 hb (Nat.le_succ _)⟩
  · rw [nI_append]; subst hx; exact hrow
  · exact (h.2.2.1.alloc _).kept hg (h.2.2.1.row h.2.1)
theorem NrS.below {base : Nat} (h : NrS base v A nl wr) (hb : Below wr.heap.size wr w2) : NrS base v A nl w2 := ⟨h.1.keep hb, h.2⟩
theorem NrS.del {base : Nat} (h : NrS base v A nl wr) (hk : Keys wr B nB o) (hg : wr.grownBy w2 (some B)) : NrS base v A nl w2 := by
  refine ⟨fun hx => ?_, h.2⟩
  obtain ⟨g, rest, e, hw⟩ := h.1 hx
  exact ⟨g, rest, e, hw.grown hg (fun e' => hk.whole hw (by cases e'; rfl))⟩
theorem NrS.push {base : Nat} {x : Int} (h : NrS base v A nl wr) (hg : (wr.alloc (.cells #[.int .i64 x] 3)).grownBy w2 v.ownBlock) (hl : v2.ownBlock = v.ownBlock ∨ v2.ownBlock = some (wr.heap.size + 1)) : NrS base v2 A nl w2 := by
  refine ⟨fun hx => ?_, fun hx a ha => ?_⟩
  · obtain ⟨g, rest, e, hw⟩ := h.1 hx
    have hx' : 0 < nl.length := by simpa [ints, nI] using hx
    exact ⟨g, rest, e, (hw.alloc _).grown hg (fun e' => (h.2 hx' _ e).2 e'.symm)⟩
  · obtain ⟨h1, h2⟩ := h.2 hx a ha
    refine ⟨h1, ?_⟩
    obtain ⟨g, rest, e, hw⟩ := h.1 (by simpa [ints, nI] using hx)
    have hlt := hw.lt
    rw [e] at ha
    cases ha
    rcases hl with e1 | e1
    · rw [e1]; exact h2
    · rw [e1]
      intro e2
      cases e2
      simp at hlt
      omega
theorem SpS.shape (h : SpS w bx B nB o v q wr) (hp : 0 < q.length) : ∃ g cap rest, v = .slice (some ⟨g, 0, none⟩) q.length cap ∧ Whole wr g 3 (ints (nI q) ++ rest) := by
  obtain ⟨A, cap, rfl, ho, _⟩ := h.2.1.shape
  obtain ⟨g, rest, rfl, hw⟩ := ho (by rw [ints_length, nI_length]; exact hp)
  exact ⟨g, cap, rest, by rw [nI_length], hw⟩
theorem NrS.shape {base : Nat} (h : NrS base v A nl wr) (hp : 0 < nl.length) : ∃ g rest, A = some ⟨g, 0, none⟩ ∧ Whole wr g 3 (ints (nI nl) ++ rest) := by
  obtain ⟨g, rest, e, hw⟩ := h.1 (by rw [ints_length, nI_length]; exact hp)
  exact ⟨g, rest, e, hw⟩
theorem row_num {g : Nat} {q : List Nat} {rest : List Value} (h : Whole wr g 3 (ints (nI q) ++ rest)) {k : Nat} (hk : k < q.length) : wr.cell? ⟨g, k, none⟩ = some (.int .i64 (q[k] : Int)) := by
  rw [h.cell k, List.getElem?_append_left (by rw [ints_length, nI_length]; exact hk), nI_at q k hk]
end Go.Proofs.Ytdpgbgniejlilaa
