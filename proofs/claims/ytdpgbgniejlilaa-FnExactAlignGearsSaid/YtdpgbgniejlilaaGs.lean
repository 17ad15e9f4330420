/- The model's groups: what its search keeps. -/
import Derived.Test.YtdpgbgniejlilaaTake
namespace Go.Proofs.Ytdpgbgniejlilaa
open Go.ChangeShapes Go.WideShapes Go.ChangeAt Go.RowKit Go.Joins Go.Deep
set_option linter.unusedSimpArgs false
set_option linter.unusedVariables false
set_option maxRecDepth 100000
set_option maxHeartbeats 1000000
def numV (n : Nat) (G : List (List Nat)) : List Int := (List.range n).map fun j => num G 0 j
theorem numV_len (n : Nat) (G : List (List Nat)) : (numV n G).length = n := by simp [numV]
theorem numV_at {n : Nat} {G : List (List Nat)} {j : Nat} (h : j < n) : (ints (numV n G))[j]? = some (.int .i64 (num G 0 j)) := by
  unfold numV ints
  rw [List.map_map, List.getElem?_map, List.getElem?_range h]
  rfl
theorem numV_nil (n : Nat) : ints (numV n []) = List.replicate n (.int .i64 (-1)) := by
  unfold numV ints
  rw [List.map_map, List.eq_replicate_iff]
  exact ⟨by simp, fun b hb => by obtain ⟨j, _, rfl⟩ := List.mem_map.1 hb; rfl⟩
theorem numV_set {n : Nat} {G : List (List Nat)} {q : List Nat} {y : Nat} (hv : y ∉ G.flatten) (hq : y ∉ q) : (ints (numV n (G ++ [q]))).set y (.int .i64 (G.length : Int)) = ints (numV n (G ++ [q ++ [y]])) := by
  apply List.ext_getElem?
  intro j
  rw [List.getElem?_set]
  by_cases hj : j < n
  · rw [numV_at hj, numV_at hj]
    have hl : (ints (numV n (G ++ [q]))).length = n := by rw [ints_length, numV_len]
    rw [num_snoc, num_snoc]
    by_cases e : y = j
    · subst e
      simp [hl, hj, hv]
    · have e' : ¬ j = y := fun h => e h.symm
      simp only [e, if_false, List.mem_append, List.mem_singleton, e', or_false]
  · have n1 : (ints (numV n (G ++ [q ++ [y]])))[j]? = none := by rw [List.getElem?_eq_none]; rw [ints_length, numV_len]; omega
    have n2 : (ints (numV n (G ++ [q])))[j]? = none := by rw [List.getElem?_eq_none]; rw [ints_length, numV_len]; omega
    rw [n1, n2]
    split
    · rw [if_neg (by rw [ints_length, numV_len]; omega)]
    · rfl
theorem numV_empty {n : Nat} {G : List (List Nat)} : numV n (G ++ [[]]) = numV n G := by
  unfold numV
  refine List.map_congr_left fun j _ => ?_
  rw [num_snoc]
  by_cases h : j ∈ G.flatten
  · rw [if_pos h]
  · rw [if_neg h, if_neg (by simp), num_lone G 0 ((num_neg G 0).2 h)]
/-- 'gear and not yet numbered' is 'still open'. -/
theorem opn_num {J : Nat → Bool} {G : List (List Nat)} {q : List Nat} {y : Nat} : opn J G.flatten q y = (J y && decide (num (G ++ [q]) 0 y < 0)) := by
  rw [Bool.eq_iff_iff, opn_iff, Bool.and_eq_true, decide_eq_true_eq, num_neg, flatten_snoc, List.mem_append]
  constructor
  · rintro ⟨a, b, c⟩; exact ⟨a, fun h => h.elim b c⟩
  · rintro ⟨a, b⟩; exact ⟨a, fun h => b (.inl h), fun h => b (.inr h)⟩
theorem gat_len (J : Nat → Bool) (near : Nat → List Nat) (n : Nat) : ∀ k, (gat J near n k).length ≤ k
  | 0 => Nat.le_refl _
  | k + 1 => by
    have := gat_len J near n k
    show (gst J near n (gat J near n k) k).length ≤ k + 1
    unfold gst
    split
    · rw [List.length_append, List.length_singleton]; omega
    · omega
def GsS (w : World) (bx : List Value) (n base : Nat) (G : List (List Nat)) (v : Value) (q : List Nat) (wr : World) : Prop :=
  Whole wr w.heap.size 30 bx ∧ Whole wr (w.heap.size + 1) 3 (ints (numV n (G ++ [q]))) ∧ IRow wr base v (nI q) ∧ Below w.heap.size w wr ∧ w.heap.size + 1 < base
variable {w wr w2 : World} {bx : List Value} {n base : Nat} {G : List (List Nat)} {v v2 : Value} {q nl : List Nat} {A : Option Addr}
theorem GsS.below (h : GsS w bx n base G v q wr) (hb : Below wr.heap.size wr w2) : GsS w bx n base G v q w2 :=
  ⟨h.1.below hb h.1.lt, h.2.1.below hb h.2.1.lt, h.2.2.1.keep hb, h.2.2.2.1.trans (hb.mono h.2.2.2.1.size), h.2.2.2.2⟩
theorem irow_ne {l : List Int} (h : IRow wr base v l) {g : Nat} (hg : g < base) : v.ownBlock ≠ some g := by
  rcases h.2 with ⟨rfl, _⟩ | ⟨k, cap, cur, rfl, hk, _⟩
  · simp [Value.ownBlock]
  · simp [Value.ownBlock]; omega
theorem irow_setCell {l : List Int} (h : IRow wr base v l) {g j : Nat} (hg : g < base) (u : Value) : IRow (wr.setCell ⟨g, j, none⟩ u) base v l := by
  refine ⟨h.1, ?_⟩
  rcases h.2 with h2 | ⟨k, cap, cur, e, hk, hh, h3⟩
  · exact .inl h2
  · exact .inr ⟨k, cap, cur, e, hk, (Below.heap_setCell wr ⟨g, j, none⟩ u k (by show k ≠ g; omega)).trans hh, h3⟩
theorem GsS.push {y : Nat} (h : GsS w bx n base G v q wr) (hv : y ∉ G.flatten) (hq : y ∉ q) (hrow : IRow w2 base v2 (nI q ++ [(y : Int)])) (hb : Below base (wr.setCell ⟨w.heap.size + 1, y, none⟩ (.int .i64 (G.length : Int))) w2) : GsS w bx n base G v2 (q ++ [y]) w2 := by
  obtain ⟨h1, h2, h3, h4, h5⟩ := h
  have e := h2.set y (.int .i64 (G.length : Int))
  rw [numV_set hv hq] at e
  have x1 : Whole (wr.setCell ⟨w.heap.size + 1, y, none⟩ (.int .i64 (G.length : Int))) w.heap.size 30 bx := (Below.heap_setCell wr ⟨w.heap.size + 1, y, none⟩ _ w.heap.size (by show w.heap.size ≠ w.heap.size + 1; omega)).trans h1
  refine ⟨x1.below hb (by omega), e.below hb h5, by rw [nI_append]; exact hrow, ?_, h5⟩
  exact (h4.setCell (p := ⟨w.heap.size + 1, y, none⟩) (by show w.heap.size ≤ w.heap.size + 1; omega) _).trans (hb.mono (by omega))
theorem NrS.setCell {g j : Nat} {u : Value} (h : NrS base v A nl wr) (hg : g < base) : NrS base v A nl (wr.setCell ⟨g, j, none⟩ u) := by
  refine ⟨fun hx => ?_, h.2⟩
  obtain ⟨k, rest, e, hw⟩ := h.1 hx
  refine ⟨k, rest, e, (Below.heap_setCell wr ⟨g, j, none⟩ u k ?_).trans hw⟩
  have := (h.2 (by simpa [ints, nI] using hx) _ e).1
  show k ≠ g
  simp at this
  omega
theorem GsS.shape (h : GsS w bx n base G v q wr) (hp : 0 < q.length) : ∃ g cap rest, v = .slice (some ⟨g, 0, none⟩) q.length cap ∧ Whole wr g 3 (ints (nI q) ++ rest) := by
  obtain ⟨A, cap, rfl, ho, _⟩ := h.2.2.1.shape
  obtain ⟨g, rest, rfl, hw⟩ := ho (by rw [ints_length, nI_length]; exact hp)
  exact ⟨g, cap, rest, by rw [nI_length], hw⟩
theorem irow_lit {x : Int} {h : Nat} (hh : wr.heap[h]? = some (.cells #[.int .i64 x] 3 (0, 0))) : IRow wr h (.slice (some ⟨h, 0, none⟩) 1 1) [x] :=
  ⟨rfl, .inr ⟨h, 1, #[.int .i64 x], rfl, Nat.le_refl _, hh, Nat.le_refl _, by unfold maxLen; omega, rfl, rfl⟩⟩
/-- .. where the literal's block is spelled otherwise. -/
theorem wpList_push_at {w : World} {ops : Array Oper} {rest : List Oper} {o : Oper} {a : Act} {Q : Exit → Act → World → Prop} {base g : Nat} {v : Value} {l : List Int} {x0 : Int} (hrow : IRow w base v l) (hn : l.length ≤ 1048576) (hbase : base ≤ w.heap.size) (hg : g = w.heap.size)
    (hgd : o.guard = none) (s x : Operand) (ho : o.op = .call { callee := .builtin .append, args := #[s, x], argTypes := #[55, 55] })
    (hs : a.eval s = v) (hx : a.eval x = .slice (some ⟨g, 0, none⟩) 1 1)
    (h : ∀ v' w', IRow w' base v' (l ++ [x0]) → (w.alloc (.cells #[.int .i64 x0] 3)).grownBy w' v.ownBlock → Below base w w' → (v'.ownBlock = v.ownBlock ∨ v'.ownBlock = some (w.heap.size + 1)) → wpList Try.prog ops Q rest (a.put o.dst v') w') :
    wpList Try.prog ops Q (o :: rest) a (w.alloc (.cells #[.int .i64 x0] 3)) := by
  subst hg
  exact wpList_push hrow hn hbase hgd s x ho hs hx h
end Go.Proofs.Ytdpgbgniejlilaa
