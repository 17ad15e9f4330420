/- Lists of lists of numbers that grow. -/
import Derived.Test.YtdpgbgniejlilaaGroupOf
namespace Go.Proofs.Ytdpgbgniejlilaa
open Go.ChangeShapes Go.WideShapes Go.ChangeAt Go.RowKit Go.Joins Go.Deep
set_option linter.unusedSimpArgs false
set_option linter.unusedVariables false
set_option maxRecDepth 100000
set_option maxHeartbeats 1000000
theorem listInfo : (Try.prog.info? 55).map (fun i => (i.zero, i.size, i.bytes)) = some (some (.slice none 0 0), 1, 24) := by kernel_rfl
/-- The value v is a list of lists of numbers, all of the call's own, whose memory lies from block base on. -/
def LRow (w : World) (base : Nat) (v : Value) (L : List (List Nat)) : Prop :=
  ∃ hs : List Value, hs.length = L.length ∧ w.ownsRow base 55 1 v L.length hs ∧
    ∀ k (h : k < L.length), ∃ A cap, hs[k]? = some (.slice A L[k].length cap) ∧ Own w A 3 (ints (nI L[k])) ∧ ∀ a, A = some a → base ≤ a.block
theorem LRow.nil {w : World} {base : Nat} : LRow w base (.slice none 0 0) [] := ⟨[], rfl, World.ownsRow_nil _ _ _ _, fun k h => absurd h (Nat.not_lt_zero k)⟩
theorem LRow.keep {w w' : World} {base : Nat} {v : Value} {L : List (List Nat)} (h : LRow w base v L) (hb : Below w.heap.size w w') : LRow w' base v L := by
  obtain ⟨hs, h1, h2, h3⟩ := h
  refine ⟨hs, h1, row_keep h2 hb, fun k hk => ?_⟩
  obtain ⟨A, cap, e, ho, hg⟩ := h3 k hk
  exact ⟨A, cap, e, ho.keep hb, hg⟩
theorem Own.keys {w w' : World} {A : Option Addr} {t : TypeId} {xs : List Value} {B nB : Nat} {o : Nat → Bool} (h : Own w A t xs) (hk : Keys w B nB o) (hg : w.grownBy w' (some B)) : Own w' A t xs := fun hx => by
  obtain ⟨g, rest, e, hw⟩ := h hx
  exact ⟨g, rest, e, hw.grown hg (fun e' => hk.whole hw (by cases e'; rfl))⟩
theorem LRow.del {w w' : World} {base : Nat} {v : Value} {L : List (List Nat)} {B nB : Nat} {o : Nat → Bool} (h : LRow w base v L) (hk : Keys w B nB o) (hg : w.grownBy w' (some B)) : LRow w' base v L := by
  obtain ⟨hs, h1, h2, h3⟩ := h
  refine ⟨hs, h1, World.ownsRow.kept h2 hg (.inr fun e => hk.row h2 e.symm), fun k hk' => ?_⟩
  obtain ⟨A, cap, e, ho, hb⟩ := h3 k hk'
  exact ⟨A, cap, e, ho.keys hk hg, hb⟩
theorem one_oneL {A : Option Addr} {n cap : Nat} : ∀ u ∈ [Value.slice A n cap], u.oneCell' = true := by
  intro u hu
  simp only [List.mem_cons, List.not_mem_nil, or_false] at hu
  rw [hu]; rfl
/-- 'L = append(L, x)': x a list that lies in memory; the literal slice of x is the heap's last block. -/
theorem wpList_pushL {w : World} {ops : Array Oper} {rest : List Oper} {o : Oper} {a : Act} {Q : Exit → Act → World → Prop} {base : Nat} {v : Value} {L : List (List Nat)} {x : List Nat} {A0 : Option Addr} {cap0 : Nat}
    (hrow : LRow w base v L) (hn : L.length ≤ 1048576) (hbase : base ≤ w.heap.size) (hx0 : Own w A0 3 (ints (nI x))) (hx1 : ∀ a, A0 = some a → base ≤ a.block)
    (hgd : o.guard = none) (s y : Operand) (ho : o.op = .call { callee := .builtin .append, args := #[s, y], argTypes := #[60, 60] })
    (hs : a.eval s = v) (hx : a.eval y = .slice (some ⟨w.heap.size, 0, none⟩) 1 1)
    (h : ∀ v' w', LRow w' base v' (L ++ [x]) → (w.alloc (.cells #[.slice A0 x.length cap0] 55)).grownBy w' v.ownBlock → Below base w w' → v.ownBlock = none ∨ (∃ k, v.ownBlock = some k ∧ ∃ ys, w.ownsRow base 55 1 v L.length ys) → wpList Try.prog ops Q rest (a.put o.dst v') w') :
    wpList Try.prog ops Q (o :: rest) a (w.alloc (.cells #[.slice A0 x.length cap0] 55)) := by
  obtain ⟨i0, hi, hz0, hz1, hz2⟩ := info_parts listInfo
  obtain ⟨hs', h1, h2, h3⟩ := hrow
  refine wpList_append_own_at _ hgd s y 60 ho base 55 i0 _ 1 24 Try.underlying60 hi hz0 hz1 hz2 rfl (by omega) v L.length hs' hs (World.ownsRow.alloc h2 _) ⟨w.heap.size, 0, none⟩ 1 1 [.slice A0 x.length cap0] hx rfl one_cellI one_oneL (by unfold maxLen; omega) (by omega) (by simp; omega) ?_
  intro v' w' h4 h5 _ _
  have hb : Below base w w' := row_below (World.ownsRow.alloc h2 _) ((Below.refl base w).alloc hbase _) (by simp; omega) h5
  have hkeep : ∀ {A : Option Addr} {xs : List Value}, Own w A 3 xs → Own w' A 3 xs := fun {A xs} ho' hx' => by
    obtain ⟨g, rest', e, hw⟩ := ho' hx'
    exact ⟨g, rest', e, (hw.alloc _).grown h5 (row_apart h2 hw (by decide))⟩
  refine h v' w' ⟨hs' ++ [.slice A0 x.length cap0], by simp [h1], ?_, fun k hk => ?_⟩ h5 hb ?_
  · rw [List.length_append, List.length_singleton]
    exact h4
  · by_cases hk' : k < L.length
    · obtain ⟨A, cap, e, ho', hg⟩ := h3 k hk'
      refine ⟨A, cap, ?_, ?_, hg⟩
      · rw [List.getElem?_append_left (by omega), List.getElem_append_left hk']; exact e
      · rw [List.getElem_append_left hk']; exact hkeep ho'
    · have e : k = L.length := by rw [List.length_append, List.length_singleton] at hk; omega
      subst e
      refine ⟨A0, cap0, ?_, ?_, hx1⟩
      · rw [List.getElem?_append_right (by omega), h1]; simp
      · simpa using hkeep hx0
  · cases hv : v.ownBlock with
    | none => exact .inl rfl
    | some k => exact .inr ⟨k, rfl, hs', h2⟩
theorem LRow.mono {w : World} {base base' : Nat} {v : Value} {L : List (List Nat)} (h : LRow w base v L) (hb : base' ≤ base) : LRow w base' v L := by
  obtain ⟨hs, h1, h2, h3⟩ := h
  refine ⟨hs, h1, ⟨h2.1, ?_⟩, fun k hk => ?_⟩
  · rcases h2.2 with h4 | ⟨g, cap, cur, e, h5, h6⟩
    · exact .inl h4
    · exact .inr ⟨g, cap, cur, e, Nat.le_trans hb h5, h6⟩
  · obtain ⟨A, cap, e, ho, hg⟩ := h3 k hk
    exact ⟨A, cap, e, ho, fun a ha => Nat.le_trans hb (hg a ha)⟩
end Go.Proofs.Ytdpgbgniejlilaa
