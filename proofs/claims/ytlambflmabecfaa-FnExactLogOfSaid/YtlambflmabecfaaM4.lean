/- Contracts of the program and of the model, walked, part 4 of 8. No condition but what each says. -/
import Derived.Test.YtlambflmabecfaaM3
import Derived.Laws.CopyOwn
import Derived.Deep.RegionHeld3
import Derived.Deep.DeepCutAuto
import Derived.Test.YtlambflmabecfaaM1
import Derived.Test.YtlambflmabecfaaM2
import Derived.Deep.RegionLaw
namespace Go.Proofs.Ytlambflmabecfaa
open Go.ChangeShapes Go.WideShapes Go.ChangeAt Go.RowKit Go.Joins Go.Deep
set_option linter.unusedSimpArgs false
set_option linter.unusedVariables false
set_option maxRecDepth 100000
set_option maxHeartbeats 2000000
def groupB (R C : Int) (l : List (Int × Int)) (i j : Int) : List Int := if okJ R C l i j then nI (grpL C l (atI C i j)) else []
theorem grpL_len (C : Int) (l : List (Int × Int)) (k : Nat) : (grpL C l k).length ≤ l.length := by
  unfold grpL
  have := List.length_filter_le (fun x => decide (nmb C l x = nmb C l k)) (List.range l.length)
  rwa [List.length_range] at this
theorem groupB_len (R C : Int) (l : List (Int × Int)) (i j : Int) (h : l.length ≤ 1048576) : (groupB R C l i j).length ≤ 1048576 := by
  unfold groupB
  split
  · rw [nI_length]
    have := grpL_len C l (atI C i j)
    omega
  · simp
theorem PostL.of_irow {w w' : World} {l : List Int} {v : Value} {base : Nat} (h : IRow w' base v l) (hbase : w.heap.size ≤ base) (hb : Below w.heap.size w w') (ok : Bool) : PostL w l ok (.returned (.tuple #[v, .bool ok])) w' := by
  obtain ⟨A', cap', rfl, ho, hn⟩ := h.shape
  exact PostL.mk ho (fun a ha => Nat.le_trans hbase (hn a ha)) hb
theorem PostL.of_post {w w1 w' : World} {l : List Int} {v : Value} (h : PostI w1 l (.returned v) w') (hb : Below w.heap.size w w1) (ok : Bool) : PostL w l ok (.returned (.tuple #[v, .bool ok])) w' := by
  obtain ⟨A', cap', e, ho, hn, hb'⟩ := h
  cases e
  exact PostL.mk ho (hn.mono hb.size) (hb.trans (hb'.mono hb.size))
theorem PostI.value {w w' : World} {l : List Int} {e : Ending} (h : PostI w l e w') : ∃ A cap, e = .returned (.slice A l.length cap) ∧ Own w' A 3 (ints l) ∧ New w A ∧ Below w.heap.size w w' := h
def numsTo (C : Int) (l : List (Int × Int)) (k m : Nat) : List Nat := (List.range m).filter fun x => decide (nmb C l x = nmb C l k)
theorem numsTo_yes {C : Int} {l : List (Int × Int)} {k m : Nat} (h : nmb C l m = nmb C l k) : numsTo C l k (m + 1) = numsTo C l k m ++ [m] := by
  unfold numsTo
  rw [List.range_succ, List.filter_append]
  simp [h]
theorem numsTo_no {C : Int} {l : List (Int × Int)} {k m : Nat} (h : ¬ nmb C l m = nmb C l k) : numsTo C l k (m + 1) = numsTo C l k m := by
  unfold numsTo
  rw [List.range_succ, List.filter_append]
  simp [h]
theorem numsTo_len (C : Int) (l : List (Int × Int)) (k m : Nat) : (numsTo C l k m).length ≤ m := by
  unfold numsTo
  have := List.length_filter_le (fun x => decide (nmb C l x = nmb C l k)) (List.range m)
  rwa [List.length_range] at this
theorem numL_at {c : Nat} {l : List (Int × Int)} {x : Nat} (h : x < l.length) : (ints (numL c l))[x]? = some (.int .i64 (nmb (c : Int) l x)) := by
  unfold numL nmb GG
  rw [Int.toNat_natCast]
  exact numV_at h
theorem numL_len (c : Nat) (l : List (Int × Int)) : (numL c l).length = l.length := numV_len _ _
end Go.Proofs.Ytlambflmabecfaa
namespace Go.Proofs.Ytlambflmabecfaa
open Go.ChangeShapes Go.WideShapes Go.ChangeAt Go.RowKit Go.Joins Go.Deep
set_option linter.unusedSimpArgs false
set_option linter.unusedVariables false
set_option maxRecDepth 100000
set_option maxHeartbeats 2000000
def okJJ (R C : Int) (l : List (Int × Int)) (i j i2 j2 : Int) : Bool := okJ R C l i j && okJ R C l i2 j2
def joinedB (R C : Int) (l : List (Int × Int)) (i j i2 j2 : Int) : Bool := okJJ R C l i j i2 j2 && decide (nmb C l (atI C i j) = nmb C l (atI C i2 j2))
theorem ret_two {a b c d : Bool} (h1 : a = c) (h2 : b = d) : Ending.returned (.tuple #[.bool a, .bool b]) = .returned (.tuple #[.bool c, .bool d]) := by rw [h1, h2]
theorem grpL_has {c k m : Nat} {l : List (Int × Int)} (hm : m < l.length) : ((nI (grpL (c : Int) l k)).take (nI (grpL (c : Int) l k)).length).contains (m : Int) = decide (nmb (c : Int) l k = nmb (c : Int) l m) := by
  rw [List.take_length, Bool.eq_iff_iff, List.contains_iff_mem, decide_eq_true_eq]
  unfold nI grpL
  rw [List.mem_map]
  constructor
  · rintro ⟨x, hx, e⟩
    rw [List.mem_filter, decide_eq_true_eq] at hx
    have : x = m := by omega
    subst this
    exact hx.2.symm
  · intro h
    exact ⟨m, List.mem_filter.2 ⟨List.mem_range.2 hm, by rw [decide_eq_true_eq]; exact h.symm⟩, rfl⟩
theorem grpL_pos {c k : Nat} {l : List (Int × Int)} (hk : k < l.length) : 0 < (grpL (c : Int) l k).length :=
  List.length_pos_of_mem (List.mem_filter.2 ⟨List.mem_range.2 hk, by rw [decide_eq_true_eq]⟩)
end Go.Proofs.Ytlambflmabecfaa
namespace Go.Proofs.Ytlambflmabecfaa
open Go.ChangeShapes Go.WideShapes Go.ChangeAt Go.RowKit Go.Joins Go.Deep
set_option linter.unusedSimpArgs false
set_option linter.unusedVariables false
set_option maxRecDepth 100000
set_option maxHeartbeats 1000000
theorem listInfo : (Try.prog.info? 47).map (fun i => (i.zero, i.size, i.bytes)) = some (some (.slice none 0 0), 1, 24) := by kernel_rfl
/-- The value v is a list of lists of numbers, all of the call's own, whose memory lies from block base on. -/
def LRow (w : World) (base : Nat) (v : Value) (L : List (List Nat)) : Prop :=
  ∃ hs : List Value, hs.length = L.length ∧ w.ownsRow base 47 1 v L.length hs ∧
    ∀ k (h : k < L.length), ∃ A cap, hs[k]? = some (.slice A L[k].length cap) ∧ Own w A 3 (ints (nI L[k])) ∧ ∀ a, A = some a → base ≤ a.block
theorem LRow.nil {w : World} {base : Nat} : LRow w base (.slice none 0 0) [] := ⟨[], rfl, World.ownsRow_nil _ _ _ _, fun k h => absurd h (Nat.not_lt_zero k)⟩
theorem LRow.keep {w w' : World} {base : Nat} {v : Value} {L : List (List Nat)} (h : LRow w base v L) (hb : Below w.heap.size w w') : LRow w' base v L := by
  obtain ⟨hs, h1, h2, h3⟩ := h
  refine ⟨hs, h1, row_keep h2 hb, fun k hk => ?_⟩
  obtain ⟨A, cap, e, ho, hg⟩ := h3 k hk
  exact ⟨A, cap, e, ho.keep hb, hg⟩
theorem Own.keys {w w' : World} {A : Option Addr} {t : TypeId} {xs : List Value} {B nB : Nat} {o : Nat → Bool} (h : Own w A t xs) (hk : Keys w B nB o) (hg : w.grownBy w' (some B)) : Own w' A t xs := fun hx => by
  obtain ⟨g, rest, e, hw⟩ := h hx
  exact ⟨g, rest, e, hw.grown hg (fun e' => hk.whole hw (by cases e'; rfl))⟩
theorem LRow.del {w w' : World} {base : Nat} {v : Value} {L : List (List Nat)} {B nB : Nat} {o : Nat → Bool} (h : LRow w base v L) (hk : Keys w B nB o) (hg : w.grownBy w' (some B)) : LRow w' base v L := by
  obtain ⟨hs, h1, h2, h3⟩ := h
  refine ⟨hs, h1, World.ownsRow.kept h2 hg (.inr fun e => hk.row h2 e.symm), fun k hk' => ?_⟩
  obtain ⟨A, cap, e, ho, hb⟩ := h3 k hk'
  exact ⟨A, cap, e, ho.keys hk hg, hb⟩
theorem one_oneL {A : Option Addr} {n cap : Nat} : ∀ u ∈ [Value.slice A n cap], u.oneCell' = true := by
  intro u hu
  simp only [List.mem_cons, List.not_mem_nil, or_false] at hu
  rw [hu]; rfl
/-- 'L = append(L, x)': x a list that lies in memory; the literal slice of x is the heap's last block. -/
theorem wpList_pushL {w : World} {ops : Array Oper} {rest : List Oper} {o : Oper} {a : Act} {Q : Exit → Act → World → Prop} {base : Nat} {v : Value} {L : List (List Nat)} {x : List Nat} {A0 : Option Addr} {cap0 : Nat}
    (hrow : LRow w base v L) (hn : L.length ≤ 1048576) (hbase : base ≤ w.heap.size) (hx0 : Own w A0 3 (ints (nI x))) (hx1 : ∀ a, A0 = some a → base ≤ a.block)
    (hgd : o.guard = none) (s y : Operand) (ho : o.op = .call { callee := .builtin .append, args := #[s, y], argTypes := #[121, 121] })
    (hs : a.eval s = v) (hx : a.eval y = .slice (some ⟨w.heap.size, 0, none⟩) 1 1)
    (h : ∀ v' w', LRow w' base v' (L ++ [x]) → (w.alloc (.cells #[.slice A0 x.length cap0] 47)).grownBy w' v.ownBlock → Below base w w' → v.ownBlock = none ∨ (∃ k, v.ownBlock = some k ∧ ∃ ys, w.ownsRow base 47 1 v L.length ys) → wpList Try.prog ops Q rest (a.put o.dst v') w') :
    wpList Try.prog ops Q (o :: rest) a (w.alloc (.cells #[.slice A0 x.length cap0] 47)) := by
  obtain ⟨i0, hi, hz0, hz1, hz2⟩ := info_parts listInfo
  obtain ⟨hs', h1, h2, h3⟩ := hrow
  refine wpList_append_own_at _ hgd s y 121 ho base 47 i0 _ 1 24 Try.underlying121 hi hz0 hz1 hz2 rfl (by omega) v L.length hs' hs (World.ownsRow.alloc h2 _) ⟨w.heap.size, 0, none⟩ 1 1 [.slice A0 x.length cap0] hx rfl one_cellI one_oneL (by unfold maxLen; omega) (by omega) (by simp; omega) ?_
  intro v' w' h4 h5 _ _
  have hb : Below base w w' := row_below (World.ownsRow.alloc h2 _) ((Below.refl base w).alloc hbase _) (by simp; omega) h5
  have hkeep : ∀ {A : Option Addr} {xs : List Value}, Own w A 3 xs → Own w' A 3 xs := fun {A xs} ho' hx' => by
    obtain ⟨g, rest', e, hw⟩ := ho' hx'
    exact ⟨g, rest', e, (hw.alloc _).grown h5 (row_apart h2 hw (by decide))⟩
  refine h v' w' ⟨hs' ++ [.slice A0 x.length cap0], by simp [h1], ?_, fun k hk => ?_⟩ h5 hb ?_
  · rw [List.length_append, List.length_singleton]
    exact h4
  · by_cases hk' : k < L.length
    · obtain ⟨A, cap, e, ho', hg⟩ := h3 k hk'
      refine ⟨A, cap, ?_, ?_, hg⟩
      · rw [List.getElem?_append_left (by omega), List.getElem_append_left hk']; exact e
      · rw [List.getElem_append_left hk']; exact hkeep ho'
    · have e : k = L.length := by rw [List.length_append, List.length_singleton] at hk; omega
      subst e
      refine ⟨A0, cap0, ?_, ?_, hx1⟩
      · rw [List.getElem?_append_right (by omega), h1]; simp
      · simpa using hkeep hx0
  · cases hv : v.ownBlock with
    | none => exact .inl rfl
    | some k => exact .inr ⟨k, rfl, hs', h2⟩
theorem LRow.mono {w : World} {base base' : Nat} {v : Value} {L : List (List Nat)} (h : LRow w base v L) (hb : base' ≤ base) : LRow w base' v L := by
  obtain ⟨hs, h1, h2, h3⟩ := h
  refine ⟨hs, h1, ⟨h2.1, ?_⟩, fun k hk => ?_⟩
  · rcases h2.2 with h4 | ⟨g, cap, cur, e, h5, h6⟩
    · exact .inl h4
    · exact .inr ⟨g, cap, cur, e, Nat.le_trans hb h5, h6⟩
  · obtain ⟨A, cap, e, ho, hg⟩ := h3 k hk
    exact ⟨A, cap, e, ho, fun a ha => Nat.le_trans hb (hg a ha)⟩
end Go.Proofs.Ytlambflmabecfaa
namespace Go.Proofs.Ytlambflmabecfaa
open Go.ChangeShapes Go.WideShapes Go.ChangeAt Go.RowKit Go.Joins Go.Deep
set_option linter.unusedSimpArgs false
set_option linter.unusedVariables false
set_option maxRecDepth 100000
set_option maxHeartbeats 2000000
theorem opn_flat (J : Nat → Bool) (G : List (List Nat)) (q : List Nat) (i : Nat) : opn J (G ++ [q]).flatten [] i = opn J G.flatten q i := by
  rw [Bool.eq_iff_iff, opn_iff, opn_iff, flatten_snoc, List.mem_append]
  constructor
  · rintro ⟨a, b, _⟩; exact ⟨a, fun h => b (.inl h), fun h => b (.inr h)⟩
  · rintro ⟨a, b, c⟩; exact ⟨a, fun h => h.elim b c, List.not_mem_nil⟩
end Go.Proofs.Ytlambflmabecfaa
namespace Go.Proofs.Ytlambflmabecfaa
open Go.ChangeShapes Go.WideShapes Go.ChangeAt Go.RowKit Go.Joins Go.Deep
set_option linter.unusedSimpArgs false
set_option linter.unusedVariables false
set_option maxRecDepth 100000
set_option maxHeartbeats 2000000
def mostF (n k : Int) : Int := if k + 1 < n then n else k + 1
def most (xs : List Int) : Int := xs.foldl mostF 0
theorem mostF_le (a k : Int) : a ≤ mostF a k ∧ k + 1 ≤ mostF a k ∧ (mostF a k = a ∨ mostF a k = k + 1) := by
  unfold mostF
  split
  · exact ⟨by omega, by omega, .inl rfl⟩
  · exact ⟨by omega, by omega, .inr rfl⟩
theorem fold_most : ∀ (xs : List Int) (a : Int), a ≤ xs.foldl mostF a ∧ (∀ k ∈ xs, k + 1 ≤ xs.foldl mostF a) ∧ (xs.foldl mostF a = a ∨ ∃ k ∈ xs, xs.foldl mostF a = k + 1)
  | [], a => ⟨Int.le_refl _, fun k hk => absurd hk List.not_mem_nil, .inl rfl⟩
  | x :: xs, a => by
    obtain ⟨h1, h2, h3⟩ := fold_most xs (mostF a x)
    obtain ⟨m1, m2, m3⟩ := mostF_le a x
    show a ≤ xs.foldl mostF (mostF a x) ∧ (∀ k ∈ x :: xs, k + 1 ≤ xs.foldl mostF (mostF a x)) ∧ (xs.foldl mostF (mostF a x) = a ∨ ∃ k ∈ x :: xs, xs.foldl mostF (mostF a x) = k + 1)
    refine ⟨by omega, fun k hk => ?_, ?_⟩
    · rcases List.mem_cons.1 hk with e | e
      · subst e; omega
      · exact h2 k e
    · rcases h3 with e | ⟨k, hk, e⟩
      · rcases m3 with e' | e'
        · exact .inl (by omega)
        · exact .inr ⟨x, List.mem_cons_self .., by omega⟩
      · exact .inr ⟨k, List.mem_cons_of_mem _ hk, e⟩
theorem most_take {xs : List Int} {k : Nat} (h : k < xs.length) : most (xs.take (k + 1)) = mostF (most (xs.take k)) xs[k] := by
  unfold most
  rw [List.take_succ_eq_append_getElem h, List.foldl_append]
  rfl
theorem most_num {r c : Nat} {l : List (Int × Int)} (hG : Geo r c l.length) : most (numL c l) = ((GG (c : Int) l).length : Int) := by
  have hA := groups_all hG
  obtain ⟨h1, h2, h3⟩ := fold_most (numL c l) 0
  have hval : ∀ k ∈ numL c l, ∃ x, x < l.length ∧ k = num (GG (c : Int) l) 0 x := by
    intro k hk
    unfold numL numV at hk
    obtain ⟨x, hx, rfl⟩ := List.mem_map.1 hk
    exact ⟨x, List.mem_range.1 hx, by unfold GG; rw [Int.toNat_natCast]⟩
  have hmem : ∀ x, x < l.length → num (GG (c : Int) l) 0 x ∈ numL c l := by
    intro x hx
    unfold numL numV GG
    rw [Int.toNat_natCast]
    exact List.mem_map.2 ⟨x, List.mem_range.2 hx, rfl⟩
  show (numL c l).foldl mostF 0 = _
  generalize hm : (numL c l).foldl mostF 0 = m at *
  rcases Nat.eq_zero_or_pos (GG (c : Int) l).length with hz | hp
  · rcases h3 with e | ⟨k, hk, e⟩
    · omega
    · obtain ⟨x, _, rfl⟩ := hval k hk
      have := (num_ge (j := x) (GG (c : Int) l) 0).2
      omega
  · have hle : m ≤ ((GG (c : Int) l).length : Int) := by
      rcases h3 with e | ⟨k, hk, e⟩
      · omega
      · obtain ⟨x, _, rfl⟩ := hval k hk
        have := (num_ge (j := x) (GG (c : Int) l) 0).2
        omega
    have hlast : (GG (c : Int) l).length - 1 < (GG (c : Int) l).length := by omega
    have hg := List.getElem_mem hlast
    have hne := hA.some_ _ hg
    obtain ⟨x, hx⟩ := List.exists_mem_of_ne_nil _ hne
    have hxn := (hA.cells _ hg x hx).1
    have e1 := (num_is (j := x) _ 0 _ hA.apart (List.getElem?_eq_getElem hlast)).2 hx
    have := h2 _ (hmem x hxn)
    omega
theorem numL_range {c : Nat} {l : List (Int × Int)} (hn : l.length ≤ 90) : ∀ x ∈ numL c l, -1 ≤ x ∧ x ≤ 1048576 := by
  intro k hk
  unfold numL numV at hk
  obtain ⟨x, hx, rfl⟩ := List.mem_map.1 hk
  have h1 := num_ge (j := x) (gat (J l) (nearL c l.length) l.length l.length) 0
  have h2 := gat_len (J l) (nearL c l.length) l.length l.length
  omega
def cntB (R C : Int) (l : List (Int × Int)) : Int := selI (goodB R C l) ((GG C l).length : Int)
theorem LRow.shape {w : World} {base : Nat} {v : Value} {L : List (List Nat)} (h : LRow w base v L) : ∃ A cap, v = .slice A L.length cap := by
  obtain ⟨hs, _, h2, _⟩ := h
  exact slice_of_row h2
end Go.Proofs.Ytlambflmabecfaa
namespace Go.Proofs.Ytlambflmabecfaa
open Go.ChangeShapes Go.WideShapes Go.ChangeAt Go.RowKit Go.Joins Go.Deep
set_option linter.unusedSimpArgs false
set_option linter.unusedVariables false
set_option maxRecDepth 100000
set_option maxHeartbeats 2000000
def repR (v : Int) (n m : Nat) : List Value := List.replicate m (.int .i64 v) ++ List.replicate (n - m) (.int .i64 0)
theorem repR_len {v : Int} {n m : Nat} (h : m ≤ n) : (repR v n m).length = n := by simp [repR]; omega
theorem repR_splice {v : Int} {n m c : Nat} (h : m + c ≤ n) : splice (repR v n m) m (List.replicate c (.int .i64 v)) = repR v n (m + c) := by
  unfold splice repR
  rw [List.take_append_of_le_length (by simp), List.take_of_length_le (by simp), List.length_replicate, List.drop_append, List.drop_eq_nil_of_le (by simp), List.nil_append, List.length_replicate, List.drop_replicate, ← List.append_assoc, List.replicate_append_replicate]
  congr 2
  omega
theorem repR_at {v : Int} {n m j : Nat} (h : j < m) : (repR v n m)[j]? = some (.int .i64 v) := by
  unfold repR
  rw [List.getElem?_append_left (by simpa using h), List.getElem?_replicate, if_pos h]
theorem intSize : ((Try.prog.info? 3).map (·.size)) = some 1 := by
  obtain ⟨i0, hi, hz0, hz1, hz2⟩ := info_parts intInfo
  rw [hi]
  simp [hz1]
theorem wpList_copy_rep {w : World} {ops : Array Oper} {rest : List Oper} {o : Oper} {a : Act} {Q : Exit → Act → World → Prop} (hgd : o.guard = none) (d s : Operand)
    (ho : o.op = .call { callee := .builtin .copy, args := #[d, s], argTypes := #[47, 47] }) (g off dLen dCap sb so sLen sCap : Nat) (hd : a.eval d = .slice (some ⟨g, off, none⟩) dLen dCap) (hs : a.eval s = .slice (some ⟨sb, so, none⟩) sLen sCap)
    (cur : List Value) (hg : Whole w g 3 cur) (c : Nat) (v : Int) (hn : c = min sLen dLen) (hsrc : ∀ j, j < c → w.cell? ⟨sb, so + j, none⟩ = some (.int .i64 v)) (hfit : off + c ≤ cur.length) (B : Nat) (w0 : World) (hb : Below B w0 w) (hBg : B ≤ g)
    (h : ∀ w', Hid (Whole w' g 3 (splice cur off (List.replicate c (.int .i64 v)))) → Below B w0 w' → wpList Try.prog ops Q rest (a.put o.dst (goInt c)) w') : wpList Try.prog ops Q (o :: rest) a w :=
    wpList_copy_splice hgd d s _ _ ho 3 Try.underlying47 intSize _ _ dLen dCap sLen sCap hd hs g off cur 3 hg (List.replicate c (.int .i64 v))
      (by rw [List.length_replicate]; exact hn) (fun _ => ⟨rfl, ⟨sb, so, none⟩, rfl, fun j u hu => by
        have hj := (List.getElem?_eq_some_iff.1 hu).1
        rw [List.length_replicate] at hj
        rw [List.getElem?_replicate, if_pos hj] at hu
        rw [add_plain, hsrc j hj]
        exact hu⟩) (by rw [List.length_replicate]; exact hfit) (fun u hu => by rw [List.mem_replicate] at hu; rw [hu.2]; rfl) B w0 hb hBg (fun w' h1 h2 => by rw [List.length_replicate]; exact h w' h1 h2)
theorem step_copy_rep {ops : Array Oper} {o : Oper} {a : Act} {w : World} {K : Act → World → Prop} {Q : Exit → Act → World → Prop} {E : Prop} (hgd : o.guard = none) (d s : Operand)
    (ho : o.op = .call { callee := .builtin .copy, args := #[d, s], argTypes := #[47, 47] }) (g off dLen dCap sb so sLen sCap : Nat) (hd : a.eval d = .slice (some ⟨g, off, none⟩) dLen dCap) (hs : a.eval s = .slice (some ⟨sb, so, none⟩) sLen sCap)
    (cur : List Value) (hg : Whole w g 3 cur) (c : Nat) (v : Int) (hn : c = min sLen dLen) (hsrc : ∀ j, j < c → w.cell? ⟨sb, so + j, none⟩ = some (.int .i64 v)) (hfit : off + c ≤ cur.length) (B : Nat) (w0 : World) (hb : Below B w0 w) (hBg : B ≤ g)
    (h : ∀ w', Hid (Whole w' g 3 (splice cur off (List.replicate c (.int .i64 v)))) → Below B w0 w' → K (a.put o.dst (goInt c)) w') : if Region.wanted o (yielded ops a.tmps) = true then Oper.wp Try.prog o a w K Q else E :=
    step_copy_splice hgd d s _ _ ho 3 Try.underlying47 intSize _ _ dLen dCap sLen sCap hd hs g off cur 3 hg (List.replicate c (.int .i64 v))
      (by rw [List.length_replicate]; exact hn) (fun _ => ⟨rfl, ⟨sb, so, none⟩, rfl, fun j u hu => by
        have hj := (List.getElem?_eq_some_iff.1 hu).1
        rw [List.length_replicate] at hj
        rw [List.getElem?_replicate, if_pos hj] at hu
        rw [add_plain, hsrc j hj]
        exact hu⟩) (by rw [List.length_replicate]; exact hfit) (fun u hu => by rw [List.mem_replicate] at hu; rw [hu.2]; rfl) B w0 hb hBg (fun w' h1 h2 => by rw [List.length_replicate]; exact h w' h1 h2)
end Go.Proofs.Ytlambflmabecfaa
namespace Go.Proofs.Ytlambflmabecfaa
open Go.ChangeShapes Go.WideShapes Go.ChangeAt Go.RowKit Go.Joins Go.Deep
set_option linter.unusedSimpArgs false
set_option linter.unusedVariables false
set_option maxRecDepth 100000
set_option maxHeartbeats 2000000
def gearsB (R C : Int) (l : List (Int × Int)) : List Int := if goodB R C l then numL C.toNat l else []
theorem gearsB_len (R C : Int) (l : List (Int × Int)) (h : l.length ≤ 1048576) : (gearsB R C l).length ≤ 1048576 := by
  unfold gearsB
  split
  · rw [numL_len]; exact h
  · simp
theorem LRow.setCell {w : World} {base g j : Nat} {v u : Value} {L : List (List Nat)} (h : LRow w base v L) (hg : g < base) : LRow (w.setCell ⟨g, j, none⟩ u) base v L := by
  obtain ⟨hs, h1, h2, h3⟩ := h
  refine ⟨hs, h1, ⟨h2.1, ?_⟩, fun k hk => ?_⟩
  · rcases h2.2 with h4 | ⟨q, cap, cur, e, h5, h6, h7⟩
    · exact .inl h4
    · exact .inr ⟨q, cap, cur, e, h5, (Below.heap_setCell w ⟨g, j, none⟩ u q (by show q ≠ g; omega)).trans h6, h7⟩
  · obtain ⟨A, cap, e, ho, hb⟩ := h3 k hk
    refine ⟨A, cap, e, fun hx => ?_, hb⟩
    obtain ⟨q, rest, e', hw⟩ := ho hx
    have := hb _ e'
    exact ⟨q, rest, e', (Below.heap_setCell w ⟨g, j, none⟩ u q (by show q ≠ g; simp at this; omega)).trans hw⟩
/-- The header of the list at place k, and the list. -/
theorem LRow.at_ {w : World} {base : Nat} {v : Value} {L : List (List Nat)} (h : LRow w base v L) {k : Nat} (hk : k < L.length) :
    ∃ go cap0 A cap, v = .slice (some ⟨go, 0, none⟩) L.length cap0 ∧ w.cell? ⟨go, k, none⟩ = some (.slice A L[k].length cap) ∧ Own w A 3 (ints (nI L[k])) ∧ (∀ a, A = some a → base ≤ a.block) ∧ go < w.heap.size := by
  obtain ⟨hs, h1, h2, h3⟩ := h
  obtain ⟨A0, cap0, rfl⟩ := slice_of_row h2
  obtain ⟨A, cap, e, ho, hb⟩ := h3 k hk
  obtain ⟨go, rest, rfl, hw⟩ := (own_of_row h2).1 (by omega)
  refine ⟨go, cap0, A, cap, rfl, ?_, ho, hb, hw.lt⟩
  rw [hw.cell k, List.getElem?_append_left (by omega), e]
theorem num_sort {n x : Nat} (hx : x < n) : ∀ (G : List (List Nat)) (c : Nat), num (G.map (sortN n)) c x = num G c x
  | [], c => rfl
  | g :: G, c => by
    have e : (sortN n g).contains x = g.contains x := by
      rw [Bool.eq_iff_iff, List.contains_iff_mem, List.contains_iff_mem, mem_sortN]
      exact ⟨fun h => h.2, fun h => ⟨hx, h⟩⟩
    show (if (sortN n g).contains x then (c : Int) else num (G.map (sortN n)) (c + 1) x) = _
    rw [e, num_sort hx G (c + 1)]
    rfl
theorem numV_sort {n : Nat} (G : List (List Nat)) : numV n (G.map (sortN n)) = numV n G := by
  unfold numV
  exact List.map_congr_left fun x hx => num_sort (List.mem_range.1 hx) G 0
def srtG (c : Nat) (l : List (Int × Int)) : List (List Nat) := (GG (c : Int) l).map (sortN l.length)
theorem srtG_new {r c t j : Nat} {l : List (Int × Int)} (hG : Geo r c l.length) (ht : t < (srtG c l).length) (hj : j < (srtG c l)[t].length) :
    (srtG c l)[t][j] < l.length ∧ (srtG c l)[t][j] ∉ ((srtG c l).take t).flatten ∧ (srtG c l)[t][j] ∉ (srtG c l)[t].take j := by
  have hA := groups_all hG
  have ht' : t < (GG (c : Int) l).length := by unfold srtG at ht; rwa [List.length_map] at ht
  have e : (srtG c l)[t] = sortN l.length (GG (c : Int) l)[t] := by simp only [srtG, List.getElem_map]
  have hm : (srtG c l)[t][j] ∈ sortN l.length (GG (c : Int) l)[t] := by rw [← e]; exact List.getElem_mem hj
  rw [mem_sortN] at hm
  refine ⟨hm.1, fun h => ?_, fun h => ?_⟩
  · obtain ⟨g, hg, hx⟩ := List.mem_flatten.1 h
    obtain ⟨s, hs, rfl⟩ := List.getElem_of_mem hg
    rw [List.getElem_take] at hx
    have hst : s < t := by rw [List.length_take] at hs; omega
    have e2 : (srtG c l)[s]'(by omega) = sortN l.length ((GG (c : Int) l)[s]'(by omega)) := by simp only [srtG, List.getElem_map]
    rw [e2, mem_sortN] at hx
    have n1 := (num_is (j := (srtG c l)[t][j]) _ 0 t hA.apart (List.getElem?_eq_getElem ht')).2 hm.2
    have n2 := (num_is (j := (srtG c l)[t][j]) _ 0 s hA.apart (List.getElem?_eq_getElem (by omega))).2 hx.2
    omega
  · have hp : (srtG c l)[t].Pairwise (· < ·) := by rw [e]; exact sortN_sorted _ _
    rw [List.mem_iff_getElem] at h
    obtain ⟨i, hi, hie⟩ := h
    rw [List.getElem_take] at hie
    rw [List.length_take] at hi
    have := List.pairwise_iff_getElem.1 hp i j (by omega) hj (by omega)
    omega
theorem srtG_len (c : Nat) (l : List (Int × Int)) : (srtG c l).length ≤ l.length := by
  unfold srtG GG
  rw [List.length_map]
  exact gat_len _ _ _ _
theorem numL_srt (c : Nat) (l : List (Int × Int)) : numV l.length (srtG c l) = numL c l := by
  unfold srtG
  rw [numV_sort]
  unfold numL GG
  rw [Int.toNat_natCast]
theorem srtG_cell (c : Nat) (l : List (Int × Int)) (t : Nat) (ht : t < (srtG c l).length) : (srtG c l)[t].length ≤ l.length := by
  simp only [srtG, List.getElem_map]
  exact sortN_length _
end Go.Proofs.Ytlambflmabecfaa
namespace Go.Proofs.Ytlambflmabecfaa
open Go.ChangeShapes Go.WideShapes Go.ChangeAt Go.RowKit Go.Joins Go.Deep
set_option linter.unusedSimpArgs false
set_option linter.unusedVariables false
set_option maxRecDepth 100000
set_option maxHeartbeats 2000000
def gearK (l : List (Int × Int)) (x : Nat) : Bool := decide ((l.getD x (0, 0)).1 = 6)
theorem among_yes {l : List (Int × Int)} {q : List Nat} {k : Nat} (h : k < q.length) (hg : gearK l q[k] = true) : (q.take (k + 1)).filter (gearK l) = (q.take k).filter (gearK l) ++ [q[k]] := by
  rw [List.take_succ_eq_append_getElem h, List.filter_append]
  simp [hg]
theorem among_no {l : List (Int × Int)} {q : List Nat} {k : Nat} (h : k < q.length) (hg : gearK l q[k] = false) : (q.take (k + 1)).filter (gearK l) = (q.take k).filter (gearK l) := by
  rw [List.take_succ_eq_append_getElem h, List.filter_append]
  simp [hg]
theorem among_len (l : List (Int × Int)) (q : List Nat) (k : Nat) : ((q.take k).filter (gearK l)).length ≤ q.length := by
  have h1 := List.length_filter_le (gearK l) (q.take k)
  rw [List.length_take] at h1
  omega
theorem impl_gearsAmong (R C : Int) (A : Option Addr) (cap : Nat) (l : List (Int × Int)) (A1 : Option Addr) (cap1 : Nat) (q : List Nat) (w : World) (hr : Rd w w.heap.size A (flat l)) (hq : q.length ≤ 1048576) (hx : ∀ x ∈ q, x < l.length) (h1 : Rd w w.heap.size A1 (ints (nI q))) :
    Calls Try.prog 103 #[.agg #[.int .i64 R, .int .i64 C, .slice A l.length cap], .slice A1 q.length cap1] w (PostI w (nI (q.filter (gearK l)))) := by
  go_enter Try.func103, Try.ntmps103
  obtain ⟨v0, hv0⟩ : ∃ v, v = w.alloc (.cells #[.int .i64 R, .int .i64 C, .slice A l.length cap] 39) := ⟨_, rfl⟩
  have X0 : Whole v0 w.heap.size 39 [.int .i64 R, .int .i64 C, .slice A l.length cap] := by rw [hv0]; exact heap_alloc_new w _
  have hb : Below w.heap.size w v0 := by rw [hv0]; exact (Below.refl _ _).alloc (Nat.le_refl _) _
  have hs : w.heap.size + 1 ≤ v0.heap.size := X0.lt
  have HV := Lib.hid hv0.symm
  clear hv0
  go_upto_region 1 with (fail)
  rewrite [HV.out]
  clear HV
  go_wp2_with fail
  go_loopw [10, 5] (fun t v wr => ∃ k : Nat, t = .int .i64 k ∧ k ≤ q.length ∧ IRow wr (w.heap.size + 1) v (nI ((q.take k).filter (gearK l))) ∧ Whole wr w.heap.size 39 [.int .i64 R, .int .i64 C, .slice A l.length cap] ∧ Below w.heap.size w wr ∧ w.heap.size + 1 ≤ wr.heap.size) (fun t _ _ => q.length - (intOf t).toNat)
  case atStart => exact ⟨0, rfl, Nat.zero_le _, IRow.nil, X0, hb, hs⟩
  case round =>
    clear X0 hb hs
    obtain ⟨k, rfl, hk, hrow, X0, hb, hs⟩ := hrel
    by_cases hlt : k < q.length
    · obtain ⟨b1, o1, rfl, hbl1, hc1⟩ := h1 (by rw [ints_length, nI_length]; omega)
      have hck : wr.cell? ⟨b1, o1 + k, none⟩ = some (.int .i64 (q[k] : Int)) := (hb.cell (p := ⟨b1, o1 + k, none⟩) hbl1).trans (hc1 k _ (nI_at q k hlt))
      have hxl := hx _ (List.getElem_mem hlt)
      obtain ⟨b, o, rfl, hbl, hc⟩ := hr (by rw [flat_length]; omega)
      obtain ⟨hd0, hd1⟩ := cell_at2 hb hbl hc hxl
      have HY := Lib.hid (among_yes (l := l) hlt)
      have HN := Lib.hid (among_no (l := l) hlt)
      have hle := among_len l q k
      have hl5 : (nI ((q.take k).filter (gearK l))).length ≤ 1048576 := by rw [nI_length]; omega
      have hgk : gearK l q[k] = decide (l[q[k]].1 = 6) := by unfold gearK; rw [List.getD_eq_getElem?_getD, List.getElem?_eq_getElem hxl]; rfl
      have X0k0 : wr.cell? ⟨w.heap.size, 0, none⟩ = some (.int .i64 R) := (X0.cell 0).trans rfl; have X0k1 : wr.cell? ⟨w.heap.size, 1, none⟩ = some (.int .i64 C) := (X0.cell 1).trans rfl; have X0k2 : wr.cell? ⟨w.heap.size, 2, none⟩ = some (.slice (some ⟨b, o, none⟩) l.length cap) := (X0.cell 2).trans rfl
      clear hr hc hc1
      generalize l[q[k]].1 = kd at *
      generalize l[q[k]].2 = st at *
      generalize hyy : q[k] = y at *
      by_cases h6 : kd = 6
      · subst h6
        have HE := Lib.hid (HY.out (by rw [hgk]; rfl))
        clear HY HN hgk
        go_wp2_with (first | (at_builtin; refine wpList_push (x0 := (y : Int)) hrow hl5 hs rfl _ _ rfl rfl rfl ?_; intro v6 w6 hrow6 hg6 hb6 hl6; have hX6 := X0.below hb6 (Nat.lt_succ_self _); have hb7 := hb.trans (hb6.mono (Nat.le_succ _)); have hs6 := Nat.le_trans hs hb6.size) | fail)
        go_roundw
        case rel => exact ⟨k + 1, by go_num, by omega, by rw [HE.out, nI_append]; exact hrow6, hX6, hb7, hs6⟩
        case measure => simp [intOf]; omega
      · have HE := Lib.hid (HN.out (by rw [hgk]; exact decide_eq_false h6))
        clear HY HN hgk
        go_wp2_with fail
        go_roundw
        case rel => exact ⟨k + 1, by go_num, by omega, by rw [HE.out]; exact hrow, X0, hb, hs⟩
        case measure => simp [intOf]; omega
    · obtain rfl : k = q.length := by omega
      rw [List.take_length] at hrow
      go_wp2
      go_returns
      exact PostI.of_irow hrow (Nat.le_succ _) hb
def tnS (l : List (Int × Int)) (S : Nat → Bool) : List (Int × Int) := (List.range l.length).map fun x => if S x then ((l.getD x (0, 0)).1, 1 - (l.getD x (0, 0)).2) else l.getD x (0, 0)
theorem tnS_len (l : List (Int × Int)) (S : Nat → Bool) : (tnS l S).length = l.length := by simp [tnS]
theorem tnS_congr {l : List (Int × Int)} {S T : Nat → Bool} (h : ∀ x, x < l.length → S x = T x) : tnS l S = tnS l T := by
  unfold tnS
  exact List.map_congr_left fun x hx => by rw [h x (List.mem_range.1 hx)]
theorem tnS_at {l : List (Int × Int)} {S : Nat → Bool} {x : Nat} (h : x < (tnS l S).length) : (tnS l S)[x] = if S x then ((l.getD x (0, 0)).1, 1 - (l.getD x (0, 0)).2) else l.getD x (0, 0) := by
  simp [tnS]
theorem tnS_none {l : List (Int × Int)} : tnS l (fun _ => false) = l := by
  apply List.ext_getElem (tnS_len _ _)
  intro i h1 h2
  rw [tnS_at h1]
  simp only [Bool.false_eq_true, if_false]
  rw [List.getD_eq_getElem?_getD, List.getElem?_eq_getElem h2]
  rfl
theorem tnS_set {l : List (Int × Int)} {S T : Nat → Bool} {k : Nat} (hk : k < l.length) (hT : ∀ x, x < l.length → T x = (S x || x == k)) :
    (tnS l S).set k ((l.getD k (0, 0)).1, 1 - (l.getD k (0, 0)).2) = tnS l T := by
  apply List.ext_getElem (by rw [List.length_set, tnS_len, tnS_len])
  intro i h1 h2
  rw [List.getElem_set]
  have hi : i < l.length := by rw [tnS_len] at h2; exact h2
  by_cases e : k = i
  · subst e
    rw [if_pos rfl, tnS_at h2, hT k hk]
    simp
  · rw [if_neg e, tnS_at (by rw [tnS_len]; exact hi), tnS_at h2, hT i hi]
    have : (i == k) = false := by simp; omega
    rw [this, Bool.or_false]
theorem cell_two_far {w : World} {g j j' b o : Nat} {u u' : Value} (hne : b ≠ g) : ((w.setCell ⟨g, j, none⟩ u).setCell ⟨g, j', none⟩ u').cell? ⟨b, o, none⟩ = w.cell? ⟨b, o, none⟩ := by
  have h1 := Below.heap_setCell (w.setCell ⟨g, j, none⟩ u) ⟨g, j', none⟩ u' b hne
  have h2 := Below.heap_setCell w ⟨g, j, none⟩ u b hne
  simp only [World.cell?]
  rw [h1, h2]
end Go.Proofs.Ytlambflmabecfaa
namespace Go.Proofs.Ytlambflmabecfaa
open Go.ChangeShapes Go.WideShapes Go.ChangeAt Go.RowKit Go.Joins Go.Deep
set_option linter.unusedSimpArgs false
set_option linter.unusedVariables false
set_option maxRecDepth 100000
set_option maxHeartbeats 4000000
def isIn (C : Int) (l : List (Int × Int)) (gn : Int) (x : Nat) : Bool := decide (nmb C l x = gn) && gearK l x
def upTo (C : Int) (l : List (Int × Int)) (gn : Int) (k : Nat) (x : Nat) : Bool := decide (x < k) && isIn C l gn x
theorem upTo_zero {C : Int} {l : List (Int × Int)} {gn : Int} : tnS l (upTo C l gn 0) = l := by
  rw [show tnS l (upTo C l gn 0) = tnS l (fun _ => false) from tnS_congr fun x _ => by simp [upTo]]
  exact tnS_none
theorem upTo_yes {C : Int} {l : List (Int × Int)} {gn : Int} {k : Nat} (hk : k < l.length) (h : isIn C l gn k = true) : (tnS l (upTo C l gn k)).set k ((l.getD k (0, 0)).1, 1 - (l.getD k (0, 0)).2) = tnS l (upTo C l gn (k + 1)) := by
  refine tnS_set hk fun x _ => ?_
  unfold upTo
  by_cases e : x = k
  · subst e; simp [h]
  · have e1 : decide (x < k + 1) = decide (x < k) := by rw [decide_eq_decide]; omega
    have e2 : (x == k) = false := by simp [e]
    rw [e1, e2, Bool.or_false]
theorem upTo_no {C : Int} {l : List (Int × Int)} {gn : Int} {k : Nat} (h : isIn C l gn k = false) : tnS l (upTo C l gn (k + 1)) = tnS l (upTo C l gn k) := by
  refine tnS_congr fun x _ => ?_
  unfold upTo
  by_cases e : x = k
  · subst e; simp [h]
  · have e1 : decide (x < k + 1) = decide (x < k) := by rw [decide_eq_decide]; omega
    rw [e1]
theorem upTo_all {C : Int} {l : List (Int × Int)} {gn : Int} : tnS l (upTo C l gn l.length) = tnS l (isIn C l gn) :=
  tnS_congr fun x hx => by unfold upTo; rw [decide_eq_true hx, Bool.true_and]
theorem Whole.two_far {w : World} {g g' j j' : Nat} {t : TypeId} {xs : List Value} {u u' : Value} (h : Whole w g t xs) (hne : g ≠ g') : Whole ((w.setCell ⟨g', j, none⟩ u).setCell ⟨g', j', none⟩ u') g t xs :=
  (Below.heap_setCell (w.setCell ⟨g', j, none⟩ u) ⟨g', j', none⟩ u' g hne).trans ((Below.heap_setCell w ⟨g', j, none⟩ u g hne).trans h)
end Go.Proofs.Ytlambflmabecfaa
namespace Go.Proofs.Ytlambflmabecfaa
open Go.ChangeShapes Go.WideShapes Go.ChangeAt Go.RowKit Go.Joins Go.Deep
set_option linter.unusedSimpArgs false
set_option linter.unusedVariables false
set_option maxRecDepth 100000
set_option maxHeartbeats 4000000
def pin (nm : List Int) (gn : Int) (l : List (Int × Int)) (x : Nat) : Bool := decide (nm.getD x 0 = gn) && gearK l x
def pup (nm : List Int) (gn : Int) (l : List (Int × Int)) (k : Nat) (x : Nat) : Bool := decide (x < k) && pin nm gn l x
def passL (nm : List Int) (l : List (Int × Int)) (i : Nat) : List (Int × Int) :=
  if (l.getD i (0, 0)).1 = 3 then l.set i ((l.getD i (0, 0)).1, 1 - (l.getD i (0, 0)).2) else if (l.getD i (0, 0)).1 = 6 then tnS l (pin nm (nm.getD i 0) l) else l
theorem pup_zero {nm : List Int} {l : List (Int × Int)} {gn : Int} : tnS l (pup nm gn l 0) = l := by
  rw [show tnS l (pup nm gn l 0) = tnS l (fun _ => false) from tnS_congr fun x _ => by simp [pup]]
  exact tnS_none
theorem pup_yes {nm : List Int} {l : List (Int × Int)} {gn : Int} {k : Nat} (hk : k < l.length) (h : pin nm gn l k = true) : (tnS l (pup nm gn l k)).set k ((l.getD k (0, 0)).1, 1 - (l.getD k (0, 0)).2) = tnS l (pup nm gn l (k + 1)) := by
  refine tnS_set hk fun x _ => ?_
  unfold pup
  by_cases e : x = k
  · subst e; simp [h]
  · have e1 : decide (x < k + 1) = decide (x < k) := by rw [decide_eq_decide]; omega
    have e2 : (x == k) = false := by simp [e]
    rw [e1, e2, Bool.or_false]
theorem pup_no {nm : List Int} {l : List (Int × Int)} {gn : Int} {k : Nat} (h : pin nm gn l k = false) : tnS l (pup nm gn l (k + 1)) = tnS l (pup nm gn l k) := by
  refine tnS_congr fun x _ => ?_
  unfold pup
  by_cases e : x = k
  · subst e; simp [h]
  · have e1 : decide (x < k + 1) = decide (x < k) := by rw [decide_eq_decide]; omega
    rw [e1]
theorem pup_all {nm : List Int} {l : List (Int × Int)} {gn : Int} : tnS l (pup nm gn l l.length) = tnS l (pin nm gn l) :=
  tnS_congr fun x hx => by unfold pup; rw [decide_eq_true hx, Bool.true_and]
theorem passL_len (nm : List Int) (l : List (Int × Int)) (i : Nat) : (passL nm l i).length = l.length := by
  unfold passL
  split
  · rw [List.length_set]
  · split
    · rw [tnS_len]
    · rfl
theorem gb_below {w v v' : World} {g : Nat} (h : w.grownBy v (some g)) (hb : Below v.heap.size v v') : w.grownBy v' (some g) :=
  ⟨hb.os.trans h.os, hb.tape.trans h.tape, hb.output.trans h.output, Nat.le_trans h.size hb.size, fun k hk hne => (hb.block k (Nat.lt_of_lt_of_le hk h.size)).trans (h.block k hk hne)⟩
theorem gb_set2 {w v : World} {g j j' : Nat} {u u' : Value} (h : w.grownBy v (some g)) : w.grownBy ((v.setCell ⟨g, j, none⟩ u).setCell ⟨g, j', none⟩ u') (some g) :=
  ⟨h.os, h.tape, h.output, by rw [World.size_setCell, World.size_setCell]; exact h.size, fun k hk hne => by
    have e : k ≠ g := fun e => hne (by rw [e])
    rw [Below.heap_setCell _ _ _ _ e, Below.heap_setCell _ _ _ _ e]
    exact h.block k hk hne⟩
theorem gb_refl (w : World) (g : Nat) : w.grownBy w (some g) := ⟨rfl, rfl, rfl, Nat.le_refl _, fun _ _ _ => rfl⟩
theorem spec_flPass (R C : Int) (g5 cap g6 c6 : Nat) (l : List (Int × Int)) (nm : List Int) (rest5 rest6 : List Value) (i : Nat) (w : World) (hi : i < l.length) (hn : l.length ≤ 1048576) (hnm : nm.length = l.length) (hgd : ∀ x ∈ l, good x.1 x.2 = true)
    (X7 : Whole w g5 104 (flat l ++ rest5)) (X6 : Whole w g6 3 (ints nm ++ rest6)) :
    Calls Try.prog 89 #[.agg #[.int .i64 R, .int .i64 C, .slice (some ⟨g5, 0, none⟩) l.length cap], .slice (some ⟨g6, 0, none⟩) nm.length c6, .int .i64 (i : Int)] w
      fun e w' => e = .returned (.tuple #[]) ∧ Whole w' g5 104 (flat (passL nm l i) ++ rest5) ∧ w.grownBy w' (some g5) := by
  have HGood := Lib.hid (fun k (hk : k < l.length) => hgd _ (List.getElem_mem hk))
  have hget : l.getD i (0, 0) = l[i] := by rw [List.getD_eq_getElem?_getD, List.getElem?_eq_getElem hi]; rfl
  have hc0 : w.cell? ⟨g5, i * 2, none⟩ = some (.int .i64 l[i].1) := (X7.cell _).trans (by rw [List.getElem?_append_left (by rw [flat_length]; omega)]; exact (flat_at l i hi).1)
  have hc1 : w.cell? ⟨g5, i * 2 + 1, none⟩ = some (.int .i64 l[i].2) := (X7.cell _).trans (by rw [List.getElem?_append_left (by rw [flat_length]; omega)]; exact (flat_at l i hi).2)
  have hgi := HGood.out i hi
  have h5l := X7.lt
  have hne65 : g6 ≠ g5 := fun e => by
    subst e
    unfold Whole at X7 X6
    rw [X7] at X6
    injection X6 with X6
    injection X6 with _ ht
    exact absurd ht (by decide)
  rewrite [hnm]
  have HNm := Lib.hid hnm
  clear hgd hnm
  go_enter Try.func89, Try.ntmps89
  go_upto_region 2 with (fail)
  obtain ⟨v0, hv0, X0, X1, B0, hz0⟩ := two_boxes w [.int .i64 R, .int .i64 C, .slice (some ⟨g5, 0, none⟩) l.length cap] 39 [.int .i64 l[i].1, .int .i64 l[i].2] 104
  rewrite [show (w.alloc (.cells ([.int .i64 R, .int .i64 C, .slice (some ⟨g5, 0, none⟩) l.length cap] : List Value).toArray 39)).alloc (.cells ([.int .i64 l[i].1, .int .i64 l[i].2] : List Value).toArray 104) = v0 from hv0]
  have hg6l := X6.lt
  replace X7 := X7.below B0 X7.lt
  replace X6 := X6.below B0 X6.lt
  have hgb : w.grownBy v0 (some g5) := gb_below (gb_refl w g5) B0
  clear hv0 hc0 hc1 B0
  have k0 : v0.cell? ⟨w.heap.size + 1, 0, none⟩ = some (.int .i64 l[i].1) := (X1.cell 0).trans rfl
  by_cases h3 : l[i].1 = 3
  · have HE := Lib.hid (show passL nm l i = l.set i (3, 1 - l[i].2) by unfold passL; rw [hget, if_pos h3, h3])
    have hgood := hgi
    rw [h3] at hgood k0 X1
    have HSet := Lib.hid (flat_set l i 3 (1 - l[i].2) hi rest5)
    have q0 : (flat l ++ rest5)[i * 2]? = some (.int .i64 l[i].1) := by rw [List.getElem?_append_left (by rw [flat_length]; omega)]; exact (flat_at _ i hi).1
    have q1 : (flat l ++ rest5)[i * 2 + 1]? = some (.int .i64 l[i].2) := by rw [List.getElem?_append_left (by rw [flat_length]; omega)]; exact (flat_at _ i hi).2
    rw [h3] at q0
    rw [h3]
    clear hgi hget h3
    generalize l[i].2 = st at *
    have Q0 := Lib.hid q0
    have Q1 := Lib.hid q1
    clear q0 q1
    have hx0 := X0.lt
    have hx1 := X1.lt
    go_upto_region 4 with (fail)
    have KS := Lib.hid (fun (w' : World) (h : Below v0.heap.size v0 w') => (⟨(h.cell (p := ⟨w.heap.size, 2, none⟩) hx0).trans ((X0.cell 2).trans rfl), (h.cell (p := ⟨w.heap.size + 1, 0, none⟩) hx1).trans k0, (h.cell (p := ⟨w.heap.size + 1, 1, none⟩) hx1).trans ((X1.cell 1).trans rfl)⟩ : w'.cell? ⟨w.heap.size, 2, none⟩ = some (.slice (some ⟨g5, 0, none⟩) l.length cap) ∧ w'.cell? ⟨w.heap.size + 1, 0, none⟩ = some (.int .i64 3) ∧ w'.cell? ⟨w.heap.size + 1, 1, none⟩ = some (.int .i64 st)))
    have KS2 := Lib.hid (fun (w' : World) (u u' : Value) (h : Below v0.heap.size v0 w') => (⟨(cell_two_far (j := i * 2) (j' := i * 2 + 1) (u := u) (u' := u') (show w.heap.size ≠ g5 by omega)).trans (KS.out w' h).1, (cell_two_far (j := i * 2) (j' := i * 2 + 1) (u := u) (u' := u') (show w.heap.size + 1 ≠ g5 by omega)).trans (KS.out w' h).2.1, (cell_two_far (j := i * 2) (j' := i * 2 + 1) (u := u) (u' := u') (show w.heap.size + 1 ≠ g5 by omega)).trans (KS.out w' h).2.2⟩ : ((w'.setCell ⟨g5, i * 2, none⟩ u).setCell ⟨g5, i * 2 + 1, none⟩ u').cell? ⟨w.heap.size, 2, none⟩ = some (.slice (some ⟨g5, 0, none⟩) l.length cap) ∧ ((w'.setCell ⟨g5, i * 2, none⟩ u).setCell ⟨g5, i * 2 + 1, none⟩ u').cell? ⟨w.heap.size + 1, 0, none⟩ = some (.int .i64 3) ∧ ((w'.setCell ⟨g5, i * 2, none⟩ u).setCell ⟨g5, i * 2 + 1, none⟩ u').cell? ⟨w.heap.size + 1, 1, none⟩ = some (.int .i64 st)))
    clear k0
    go_region_held3 (fun w' => w'.cell? ⟨w.heap.size, 2, none⟩ = some (.slice (some ⟨g5, 0, none⟩) l.length cap) ∧ w'.cell? ⟨w.heap.size + 1, 0, none⟩ = some (.int .i64 3) ∧ w'.cell? ⟨w.heap.size + 1, 1, none⟩ = some (.int .i64 st))
            (first | exact KS2.out w5 _ _ bb5 | exact KS.out _ (by (repeat' (first | (with_reducible exact Below.refl _ _) | (with_reducible assumption) | (with_reducible refine Below.alloc ?_ ?_ _) | (with_reducible refine Below.setCell ?_ ?_ _) | (with_reducible refine Below.drew ?_) | (with_reducible refine below_drewN ?_ _) | (with_reducible refine Below.trans ?_ (Below.mono (by assumption) ?_)) | go_size))) | fail)
            ((first | (go_at_call 96; (with_reducible refine (spec_paTurn 3 st hgood _).mono ?_); rintro e w5 ⟨rfl, b5⟩; have bb5 : Below v0.heap.size v0 w5 := (by (repeat' (first | (with_reducible exact Below.refl _ _) | (with_reducible assumption) | (with_reducible refine Below.alloc ?_ ?_ _) | (with_reducible refine Below.setCell ?_ ?_ _) | (with_reducible refine Below.drew ?_) | (with_reducible refine below_drewN ?_ _) | (with_reducible refine Below.trans ?_ (Below.mono (by assumption) ?_)) | go_size))); have X75 := X7.below bb5 X7.lt; have hq0 := (X75.cell (i * 2)).trans Q0.out; have hq1 := (X75.cell (i * 2 + 1)).trans Q1.out; have hf0 := X75.frozen (i * 2); have hf1 := X75.frozen (i * 2 + 1)) | fail))
    have X7' := (X75.set (i * 2) (.int .i64 3)).set (i * 2 + 1) (.int .i64 (1 - st))
    rw [HSet.out, ← HE.out] at X7'
    have hgb' := gb_set2 (j := i * 2) (j' := i * 2 + 1) (u := .int .i64 3) (u' := .int .i64 (1 - st)) (gb_below hgb bb5)
    clear KS KS2 X0 X1 X6 X7 X75 hgb hq0 hq1 hf0 hf1 bb5 b5
    go_wp2
    go_returns
    exact ⟨rfl, X7', hgb'⟩
  · by_cases h6 : l[i].1 = 6
    · have HE := Lib.hid (show passL nm l i = tnS l (pin nm (nm.getD i 0) l) by unfold passL; rw [hget, if_neg h3, if_pos h6])
      rw [h6] at k0 ⊢
      rw [← pup_zero (nm := nm) (l := l) (gn := nm.getD i 0)] at X7
      generalize hgn : nm.getD i 0 = gn at *
      have hx0 := X0.lt
      have kb := (X0.cell 2).trans rfl
      go_upto_region 7 with (fail)
      clear k0 kb hgi h3 h6 X1 hget
      generalize l[i].2 = sti
      go_wp2
      go_loopw [29] (fun t wr => ∃ k : Nat, t = .int .i64 k ∧ k ≤ l.length ∧ Whole wr w.heap.size 39 [.int .i64 R, .int .i64 C, .slice (some ⟨g5, 0, none⟩) l.length cap] ∧ Whole wr g5 104 (flat (tnS l (pup nm gn l k)) ++ rest5) ∧ Whole wr g6 3 (ints nm ++ rest6) ∧ w.grownBy wr (some g5)) (fun t _ => l.length - (intOf t).toNat)
      case atStart => exact ⟨0, rfl, Nat.zero_le _, X0, X7, X6, hgb⟩
      case round =>
        clear X0 X7 X6 hgb hx0
        obtain ⟨k, rfl, hk, X0, X7, X6, hgb⟩ := hrel
        by_cases hlt : k < l.length
        · have hTl : k < (tnS l (pup nm gn l k)).length := by rw [tnS_len]; exact hlt
          have hget : l.getD k (0, 0) = l[k] := by rw [List.getD_eq_getElem?_getD, List.getElem?_eq_getElem hlt]; rfl
          have hTk : (tnS l (pup nm gn l k))[k] = l[k] := by rw [tnS_at hTl, ← hget]; unfold pup; simp
          have hc0 : wr.cell? ⟨g5, k * 2, none⟩ = some (.int .i64 l[k].1) := (X7.cell _).trans (by rw [List.getElem?_append_left (by rw [flat_length, tnS_len]; omega), ← hTk]; exact (flat_at _ k hTl).1)
          have hc1 : wr.cell? ⟨g5, k * 2 + 1, none⟩ = some (.int .i64 l[k].2) := (X7.cell _).trans (by rw [List.getElem?_append_left (by rw [flat_length, tnS_len]; omega), ← hTk]; exact (flat_at _ k hTl).2)
          have hn0 : ∀ x, x < nm.length → (ints nm ++ rest6)[x]? = some (.int .i64 (nm.getD x 0)) := fun x hx => by
            rw [List.getElem?_append_left (by rw [ints_length]; exact hx), ints_at nm x hx, List.getD_eq_getElem?_getD, List.getElem?_eq_getElem hx]; rfl
          have hgood := HGood.out k hlt
          have HIn := Lib.hid (show pin nm gn l k = (decide (nm.getD k 0 = gn) && decide (l[k].1 = 6)) by unfold pin gearK; rw [hget])
          have HY := Lib.hid (pup_yes (nm := nm) (gn := gn) hlt)
          have HN := Lib.hid (pup_no (nm := nm) (l := l) (gn := gn) (k := k))
          rw [hget] at HY
          have HSet := Lib.hid (fun y => flat_set (tnS l (pup nm gn l k)) k 6 y hTl rest5)
          have q0 : (flat (tnS l (pup nm gn l k)) ++ rest5)[k * 2]? = some (.int .i64 l[k].1) := by rw [List.getElem?_append_left (by rw [flat_length, tnS_len]; omega), ← hTk]; exact (flat_at _ k hTl).1
          have q1 : (flat (tnS l (pup nm gn l k)) ++ rest5)[k * 2 + 1]? = some (.int .i64 l[k].2) := by rw [List.getElem?_append_left (by rw [flat_length, tnS_len]; omega), ← hTk]; exact (flat_at _ k hTl).2
          clear hget hTk
          generalize l[k].1 = kd at *
          generalize l[k].2 = st at *
          go_upto_region 9 with (fail)
          have X9 : Whole (wr.alloc (.cells #[.int .i64 kd, .int .i64 st] 104)) wr.heap.size 104 [.int .i64 kd, .int .i64 st] := heap_alloc_new wr _
          have b9 : Below wr.heap.size wr (wr.alloc (.cells #[.int .i64 kd, .int .i64 st] 104)) := (Below.refl _ _).alloc (Nat.le_refl _) _
          have hsz := hgb.size
          have hg5r := X7.lt
          have hYw : w.heap.size < wr.heap.size := X0.lt
          replace X0 := X0.below b9 X0.lt
          replace X7 := X7.below b9 X7.lt
          replace X6 := X6.below b9 X6.lt
          replace hgb := gb_below hgb b9
          clear b9 hc0 hc1
          generalize wr.alloc (.cells #[.int .i64 kd, .int .i64 st] 104) = v9 at *
          generalize wr.heap.size = Y at *
          have y0 : v9.cell? ⟨Y, 0, none⟩ = some (.int .i64 kd) := (X9.cell 0).trans rfl
          have hnk : v9.cell? ⟨g6, k, none⟩ = some (.int .i64 (nm.getD k 0)) := (X6.cell k).trans (hn0 k (by have := HNm.out; omega))
          have hni : v9.cell? ⟨g6, i, none⟩ = some (.int .i64 gn) := by rw [← hgn]; exact (X6.cell i).trans (hn0 i (by have := HNm.out; omega))
          by_cases h66 : kd = 6
          · subst h66
            by_cases hnm2 : nm.getD k 0 = gn
            · have HE2 := Lib.hid (HY.out (by rw [HIn.out, decide_eq_true hnm2]; rfl))
              rw [hnm2] at hnk
              clear HY HN HIn hnm2 hn0
              have Q0 := Lib.hid q0
              have Q1 := Lib.hid q1
              clear q0 q1
              have hx0 := X0.lt
              have hx1 := X9.lt
              go_upto_region 9 with (fail)
              go_quiet (fail)
              have bq : Below v9.heap.size v9 (v9.drewN nq) := below_drewN (Below.refl _ _) _
              replace X0 := X0.below bq X0.lt
              replace X7 := X7.below bq X7.lt
              replace X6 := X6.below bq X6.lt
              replace hgb := gb_below hgb bq
              replace X9 := X9.below bq X9.lt
              replace y0 := (X9.cell 0).trans rfl
              clear hnk hni
              clear bq
              generalize v9.drewN nq = v9 at *
              replace hx0 := X0.lt
              replace hx1 := X9.lt
              go_upto_region 10 with (fail)
              have KS := Lib.hid (fun (w' : World) (h : Below v9.heap.size v9 w') => (⟨(h.cell (p := ⟨w.heap.size, 2, none⟩) hx0).trans ((X0.cell 2).trans rfl), (h.cell (p := ⟨Y, 0, none⟩) hx1).trans y0, (h.cell (p := ⟨Y, 1, none⟩) hx1).trans ((X9.cell 1).trans rfl)⟩ : w'.cell? ⟨w.heap.size, 2, none⟩ = some (.slice (some ⟨g5, 0, none⟩) l.length cap) ∧ w'.cell? ⟨Y, 0, none⟩ = some (.int .i64 6) ∧ w'.cell? ⟨Y, 1, none⟩ = some (.int .i64 st)))
              have KS2 := Lib.hid (fun (w' : World) (u u' : Value) (h : Below v9.heap.size v9 w') => (⟨(cell_two_far (j := k * 2) (j' := k * 2 + 1) (u := u) (u' := u') (show w.heap.size ≠ g5 by omega)).trans (KS.out w' h).1, (cell_two_far (j := k * 2) (j' := k * 2 + 1) (u := u) (u' := u') (show Y ≠ g5 by omega)).trans (KS.out w' h).2.1, (cell_two_far (j := k * 2) (j' := k * 2 + 1) (u := u) (u' := u') (show Y ≠ g5 by omega)).trans (KS.out w' h).2.2⟩ : ((w'.setCell ⟨g5, k * 2, none⟩ u).setCell ⟨g5, k * 2 + 1, none⟩ u').cell? ⟨w.heap.size, 2, none⟩ = some (.slice (some ⟨g5, 0, none⟩) l.length cap) ∧ ((w'.setCell ⟨g5, k * 2, none⟩ u).setCell ⟨g5, k * 2 + 1, none⟩ u').cell? ⟨Y, 0, none⟩ = some (.int .i64 6) ∧ ((w'.setCell ⟨g5, k * 2, none⟩ u).setCell ⟨g5, k * 2 + 1, none⟩ u').cell? ⟨Y, 1, none⟩ = some (.int .i64 st)))
              clear y0
              go_region_held3 (fun w' => w'.cell? ⟨w.heap.size, 2, none⟩ = some (.slice (some ⟨g5, 0, none⟩) l.length cap) ∧ w'.cell? ⟨Y, 0, none⟩ = some (.int .i64 6) ∧ w'.cell? ⟨Y, 1, none⟩ = some (.int .i64 st))
            (first | exact KS2.out w5 _ _ bb5 | exact KS.out _ (by (repeat' (first | (with_reducible exact Below.refl _ _) | (with_reducible assumption) | (with_reducible refine Below.alloc ?_ ?_ _) | (with_reducible refine Below.setCell ?_ ?_ _) | (with_reducible refine Below.drew ?_) | (with_reducible refine below_drewN ?_ _) | (with_reducible refine Below.trans ?_ (Below.mono (by assumption) ?_)) | go_size))) | fail)
            ((first | (go_at_call 96; (with_reducible refine (spec_paTurn 6 st hgood _).mono ?_); rintro e w5 ⟨rfl, b5⟩; have bb5 : Below v9.heap.size v9 w5 := (by (repeat' (first | (with_reducible exact Below.refl _ _) | (with_reducible assumption) | (with_reducible refine Below.alloc ?_ ?_ _) | (with_reducible refine Below.setCell ?_ ?_ _) | (with_reducible refine Below.drew ?_) | (with_reducible refine below_drewN ?_ _) | (with_reducible refine Below.trans ?_ (Below.mono (by assumption) ?_)) | go_size))); have X75 := X7.below bb5 X7.lt; have hq0 := (X75.cell (k * 2)).trans Q0.out; have hq1 := (X75.cell (k * 2 + 1)).trans Q1.out; have hf0 := X75.frozen (k * 2); have hf1 := X75.frozen (k * 2 + 1)) | fail))
              have X7' := (X75.set (k * 2) (.int .i64 6)).set (k * 2 + 1) (.int .i64 (1 - st))
              rw [HSet.out, HE2.out] at X7'
              have hgb' := gb_set2 (j := k * 2) (j' := k * 2 + 1) (u := .int .i64 6) (u' := .int .i64 (1 - st)) (gb_below hgb bb5)
              have X0' := (X0.below bb5 X0.lt).two_far (u := .int .i64 6) (u' := .int .i64 (1 - st)) (j := k * 2) (j' := k * 2 + 1) (show w.heap.size ≠ g5 by omega)
              have X6' := (X6.below bb5 X6.lt).two_far (u := .int .i64 6) (u' := .int .i64 (1 - st)) (j := k * 2) (j' := k * 2 + 1) hne65
              clear KS KS2 X0 X9 X6 X7 X75 hgb hq0 hq1 hf0 hf1 bb5 b5
              go_wp2
              go_roundw
              case rel => exact ⟨k + 1, by go_num, by omega, X0', X7', X6', hgb'⟩
              case measure => simp [intOf]; omega
            · have HE2 := Lib.hid (HN.out (by rw [HIn.out, decide_eq_false hnm2, Bool.false_and]))
              clear HY HN HIn hn0
              generalize nm.getD k 0 = nk at *
              go_upto_region 9 with (fail)
              go_quiet (fail)
              have bq : Below v9.heap.size v9 (v9.drewN nq) := below_drewN (Below.refl _ _) _
              replace X0 := X0.below bq X0.lt
              replace X7 := X7.below bq X7.lt
              replace X6 := X6.below bq X6.lt
              replace hgb := gb_below hgb bq
              clear y0 hnk hni X9
              clear bq
              generalize v9.drewN nq = v9 at *
              go_wp2
              go_roundw
              case rel => exact ⟨k + 1, by go_num, by omega, X0, by rw [HE2.out]; exact X7, X6, hgb⟩
              case measure => simp [intOf]; omega
          · have HE2 := Lib.hid (HN.out (by rw [HIn.out, decide_eq_false h66, Bool.and_false]))
            clear HY HN HIn hnk hni
            go_upto_region 9 with (fail)
            go_quiet (fail)
            have bq : Below v9.heap.size v9 (v9.drewN nq) := below_drewN (Below.refl _ _) _
            replace X0 := X0.below bq X0.lt
            replace X7 := X7.below bq X7.lt
            replace X6 := X6.below bq X6.lt
            replace hgb := gb_below hgb bq
            clear y0 X9
            clear bq
            generalize v9.drewN nq = v9 at *
            go_wp2
            go_roundw
            case rel => exact ⟨k + 1, by go_num, by omega, X0, by rw [HE2.out]; exact X7, X6, hgb⟩
            case measure => simp [intOf]; omega
        · obtain rfl : k = l.length := by omega
          rw [pup_all, ← HE.out] at X7
          go_wp2
          go_returns
          exact ⟨rfl, X7, hgb⟩
    · have HE := Lib.hid (show passL nm l i = l by unfold passL; rw [hget, if_neg h3, if_neg h6])
      generalize l[i].1 = kd at *
      go_wp2
      go_returns
      exact ⟨rfl, by rw [HE.out]; exact X7, hgb⟩
end Go.Proofs.Ytlambflmabecfaa
namespace Go.Proofs.Ytlambflmabecfaa
open Go.ChangeShapes Go.WideShapes Go.ChangeAt Go.RowKit Go.Joins Go.Deep
set_option linter.unusedSimpArgs false
set_option linter.unusedVariables false
set_option maxRecDepth 100000
set_option maxHeartbeats 4000000
structure FlR where
  e : Int
  row : Int
  col : Int
  cells : List (Int × Int)
  way : List (List Nat)
def flG (nm : List Int) (r c : Nat) : Nat → Nat → List (Int × Int) → Nat → Int → List (List Nat) → FlR
  | 0, _, l, col, _, way => ⟨1, r, col, l, way⟩
  | n + 1, row, l, col, side, way =>
    if (l.getD (row * c + col) (0, 0)).1 = 5 then ⟨2, row, col, l, way ++ [[row, col]]⟩
    else if 0 ≤ (col : Int) + goN (l.getD (row * c + col) (0, 0)).1 (l.getD (row * c + col) (0, 0)).2 side ∧ (col : Int) + goN (l.getD (row * c + col) (0, 0)).1 (l.getD (row * c + col) (0, 0)).2 side < c
      then flG nm r c n (row + 1) (passL nm l (row * c + col)) ((col : Int) + goN (l.getD (row * c + col) (0, 0)).1 (l.getD (row * c + col) (0, 0)).2 side).toNat (-goN (l.getD (row * c + col) (0, 0)).1 (l.getD (row * c + col) (0, 0)).2 side) (way ++ [[row, col]])
      else ⟨3, row, (col : Int) + goN (l.getD (row * c + col) (0, 0)).1 (l.getD (row * c + col) (0, 0)).2 side, passL nm l (row * c + col), way ++ [[row, col]]⟩
theorem goN_range {a b d : Int} (hg : good a b = true) (h1 : -1 ≤ d) (h2 : d ≤ 1) : -1 ≤ goN a b d ∧ goN a b d ≤ 1 := by
  have h3 : 0 ≤ b ∧ b ≤ 1 := by unfold good at hg; simp at hg; omega
  unfold goN
  split
  · omega
  · split
    · omega
    · split
      · omega
      · split
        · omega
        · omega
theorem good_turned {a b : Int} (hg : good a b = true) (h : a = 3 ∨ a = 6) : good a (1 - b) = true := by
  unfold good at *
  simp at *
  omega
theorem passL_good {nm : List Int} {l : List (Int × Int)} {i : Nat} (hi : i < l.length) (h : ∀ x ∈ l, good x.1 x.2 = true) : ∀ x ∈ passL nm l i, good x.1 x.2 = true := by
  have hget : ∀ j, j < l.length → l.getD j (0, 0) ∈ l := fun j hj => by
    rw [List.getD_eq_getElem?_getD, List.getElem?_eq_getElem hj]
    exact List.getElem_mem hj
  intro x hx
  unfold passL at hx
  split at hx
  · next h3 =>
    rcases List.mem_or_eq_of_mem_set hx with h1 | rfl
    · exact h x h1
    · exact good_turned (h _ (hget i hi)) (.inl h3)
  · split at hx
    · next h6 =>
      unfold tnS at hx
      obtain ⟨j, hj, rfl⟩ := List.mem_map.1 hx
      have hj' := List.mem_range.1 hj
      split
      · next hp =>
        unfold pin gearK at hp
        simp only [Bool.and_eq_true, decide_eq_true_eq] at hp
        exact good_turned (h _ (hget j hj')) (.inr hp.2)
      · exact h _ (hget j hj')
    · exact h x hx
theorem Own.apart {w w' : World} {A : Option Addr} {t t' : TypeId} {xs ys : List Value} {g : Nat} (h : Own w A t xs) (hw : Whole w g t' ys) (hne : t ≠ t') (hg : w.grownBy w' (some g)) : Own w' A t xs := fun hx => by
  obtain ⟨k, rest, e, h1⟩ := h hx
  refine ⟨k, rest, e, h1.grown hg (fun e' => ?_)⟩
  cases e'
  unfold Whole at h1 hw
  rw [hw] at h1
  injection h1 with h1
  injection h1 with _ ht
  exact hne ht.symm
theorem LRow.apart {w w' : World} {base g : Nat} {v : Value} {L : List (List Nat)} {t : TypeId} {ys : List Value} (h : LRow w base v L) (hw : Whole w g t ys) (h1 : 47 ≠ t) (h2 : 3 ≠ t) (hg : w.grownBy w' (some g)) : LRow w' base v L := by
  obtain ⟨hs, q1, q2, q3⟩ := h
  refine ⟨hs, q1, World.ownsRow.kept q2 hg (.inr fun e => row_apart q2 hw h1 e.symm), fun k hk => ?_⟩
  obtain ⟨A, cap, e, ho, hb⟩ := q3 k hk
  exact ⟨A, cap, e, ho.apart hw h2 hg, hb⟩
theorem LRow.set_ {w : World} {base g j : Nat} {v u : Value} {L : List (List Nat)} {t : TypeId} {ys : List Value} (h : LRow w base v L) (hw : Whole w g t ys) (h1 : 47 ≠ t) (h2 : 3 ≠ t) : LRow (w.setCell ⟨g, j, none⟩ u) base v L := by
  refine h.apart hw h1 h2 ⟨rfl, rfl, rfl, by rw [World.size_setCell]; exact Nat.le_refl _, fun k _ hne => Below.heap_setCell _ _ _ _ (fun e => hne (by rw [e]))⟩
theorem six_whole {w : World} {a b g : Nat} {t : TypeId} {xs : List Value} {u0 u1 u2 y0 y1 y2 : Value} (h : Whole w g t xs) (ha : a ≠ g) (hb : b ≠ g) : Whole (((((((w.setCell ⟨a, 0, none⟩ u0).setCell ⟨a, 1, none⟩ u1).setCell ⟨a, 2, none⟩ u2).setCell ⟨b, 0, none⟩ y0).setCell ⟨b, 1, none⟩ y1).setCell ⟨b, 2, none⟩ y2).drew) g t xs := by
  have h1 := h.set_far ⟨a, 0, none⟩ u0 ha
  have h2 := h1.set_far ⟨a, 1, none⟩ u1 ha
  have h3 := h2.set_far ⟨a, 2, none⟩ u2 ha
  have h4 := h3.set_far ⟨b, 0, none⟩ y0 hb
  have h5 := h4.set_far ⟨b, 1, none⟩ y1 hb
  have h6 := h5.set_far ⟨b, 2, none⟩ y2 hb
  exact h6.below ((Below.refl _ _).drew) h6.lt
theorem six_below {B : Nat} {w0 w : World} {a b : Nat} {u0 u1 u2 y0 y1 y2 : Value} (h : Below B w0 w) (ha : B ≤ a) (hb : B ≤ b) : Below B w0 (((((((w.setCell ⟨a, 0, none⟩ u0).setCell ⟨a, 1, none⟩ u1).setCell ⟨a, 2, none⟩ u2).setCell ⟨b, 0, none⟩ y0).setCell ⟨b, 1, none⟩ y1).setCell ⟨b, 2, none⟩ y2).drew) :=
  ((((((h.setCell (p := ⟨a, 0, none⟩) ha u0).setCell (p := ⟨a, 1, none⟩) ha u1).setCell (p := ⟨a, 2, none⟩) ha u2).setCell (p := ⟨b, 0, none⟩) hb y0).setCell (p := ⟨b, 1, none⟩) hb y1).setCell (p := ⟨b, 2, none⟩) hb y2).drew
theorem three_lrow {w : World} {base a : Nat} {v : Value} {L : List (List Nat)} {t : TypeId} {p q s : Value} {u0 u1 u2 : Value} (h : LRow w base v L) (hw : Whole w a t [p, q, s]) (h1 : 47 ≠ t) (h2 : 3 ≠ t) : LRow (((w.setCell ⟨a, 0, none⟩ u0).setCell ⟨a, 1, none⟩ u1).setCell ⟨a, 2, none⟩ u2) base v L :=
  ((h.set_ hw h1 h2).set_ (hw.set 0 u0) h1 h2).set_ ((hw.set 0 u0).set 1 u1) h1 h2
theorem six_lrow {w : World} {base a b : Nat} {v : Value} {L : List (List Nat)} {p q s p' q' s' : Value} {u0 u1 u2 y0 y1 y2 : Value} (h : LRow w base v L) (hw : Whole w a 59 [p, q, s]) (hw' : Whole w b 39 [p', q', s']) (hne : a ≠ b) : LRow (((((((w.setCell ⟨a, 0, none⟩ u0).setCell ⟨a, 1, none⟩ u1).setCell ⟨a, 2, none⟩ u2).setCell ⟨b, 0, none⟩ y0).setCell ⟨b, 1, none⟩ y1).setCell ⟨b, 2, none⟩ y2).drew) base v L := by
  have h1 := three_lrow (u0 := u0) (u1 := u1) (u2 := u2) h hw (by decide) (by decide)
  have h2 : Whole (((w.setCell ⟨a, 0, none⟩ u0).setCell ⟨a, 1, none⟩ u1).setCell ⟨a, 2, none⟩ u2) b 39 [p', q', s'] := ((hw'.set_far ⟨a, 0, none⟩ u0 hne).set_far ⟨a, 1, none⟩ u1 hne).set_far ⟨a, 2, none⟩ u2 hne
  exact (three_lrow (u0 := y0) (u1 := y1) (u2 := y2) h1 h2 (by decide) (by decide)).keep ((Below.refl _ _).drew)
theorem flG_step (nm : List Int) (r c n row : Nat) (l : List (Int × Int)) (col : Nat) (side : Int) (way : List (List Nat)) (kd st : Int) (h1 : (l.getD (row * c + col) (0, 0)).1 = kd) (h2 : (l.getD (row * c + col) (0, 0)).2 = st) :
    flG nm r c (n + 1) row l col side way = if kd = 5 then ⟨2, row, col, l, way ++ [[row, col]]⟩
      else if 0 ≤ (col : Int) + goN kd st side ∧ (col : Int) + goN kd st side < c then flG nm r c n (row + 1) (passL nm l (row * c + col)) ((col : Int) + goN kd st side).toNat (-goN kd st side) (way ++ [[row, col]])
      else ⟨3, row, (col : Int) + goN kd st side, passL nm l (row * c + col), way ++ [[row, col]]⟩ := by
  subst h1 h2
  rfl
theorem spec_flGo (r c b o cap g6 c6 : Nat) (l : List (Int × Int)) (nm : List Int) (rest6 : List Value) (col : Nat) (w : World) (hG : Geo r c l.length) (hgd : goodB (r : Int) (c : Int) l = true) (hr : Rd w w.heap.size (some ⟨b, o, none⟩) (flat l)) (hnm : nm.length = l.length)
    (X6 : Whole w g6 3 (ints nm ++ rest6)) (hcol : col < c) :
    Calls Try.prog 81 #[.agg #[.int .i64 (r : Int), .int .i64 (c : Int), .slice (some ⟨b, o, none⟩) l.length cap], .slice (some ⟨g6, 0, none⟩) nm.length c6, .int .i64 (col : Int)] w
      fun e w' => ∃ A5 c5 v, e = .returned (.tuple #[.agg #[.int .i64 (flG nm r c r 0 l col 0 []).e, .int .i64 (flG nm r c r 0 l col 0 []).row, .int .i64 (flG nm r c r 0 l col 0 []).col], .agg #[.int .i64 (r : Int), .int .i64 (c : Int), .slice A5 l.length c5], v]) ∧
        Own w' A5 104 (flat (flG nm r c r 0 l col 0 []).cells) ∧ New w A5 ∧ LRow w' w.heap.size v (flG nm r c r 0 l col 0 []).way ∧ Below w.heap.size w w' := by
  obtain ⟨s1, s2, s3, s4⟩ := sizeB_iff.1 (goodB_iff.1 hgd).1
  have hpos := (goodB_parts hgd).2.2
  have hlrc : (l.length : Int) = (r : Int) * (c : Int) := (goodB_iff.1 hgd).2.1
  have hgd2 := (goodB_iff.1 hgd).2.2
  have n90 := hG.n90
  have HRC := Lib.hid hG.cells
  have HLRC := Lib.hid hlrc
  clear hlrc
  obtain ⟨b', o', e0, hbl, hc⟩ := hr (by rw [flat_length]; omega)
  cases e0
  rewrite [hnm]
  have HNm := Lib.hid hnm
  clear hnm
  go_enter Try.func81, Try.ntmps81
  obtain ⟨v0, hv0, X0, X1, X2, B0, hz0⟩ := three_boxes w [.int .i64 (r : Int), .int .i64 (c : Int), .slice (some ⟨b, o, none⟩) l.length cap] 39 [.int .i64 0, .int .i64 0, .int .i64 0] 59 [.int .i64 0, .int .i64 0, .slice none 0 0] 39; have HV := Lib.hid hv0; have hx : w.heap.size + 1 + 1 < v0.heap.size := (by omega); have hz : w.heap.size + 1 < v0.heap.size := (by omega); have hy : w.heap.size < v0.heap.size := (by omega); have hb0 := B0.size; clear hv0 hz0; go_wp2_with fail; rewrite [show ((w.alloc (.cells ([.int .i64 (r : Int), .int .i64 (c : Int), .slice (some ⟨b, o, none⟩) l.length cap] : List Value).toArray 39)).alloc (.cells ([.int .i64 0, .int .i64 0, .int .i64 0] : List Value).toArray 59)).alloc (.cells ([.int .i64 0, .int .i64 0, .slice none 0 0] : List Value).toArray 39) = v0 from HV.out]; clear HV
  refine (spec_boOwn _ _ b o cap l _ hpos (by omega) ((hr.below B0).mono B0.size)).mono ?_
  rintro e w1 ⟨A5, c5, rfl, o5, n5, b1⟩
  have X6' := X6.below B0 X6.lt
  have hg6 := X6.lt
  replace X6 := X6'.below b1 X6'.lt
  clear X6'
  replace X0 := X0.below b1 X0.lt; replace X1 := X1.below b1 X1.lt; replace X2 := X2.below b1 X2.lt; replace B0 := B0.trans (b1.mono B0.size); have hy := X0.lt; have hz := X1.lt; have hx := X2.lt; have hb0 := B0.size; clear b1
  obtain ⟨g5, rest5, rfl, X7⟩ := o5 (by rw [flat_length]; omega)
  have h5 : w.heap.size + 1 + 1 < g5 := by have := n5 _ rfl; show _ < (⟨g5, 0, none⟩ : Addr).block; omega
  clear o5 n5
  go_upto_region 2 with (fail)
  have X9 : Whole (w1.alloc (.cells #[.int .i64 (r : Int), .int .i64 (c : Int), .slice (some ⟨g5, 0, none⟩) l.length c5] 39)) w1.heap.size 39 [.int .i64 (r : Int), .int .i64 (c : Int), .slice (some ⟨g5, 0, none⟩) l.length c5] := heap_alloc_new w1 _
  have b2 : Below w1.heap.size w1 (w1.alloc (.cells #[.int .i64 (r : Int), .int .i64 (c : Int), .slice (some ⟨g5, 0, none⟩) l.length c5] 39)) := (Below.refl _ _).alloc (Nat.le_refl _) _
  have hG9 : w.heap.size + 1 + 1 < w1.heap.size := hx
  have hg5l := X7.lt
  replace X7 := X7.below b2 X7.lt
  replace X6 := X6.below b2 X6.lt
  replace X0 := X0.below b2 X0.lt; replace X1 := X1.below b2 X1.lt; replace X2 := X2.below b2 X2.lt; replace B0 := B0.trans (b2.mono B0.size); have hy := X0.lt; have hz := X1.lt; have hx := X2.lt; have hb0 := B0.size; clear b2
  generalize w1.alloc (.cells #[.int .i64 (r : Int), .int .i64 (c : Int), .slice (some ⟨g5, 0, none⟩) l.length c5] 39) = w2 at *
  have hg59 : g5 ≠ w1.heap.size := by omega
  generalize w1.heap.size = G at *
  go_wp2
  obtain ⟨F, hF⟩ : ∃ F, flG nm r c r 0 l col 0 [] = F := ⟨_, rfl⟩
  have hF0 : flG nm r c (r - 0) 0 l col 0 [] = F := hF
  have HFq := Lib.hid hF
  clear hF hc hr hgd
  go_loopw [2, 10, 11, 12] (fun cv wv sv rv wr => ∃ (k cl : Nat) (d : Int) (lk : List (Int × Int)) (wy : List (List Nat)), rv = .int .i64 k ∧ cv = .int .i64 cl ∧ sv = .int .i64 d ∧ k ≤ r ∧ cl < c ∧ -1 ≤ d ∧ d ≤ 1 ∧ lk.length = l.length ∧ (∀ x ∈ lk, good x.1 x.2 = true) ∧ wy.length = k ∧ flG nm r c (r - k) k lk cl d wy = F ∧
    Whole wr w.heap.size 39 [.int .i64 (r : Int), .int .i64 (c : Int), .slice (some ⟨b, o, none⟩) l.length cap] ∧ Whole wr (w.heap.size + 1) 59 [.int .i64 0, .int .i64 0, .int .i64 0] ∧ Whole wr (w.heap.size + 1 + 1) 39 [.int .i64 0, .int .i64 0, .slice none 0 0] ∧
    Whole wr G 39 [.int .i64 (r : Int), .int .i64 (c : Int), .slice (some ⟨g5, 0, none⟩) l.length c5] ∧ Whole wr g5 104 (flat lk ++ rest5) ∧ Whole wr g6 3 (ints nm ++ rest6) ∧ LRow wr w.heap.size wv wy ∧ Below w.heap.size w wr) (fun _ _ _ rv _ => r - (intOf rv).toNat)
  case atStart => exact ⟨0, col, 0, l, [], rfl, rfl, rfl, Nat.zero_le _, hcol, by omega, by omega, rfl, hgd2, rfl, hF0, X0, X1, X2, X9, X7, X6, LRow.nil, B0⟩
  case round =>
    clear X0 X1 X2 X9 X7 X6 B0 hx hz hy hb0 hF0 hgd2 hcol
    obtain ⟨k, cl, d, lk, wy, rfl, rfl, rfl, hk, hcl, hd1, hd2, hlk, hgk, hwy, hF, X0, X1, X2, X9, X7, X6, hL, B0⟩ := hrel
    have hs := B0.size
    by_cases hlt : k < r
    · have hidx : k * c + cl < l.length := by
        have h1 := Nat.mul_le_mul (show k + 1 ≤ r by omega) (Nat.le_refl c)
        rw [Nat.succ_mul] at h1
        have := HRC.out
        omega
      have hgB : goodB (r : Int) (c : Int) lk = true := goodB_iff.2 ⟨sizeB_iff.2 ⟨s1, s2, s3, s4⟩, by rw [hlk]; exact HLRC.out, hgk⟩
      obtain ⟨hs0, hq1, hrow0, hq3⟩ := hL
      have a0 := row_apart hrow0 X0 (by decide)
      have a1 := row_apart hrow0 X1 (by decide)
      have a2 := row_apart hrow0 X2 (by decide)
      have a9 := row_apart hrow0 X9 (by decide)
      have a7 := row_apart hrow0 X7 (by decide)
      have a6 := row_apart hrow0 X6 (by decide)
      have hL : LRow wr w.heap.size u10 wy := ⟨hs0, hq1, hrow0, hq3⟩
      clear hrow0 hq3 hq1
      have X0k0 : wr.cell? ⟨w.heap.size, 0, none⟩ = some (.int .i64 (r : Int)) := (X0.cell 0).trans rfl; have X0k1 : wr.cell? ⟨w.heap.size, 1, none⟩ = some (.int .i64 (c : Int)) := (X0.cell 1).trans rfl; have X0k2 : wr.cell? ⟨w.heap.size, 2, none⟩ = some (.slice (some ⟨b, o, none⟩) l.length cap) := (X0.cell 2).trans rfl
      go_upto_region 8 with (first | (at_builtin; go_loud (generalize hq : wr.alloc (.cells #[.int .i64 (k : Int), .int .i64 (cl : Int)] 3) = wq; have hqs : wr.heap.size + 1 = wq.heap.size := (by rw [← hq, World.size_alloc]); rewrite [hqs]; have bq : Below wr.heap.size wr wq := (by rw [← hq]; exact (Below.refl _ _).alloc (Nat.le_refl _) _); have xq : Whole wq wr.heap.size 3 (ints (nI [k, cl])) := (by rw [← hq]; exact heap_alloc_new wr _); refine wpList_pushL (x := [k, cl]) (A0 := some ⟨wr.heap.size, 0, none⟩) (cap0 := 2) (hL.keep bq) (by omega) (by omega) (xq.own) (fun a ha => by cases ha; exact hs) rfl _ _ rfl rfl rfl ?_; intro v3 w3 hL3 hg3 hb3 hv3)) | fail)
      have hg3' : ∀ {g : Nat} {t : TypeId} {xs : List Value}, Whole wr g t xs → some g ≠ u10.ownBlock → Whole w3 g t xs := fun hw hne => ((hw.below bq hw.lt).alloc _).grown hg3 hne
      clear X0k0 X0k1 X0k2
      replace X0 := hg3' X0 a0
      replace X1 := hg3' X1 a1
      replace X2 := hg3' X2 a2
      replace X9 := hg3' X9 a9
      replace X7 := hg3' X7 a7
      replace X6 := hg3' X6 a6
      replace B0 := B0.trans ((bq.mono hs).trans hb3)
      replace hs := B0.size
      have hwl : (wy ++ [[k, cl]]).length = k + 1 := by rw [List.length_append, hwy]; rfl
      have HF := Lib.hid hF
      have HW := Lib.hid hwy
      clear hg3' hg3 hb3 hv3 hL a0 a1 a2 a9 a7 a6 bq xq hq hqs hF hwy
      have hin : inB (r : Int) (c : Int) (k : Int) (cl : Int) = true := inB_iff.2 (by omega)
      have hat : atI (c : Int) (k : Int) (cl : Int) = k * c + cl := by
        unfold atI
        have : (k : Int) * (c : Int) + (cl : Int) = ((k * c + cl : Nat) : Int) := by push_cast; rfl
        rw [this, Int.toNat_natCast]
      have hrd : Rd w3 w3.heap.size (some ⟨g5, 0, none⟩) (flat lk) := fun _ => ⟨g5, 0, rfl, X7.lt, fun j u hu => by rw [Nat.zero_add, X7.cell j, List.getElem?_append_left (Array.getElem?_eq_some_iff.1 (by simpa using hu)).1]; exact hu⟩
      have HA := spec_boAt (r : Int) (c : Int) (some ⟨g5, 0, none⟩) c5 lk (k : Int) (cl : Int) w3 hgB hin hrd
      rw [hlk, hat] at HA
      have hxg : good (lk.getD (k * c + cl) (0, 0)).1 (lk.getD (k * c + cl) (0, 0)).2 = true := by
        rw [List.getD_eq_getElem?_getD, List.getElem?_eq_getElem (by omega)]
        exact hgk _ (List.getElem_mem _)
      have HSt := Lib.hid (flG_step nm r c (r - k - 1) k lk cl d wy _ _ rfl rfl)
      have er : r - k = r - k - 1 + 1 := by omega
      rw [er] at HF
      generalize (lk.getD (k * c + cl) (0, 0)).1 = kd at *
      generalize (lk.getD (k * c + cl) (0, 0)).2 = st at *
      have HFS := Lib.hid (HSt.out.symm.trans HF.out)
      clear HSt HF er
      have X9k0 : w3.cell? ⟨G, 0, none⟩ = some (.int .i64 (r : Int)) := (X9.cell 0).trans rfl; have X9k1 : w3.cell? ⟨G, 1, none⟩ = some (.int .i64 (c : Int)) := (X9.cell 1).trans rfl; have X9k2 : w3.cell? ⟨G, 2, none⟩ = some (.slice (some ⟨g5, 0, none⟩) l.length c5) := (X9.cell 2).trans rfl
      go_wp2_with fail
      refine HA.mono ?_; rintro e w4 ⟨rfl, b4⟩
      clear HA hrd hin hat
      clear X9k0 X9k1 X9k2
      replace X0 := X0.below b4 X0.lt; replace X1 := X1.below b4 X1.lt; replace X2 := X2.below b4 X2.lt; replace X9 := X9.below b4 X9.lt; replace X7 := X7.below b4 X7.lt; replace X6 := X6.below b4 X6.lt; replace hL3 := hL3.keep b4; replace B0 := B0.trans (b4.mono hs); replace hs := B0.size; clear b4
      have hs4 := hs
      go_upto_region 9 with (fail)
      have XX : Whole (w4.alloc (.cells #[.int .i64 kd, .int .i64 st] 104)) w4.heap.size 104 [.int .i64 kd, .int .i64 st] := heap_alloc_new w4 _
      have b5 : Below w4.heap.size w4 (w4.alloc (.cells #[.int .i64 kd, .int .i64 st] 104)) := (Below.refl _ _).alloc (Nat.le_refl _) _
      have h5Q : g5 < w4.heap.size := X7.lt
      have hGQ : G < w4.heap.size := X9.lt
      replace X0 := X0.below b5 X0.lt; replace X1 := X1.below b5 X1.lt; replace X2 := X2.below b5 X2.lt; replace X9 := X9.below b5 X9.lt; replace X7 := X7.below b5 X7.lt; replace X6 := X6.below b5 X6.lt; replace hL3 := hL3.keep b5; replace B0 := B0.trans (b5.mono hs); replace hs := B0.size; clear b5
      generalize w4.alloc (.cells #[.int .i64 kd, .int .i64 st] 104) = w5 at *
      generalize w4.heap.size = Q at *
      have y0 : w5.cell? ⟨Q, 0, none⟩ = some (.int .i64 kd) := (XX.cell 0).trans rfl
      by_cases h5k : kd = 5
      · have HF := HFS.out
        rw [if_pos h5k] at HF
        have HEq := Lib.hid (HFq.out.trans HF.symm)
        clear HF HFS
        subst h5k
        have X9k0 : w5.cell? ⟨G, 0, none⟩ = some (.int .i64 (r : Int)) := (X9.cell 0).trans rfl; have X9k1 : w5.cell? ⟨G, 1, none⟩ = some (.int .i64 (c : Int)) := (X9.cell 1).trans rfl; have X9k2 : w5.cell? ⟨G, 2, none⟩ = some (.slice (some ⟨g5, 0, none⟩) l.length c5) := (X9.cell 2).trans rfl
        have X1k0 : w5.cell? ⟨w.heap.size + 1, 0, none⟩ = some (.int .i64 0) := (X1.cell 0).trans rfl; have X1k1 : w5.cell? ⟨w.heap.size + 1, 1, none⟩ = some (.int .i64 0) := (X1.cell 1).trans rfl; have X1k2 : w5.cell? ⟨w.heap.size + 1, 2, none⟩ = some (.int .i64 0) := (X1.cell 2).trans rfl
        have X1f0 := X1.frozen 0; have X1f1 := X1.frozen 1; have X1f2 := X1.frozen 2
        have X2k0 : w5.cell? ⟨w.heap.size + 1 + 1, 0, none⟩ = some (.int .i64 0) := (X2.cell 0).trans rfl; have X2k1 : w5.cell? ⟨w.heap.size + 1 + 1, 1, none⟩ = some (.int .i64 0) := (X2.cell 1).trans rfl; have X2k2 : w5.cell? ⟨w.heap.size + 1 + 1, 2, none⟩ = some (.slice none 0 0) := (X2.cell 2).trans rfl
        have X2f0 := X2.frozen 0; have X2f1 := X2.frozen 1; have X2f2 := X2.frozen 2
        have z1 := X1.lt
        have z2 := X2.lt
        have z9 := X9.lt
        go_upto_region 10 with (fail)
        clear y0
        go_region
        go_wp2; (refine bodyPost_ret (v := .tuple #[.agg #[.int .i64 2, .int .i64 (k : Int), .int .i64 (cl : Int)], .agg #[.int .i64 (r : Int), .int .i64 (c : Int), .slice (some ⟨g5, 0, none⟩) l.length c5], v3]) ?_ rfl ?_); (focus (simp [results, Try.results81, go_sem, *]; done)); rewrite [HEq.out]; exact ⟨some ⟨g5, 0, none⟩, c5, v3, rfl, fun _ => ⟨g5, rest5, rfl, six_whole X7 (by omega) (by omega)⟩, fun a ha => by cases ha; show w.heap.size ≤ g5; omega, six_lrow hL3 X1 X2 (by omega), six_below B0 (by omega) (by omega)⟩
      · rw [if_neg h5k] at HFS
        obtain ⟨hg1, hg2⟩ := goN_range hxg hd1 hd2
        have m1 : IntKind.i64.wrap ((k : Int) * (c : Int)) = (k : Int) * (c : Int) := by
          have e : (k : Int) * (c : Int) = ((k * c : Nat) : Int) := by push_cast; rfl
          rw [e]; exact IntWalk.i64_in _ (by omega)
        have m2 : IntKind.i64.wrap ((k : Int) * (c : Int) + (cl : Int)) = ((k * c + cl : Nat) : Int) := by
          have e : (k : Int) * (c : Int) + (cl : Int) = ((k * c + cl : Nat) : Int) := by push_cast; rfl
          rw [e]; exact IntWalk.i64_in _ (by omega)
        have HG1 := Lib.hid (spec_paGoes kd st d hxg hd1 hd2)
        generalize goN kd st d = gs at *
        have m3 : IntKind.i64.wrap ((cl : Int) + gs) = (cl : Int) + gs := IntWalk.i64_in _ (by omega)
        have m4 : IntKind.i64.wrap (-gs) = -gs := IntWalk.i64_in _ (by omega)
        have m5 : IntKind.i64.wrap ((c : Int) - 1) = (c : Int) - 1 := IntWalk.i64_in _ (by omega)
        have HPg := Lib.hid (passL_good (nm := nm) (show k * c + cl < lk.length by omega) hgk)
        have HPl := Lib.hid (passL_len nm lk (k * c + cl))
        have hxQ := XX.lt
        have y1 := (XX.cell 1).trans rfl
        go_wp2_with fail
        refine (HG1.out _).mono ?_; rintro e w6 ⟨rfl, b6⟩
        replace X0 := X0.below b6 X0.lt; replace X1 := X1.below b6 X1.lt; replace X2 := X2.below b6 X2.lt; replace X9 := X9.below b6 X9.lt; replace X7 := X7.below b6 X7.lt; replace X6 := X6.below b6 X6.lt; replace hL3 := hL3.keep b6; replace B0 := B0.trans (b6.mono hs); replace hs := B0.size; clear b6
        clear y0 y1 HG1
        have X9k0 : w6.cell? ⟨G, 0, none⟩ = some (.int .i64 (r : Int)) := (X9.cell 0).trans rfl; have X9k1 : w6.cell? ⟨G, 1, none⟩ = some (.int .i64 (c : Int)) := (X9.cell 1).trans rfl; have X9k2 : w6.cell? ⟨G, 2, none⟩ = some (.slice (some ⟨g5, 0, none⟩) l.length c5) := (X9.cell 2).trans rfl
        have X0k0 : w6.cell? ⟨w.heap.size, 0, none⟩ = some (.int .i64 (r : Int)) := (X0.cell 0).trans rfl; have X0k1 : w6.cell? ⟨w.heap.size, 1, none⟩ = some (.int .i64 (c : Int)) := (X0.cell 1).trans rfl; have X0k2 : w6.cell? ⟨w.heap.size, 2, none⟩ = some (.slice (some ⟨b, o, none⟩) l.length cap) := (X0.cell 2).trans rfl
        have HQ := spec_flPass (r : Int) (c : Int) g5 c5 g6 c6 lk nm rest5 rest6 (k * c + cl) w6 (by omega) (by omega) (by rw [HNm.out, hlk]) hgk X7 X6
        rw [hlk, HNm.out] at HQ
        generalize hidxe : k * c + cl = ix at *
        go_wp2_with fail
        refine HQ.mono ?_; rintro e w7 ⟨rfl, X7', gb⟩
        clear X9k0 X9k1 X9k2
        clear X0k0 X0k1 X0k2
        have n5 : ∀ {g : Nat}, g ≠ g5 → some g ≠ some g5 := fun h e => h (by injection e)
        replace X0 := X0.grown gb (n5 (by omega))
        replace X1 := X1.grown gb (n5 (by omega))
        replace X2 := X2.grown gb (n5 (by omega))
        replace X9 := X9.grown gb (n5 (by omega))
        replace X6 := X6.grown gb (n5 (by omega))
        replace hL3 := hL3.apart X7 (by decide) (by decide) gb
        replace B0 := B0.grown gb hs (fun k e => by cases e; omega)
        replace hs := B0.size
        replace X7 := X7'
        clear gb X7' HQ n5 XX m1 m2
        by_cases hin2 : 0 ≤ (cl : Int) + gs ∧ (cl : Int) + gs < (c : Int)
        · have HF := HFS.out
          rw [if_pos hin2] at HF
          have hb1 : (decide (0 ≤ (cl : Int) + gs) && decide ((cl : Int) + gs ≤ (c : Int) - 1)) = true := by rw [decide_eq_true hin2.1, decide_eq_true (by omega)]; rfl
          have HB := Lib.hid hb1
          have hnx : ((cl : Int) + gs) = ((((cl : Int) + gs).toNat : Nat) : Int) := by omega
          have HNx := Lib.hid hnx
          have hF' : flG nm r c (r - (k + 1)) (k + 1) (passL nm lk ix) ((cl : Int) + gs).toNat (-gs) (wy ++ [[k, cl]]) = F := by rw [show r - (k + 1) = r - k - 1 by omega]; exact HF
          have HF' := Lib.hid hF'
          clear hb1 hnx HFS hF' HF
          have X0k0 : w7.cell? ⟨w.heap.size, 0, none⟩ = some (.int .i64 (r : Int)) := (X0.cell 0).trans rfl; have X0k1 : w7.cell? ⟨w.heap.size, 1, none⟩ = some (.int .i64 (c : Int)) := (X0.cell 1).trans rfl; have X0k2 : w7.cell? ⟨w.heap.size, 2, none⟩ = some (.slice (some ⟨b, o, none⟩) l.length cap) := (X0.cell 2).trans rfl
          go_wp2_with fail
          refine (spec_l1In _ _ _ _).mono ?_; rintro e w8 ⟨rfl, rfl⟩
          rewrite [HB.out]
          clear X0k0 X0k1 X0k2
          go_wp2
          go_roundw
          case rel => exact ⟨k + 1, ((cl : Int) + gs).toNat, -gs, passL nm lk ix, wy ++ [[k, cl]], by go_num, by rw [← HNx.out], rfl, by omega, by omega, by omega, by omega, by rw [HPl.out, hlk], HPg.out, hwl, HF'.out, X0, X1, X2, X9, X7, X6, hL3, B0⟩
          case measure => simp [intOf]; omega
        · have HF := HFS.out
          rw [if_neg hin2] at HF
          have HEq := Lib.hid (HFq.out.trans HF.symm)
          have hb1 : (decide (0 ≤ (cl : Int) + gs) && decide ((cl : Int) + gs ≤ (c : Int) - 1)) = false := by
            rw [Bool.eq_false_iff]; intro h; rw [Bool.and_eq_true, decide_eq_true_eq, decide_eq_true_eq] at h; exact hin2 ⟨h.1, by omega⟩
          have HB := Lib.hid hb1
          clear hb1 HF HFS hin2
          have X0k0 : w7.cell? ⟨w.heap.size, 0, none⟩ = some (.int .i64 (r : Int)) := (X0.cell 0).trans rfl; have X0k1 : w7.cell? ⟨w.heap.size, 1, none⟩ = some (.int .i64 (c : Int)) := (X0.cell 1).trans rfl; have X0k2 : w7.cell? ⟨w.heap.size, 2, none⟩ = some (.slice (some ⟨b, o, none⟩) l.length cap) := (X0.cell 2).trans rfl
          go_wp2_with fail
          refine (spec_l1In _ _ _ _).mono ?_; rintro e w8 ⟨rfl, rfl⟩
          rewrite [HB.out]
          clear X0k0 X0k1 X0k2
          have X9k0 : w7.cell? ⟨G, 0, none⟩ = some (.int .i64 (r : Int)) := (X9.cell 0).trans rfl; have X9k1 : w7.cell? ⟨G, 1, none⟩ = some (.int .i64 (c : Int)) := (X9.cell 1).trans rfl; have X9k2 : w7.cell? ⟨G, 2, none⟩ = some (.slice (some ⟨g5, 0, none⟩) l.length c5) := (X9.cell 2).trans rfl
          have X1k0 : w7.cell? ⟨w.heap.size + 1, 0, none⟩ = some (.int .i64 0) := (X1.cell 0).trans rfl; have X1k1 : w7.cell? ⟨w.heap.size + 1, 1, none⟩ = some (.int .i64 0) := (X1.cell 1).trans rfl; have X1k2 : w7.cell? ⟨w.heap.size + 1, 2, none⟩ = some (.int .i64 0) := (X1.cell 2).trans rfl
          have X1f0 := X1.frozen 0; have X1f1 := X1.frozen 1; have X1f2 := X1.frozen 2
          have X2k0 : w7.cell? ⟨w.heap.size + 1 + 1, 0, none⟩ = some (.int .i64 0) := (X2.cell 0).trans rfl; have X2k1 : w7.cell? ⟨w.heap.size + 1 + 1, 1, none⟩ = some (.int .i64 0) := (X2.cell 1).trans rfl; have X2k2 : w7.cell? ⟨w.heap.size + 1 + 1, 2, none⟩ = some (.slice none 0 0) := (X2.cell 2).trans rfl
          have X2f0 := X2.frozen 0; have X2f1 := X2.frozen 1; have X2f2 := X2.frozen 2
          have z1 := X1.lt
          have z2 := X2.lt
          have z9 := X9.lt
          go_upto_region 16 with (fail)
          go_region
          go_wp2; (refine bodyPost_ret (v := .tuple #[.agg #[.int .i64 3, .int .i64 (k : Int), .int .i64 ((cl : Int) + gs)], .agg #[.int .i64 (r : Int), .int .i64 (c : Int), .slice (some ⟨g5, 0, none⟩) l.length c5], v3]) ?_ rfl ?_); (focus (simp [results, Try.results81, go_sem, *]; done)); rewrite [HEq.out]; exact ⟨some ⟨g5, 0, none⟩, c5, v3, rfl, fun _ => ⟨g5, rest5, rfl, six_whole X7 (by omega) (by omega)⟩, fun a ha => by cases ha; show w.heap.size ≤ g5; omega, six_lrow hL3 X1 X2 (by omega), six_below B0 (by omega) (by omega)⟩
    · obtain rfl : k = r := by omega
      have HEq : Hid (flG nm k c k 0 l col 0 [] = ⟨1, k, cl, lk, wy⟩) := Lib.hid (HFq.out.trans (by rw [← hF, Nat.sub_self]; rfl))
      have hL3 := hL
      clear hL hF HFq
      generalize u10 = v3 at *
      have X0k0 : wr.cell? ⟨w.heap.size, 0, none⟩ = some (.int .i64 (k : Int)) := (X0.cell 0).trans rfl; have X0k1 : wr.cell? ⟨w.heap.size, 1, none⟩ = some (.int .i64 (c : Int)) := (X0.cell 1).trans rfl; have X0k2 : wr.cell? ⟨w.heap.size, 2, none⟩ = some (.slice (some ⟨b, o, none⟩) l.length cap) := (X0.cell 2).trans rfl
      have X9k0 : wr.cell? ⟨G, 0, none⟩ = some (.int .i64 (k : Int)) := (X9.cell 0).trans rfl; have X9k1 : wr.cell? ⟨G, 1, none⟩ = some (.int .i64 (c : Int)) := (X9.cell 1).trans rfl; have X9k2 : wr.cell? ⟨G, 2, none⟩ = some (.slice (some ⟨g5, 0, none⟩) l.length c5) := (X9.cell 2).trans rfl
      have X1k0 : wr.cell? ⟨w.heap.size + 1, 0, none⟩ = some (.int .i64 0) := (X1.cell 0).trans rfl; have X1k1 : wr.cell? ⟨w.heap.size + 1, 1, none⟩ = some (.int .i64 0) := (X1.cell 1).trans rfl; have X1k2 : wr.cell? ⟨w.heap.size + 1, 2, none⟩ = some (.int .i64 0) := (X1.cell 2).trans rfl
      have X1f0 := X1.frozen 0; have X1f1 := X1.frozen 1; have X1f2 := X1.frozen 2
      have X2k0 : wr.cell? ⟨w.heap.size + 1 + 1, 0, none⟩ = some (.int .i64 0) := (X2.cell 0).trans rfl; have X2k1 : wr.cell? ⟨w.heap.size + 1 + 1, 1, none⟩ = some (.int .i64 0) := (X2.cell 1).trans rfl; have X2k2 : wr.cell? ⟨w.heap.size + 1 + 1, 2, none⟩ = some (.slice none 0 0) := (X2.cell 2).trans rfl
      have X2f0 := X2.frozen 0; have X2f1 := X2.frozen 1; have X2f2 := X2.frozen 2
      have z0 := X0.lt
      have z1 := X1.lt
      have z2 := X2.lt
      have z9 := X9.lt
      go_upto_region 17 with (fail)
      go_region
      go_wp2; (refine bodyPost_ret (v := .tuple #[.agg #[.int .i64 1, .int .i64 (k : Int), .int .i64 (cl : Int)], .agg #[.int .i64 (k : Int), .int .i64 (c : Int), .slice (some ⟨g5, 0, none⟩) l.length c5], v3]) ?_ rfl ?_); (focus (simp [results, Try.results81, go_sem, *]; done)); rewrite [HEq.out]; exact ⟨some ⟨g5, 0, none⟩, c5, v3, rfl, fun _ => ⟨g5, rest5, rfl, six_whole X7 (by omega) (by omega)⟩, fun a ha => by cases ha; show w.heap.size ≤ g5; omega, six_lrow hL3 X1 X2 (by omega), six_below B0 (by omega) (by omega)⟩
end Go.Proofs.Ytlambflmabecfaa
namespace Go.Proofs.Ytlambflmabecfaa
open Go.ChangeShapes Go.WideShapes Go.ChangeAt Go.RowKit Go.Joins Go.Deep
set_option linter.unusedSimpArgs false
set_option linter.unusedVariables false
set_option maxRecDepth 100000
set_option maxHeartbeats 4000000
def okF (R C : Int) (l : List (Int × Int)) (j : Int) : Bool := goodB R C l && decide (0 ≤ j ∧ j < C)
def marO (R C : Int) (l : List (Int × Int)) (j : Int) : FlR := flG (numL C.toNat l) R.toNat C.toNat R.toNat 0 l j.toNat 0 []
theorem spec_flHas (R C : Int) (A : Option Addr) (cap : Nat) (l : List (Int × Int)) (j : Int) (w : World) (hn : l.length ≤ 1048576) (hr : Rd w w.heap.size A (flat l)) :
    Calls Try.prog 53 #[.agg #[.int .i64 R, .int .i64 C, .slice A l.length cap], .int .i64 j] w fun e w' => e = .returned (.bool (okF R C l j)) ∧ Below w.heap.size w w' := by
  unfold okF
  rcases Bool.eq_false_or_eq_true (goodB R C l) with hg | hg
  · have HG := Lib.hid hg
    obtain ⟨s1, s2, s3, s4⟩ := sizeB_iff.1 (goodB_iff.1 hg).1
    rw [hg]
    clear hg
    have m1 : IntKind.i64.wrap (C - 1) = C - 1 := IntWalk.i64_in _ (by omega)
    have HE := Lib.hid (show (true && decide (0 ≤ j ∧ j < C)) = (decide (0 ≤ j) && decide (j ≤ C - 1)) by rw [Bool.true_and, Bool.eq_iff_iff]; simp; omega)
    go_enter Try.func53, Try.ntmps53
    obtain ⟨v0, hv0⟩ : ∃ v, v = w.alloc (.cells #[.int .i64 R, .int .i64 C, .slice A l.length cap] 39) := ⟨_, rfl⟩; have X0 : Whole v0 w.heap.size 39 [.int .i64 R, .int .i64 C, .slice A l.length cap] := (by rw [hv0]; exact heap_alloc_new w _); have hb : Below w.heap.size w v0 := (by rw [hv0]; exact (Below.refl _ _).alloc (Nat.le_refl _) _); have HV := Lib.hid hv0.symm; clear hv0; go_upto_region 1 with (fail); rewrite [HV.out]; clear HV; have X0k0 : v0.cell? ⟨w.heap.size, 0, none⟩ = some (.int .i64 R) := (X0.cell 0).trans rfl; have X0k1 : v0.cell? ⟨w.heap.size, 1, none⟩ = some (.int .i64 C) := (X0.cell 1).trans rfl; have X0k2 : v0.cell? ⟨w.heap.size, 2, none⟩ = some (.slice A l.length cap) := (X0.cell 2).trans rfl
    go_wp2_with fail
    refine (spec_boGood _ _ _ _ l _ hn ((hr.below hb).mono hb.size)).mono ?_; rintro e w1 ⟨rfl, b1⟩
    rewrite [HG.out]
    (clear X0k0 X0k1 X0k2; replace X0 := X0.below b1 X0.lt; replace hb := hb.trans (b1.mono hb.size); clear b1; have X0k0 : w1.cell? ⟨w.heap.size, 0, none⟩ = some (.int .i64 R) := (X0.cell 0).trans rfl; have X0k1 : w1.cell? ⟨w.heap.size, 1, none⟩ = some (.int .i64 C) := (X0.cell 1).trans rfl; have X0k2 : w1.cell? ⟨w.heap.size, 2, none⟩ = some (.slice A l.length cap) := (X0.cell 2).trans rfl)
    go_wp2_with fail
    refine (spec_l1In _ _ _ _).mono ?_; rintro e w2 ⟨rfl, rfl⟩
    go_wp2
    go_returns
    exact ⟨by rw [HE.out]; rfl, by (repeat' (first | (with_reducible exact Below.refl _ _) | (with_reducible assumption) | (with_reducible refine Below.alloc ?_ ?_ _) | (with_reducible refine Below.setCell ?_ ?_ _) | (with_reducible refine Below.drew ?_) | (with_reducible refine below_drewN ?_ _) | (with_reducible refine Below.trans ?_ (Below.mono (by assumption) ?_)) | (with_reducible exact Nat.le_refl _) | (simp; done) | omega | (simp at *; omega)))⟩
  · have HG := Lib.hid hg
    rw [hg]
    clear hg
    go_enter Try.func53, Try.ntmps53
    obtain ⟨v0, hv0⟩ : ∃ v, v = w.alloc (.cells #[.int .i64 R, .int .i64 C, .slice A l.length cap] 39) := ⟨_, rfl⟩; have X0 : Whole v0 w.heap.size 39 [.int .i64 R, .int .i64 C, .slice A l.length cap] := (by rw [hv0]; exact heap_alloc_new w _); have hb : Below w.heap.size w v0 := (by rw [hv0]; exact (Below.refl _ _).alloc (Nat.le_refl _) _); have HV := Lib.hid hv0.symm; clear hv0; go_upto_region 1 with (fail); rewrite [HV.out]; clear HV; have X0k0 : v0.cell? ⟨w.heap.size, 0, none⟩ = some (.int .i64 R) := (X0.cell 0).trans rfl; have X0k1 : v0.cell? ⟨w.heap.size, 1, none⟩ = some (.int .i64 C) := (X0.cell 1).trans rfl; have X0k2 : v0.cell? ⟨w.heap.size, 2, none⟩ = some (.slice A l.length cap) := (X0.cell 2).trans rfl
    go_wp2_with fail
    refine (spec_boGood _ _ _ _ l _ hn ((hr.below hb).mono hb.size)).mono ?_; rintro e w1 ⟨rfl, b1⟩
    rewrite [HG.out]
    (clear X0k0 X0k1 X0k2; replace X0 := X0.below b1 X0.lt; replace hb := hb.trans (b1.mono hb.size); clear b1; have X0k0 : w1.cell? ⟨w.heap.size, 0, none⟩ = some (.int .i64 R) := (X0.cell 0).trans rfl; have X0k1 : w1.cell? ⟨w.heap.size, 1, none⟩ = some (.int .i64 C) := (X0.cell 1).trans rfl; have X0k2 : w1.cell? ⟨w.heap.size, 2, none⟩ = some (.slice A l.length cap) := (X0.cell 2).trans rfl)
    go_wp2
    go_returns
    exact ⟨rfl, by (repeat' (first | (with_reducible exact Below.refl _ _) | (with_reducible assumption) | (with_reducible refine Below.alloc ?_ ?_ _) | (with_reducible refine Below.setCell ?_ ?_ _) | (with_reducible refine Below.drew ?_) | (with_reducible refine below_drewN ?_ _) | (with_reducible refine Below.trans ?_ (Below.mono (by assumption) ?_)) | (with_reducible exact Nat.le_refl _) | (simp; done) | omega | (simp at *; omega)))⟩
theorem three_far {w : World} {g a : Nat} {t : TypeId} {xs : List Value} {u0 u1 u2 : Value} (h : Whole w g t xs) (ne : a ≠ g) : Whole (((w.setCell ⟨a, 0, none⟩ u0).setCell ⟨a, 1, none⟩ u1).setCell ⟨a, 2, none⟩ u2) g t xs :=
  ((h.set_far ⟨a, 0, none⟩ u0 ne).set_far ⟨a, 1, none⟩ u1 ne).set_far ⟨a, 2, none⟩ u2 ne
theorem own_three {w : World} {a : Nat} {A : Option Addr} {t t' : TypeId} {xs : List Value} {p q s u0 u1 u2 : Value} (h : Own w A t xs) (hw : Whole w a t' [p, q, s]) (hne : t ≠ t') : Own (((w.setCell ⟨a, 0, none⟩ u0).setCell ⟨a, 1, none⟩ u1).setCell ⟨a, 2, none⟩ u2) A t xs := by
  have gb : ∀ {v : World} {j : Nat} {u : Value}, v.grownBy (v.setCell ⟨a, j, none⟩ u) (some a) := fun {v j u} => ⟨rfl, rfl, rfl, by rw [World.size_setCell]; exact Nat.le_refl _, fun k _ hk => Below.heap_setCell _ _ _ _ (fun e => hk (by rw [e]))⟩
  exact ((h.apart hw hne gb).apart (hw.set 0 u0) hne gb).apart ((hw.set 0 u0).set 1 u1) hne gb
theorem LRow.alloc {w : World} {base : Nat} {v : Value} {L : List (List Nat)} (h : LRow w base v L) (o : Obj) : LRow (w.alloc o) base v L := h.keep ((Below.refl _ _).alloc (Nat.le_refl _) _)
theorem Own.alloc_ {w : World} {A : Option Addr} {t : TypeId} {xs : List Value} (h : Own w A t xs) (o : Obj) : Own (w.alloc o) A t xs := h.keep ((Below.refl _ _).alloc (Nat.le_refl _) _)
theorem newB {w w1 : World} {t : TypeId} {xs : List Value} (b : Below (w.alloc (.cells xs.toArray t)).heap.size (w.alloc (.cells xs.toArray t)) w1) : Whole w1 w.heap.size t xs :=
  Whole.below (heap_alloc_new w _) b (by rw [World.size_alloc]; omega)
theorem newB2 {w w1 : World} {o : Obj} {t : TypeId} {xs : List Value} (b : Below ((w.alloc (.cells xs.toArray t)).alloc o).heap.size ((w.alloc (.cells xs.toArray t)).alloc o) w1) : Whole w1 w.heap.size t xs :=
  Whole.below (Whole.alloc (heap_alloc_new w _) o) b (by rw [World.size_alloc, World.size_alloc]; omega)
theorem newW3 {w : World} {a : Nat} {u0 u1 u2 : Value} {t : TypeId} {xs : List Value} : Whole ((((w.setCell ⟨a, 0, none⟩ u0).setCell ⟨a, 1, none⟩ u1).setCell ⟨a, 2, none⟩ u2).alloc (.cells xs.toArray t)) w.heap.size t xs := by
  have h := heap_alloc_new (((w.setCell ⟨a, 0, none⟩ u0).setCell ⟨a, 1, none⟩ u1).setCell ⟨a, 2, none⟩ u2) (.cells xs.toArray t)
  rw [World.size_setCell, World.size_setCell, World.size_setCell] at h
  exact h
theorem own_threeF {w : World} {a : Nat} {A : Option Addr} {xs : List Value} {u0 u1 : Value} {x : Int} (h : Own w A 104 xs) (hw : Whole w a 59 [.int .i64 0, .int .i64 0, .int .i64 0]) : Own (((w.setCell ⟨a, 0, none⟩ u0).setCell ⟨a, 1, none⟩ u1).setCell ⟨a, 2, none⟩ (.int .i64 x)) A 104 xs := own_three h hw (by decide)
theorem own_threeB {w : World} {a : Nat} {A B : Option Addr} {n cp : Nat} {xs : List Value} {u0 u1 : Value} (h : Own w A 104 xs) (hw : Whole w a 39 [.int .i64 0, .int .i64 0, .slice none 0 0]) : Own (((w.setCell ⟨a, 0, none⟩ u0).setCell ⟨a, 1, none⟩ u1).setCell ⟨a, 2, none⟩ (.slice B n cp)) A 104 xs := own_three h hw (by decide)
theorem lrow_threeF {w : World} {base a : Nat} {v : Value} {L : List (List Nat)} {u0 u1 : Value} {x : Int} (h : LRow w base v L) (hw : Whole w a 59 [.int .i64 0, .int .i64 0, .int .i64 0]) : LRow (((w.setCell ⟨a, 0, none⟩ u0).setCell ⟨a, 1, none⟩ u1).setCell ⟨a, 2, none⟩ (.int .i64 x)) base v L := three_lrow h hw (by decide) (by decide)
theorem lrow_threeB {w : World} {base a : Nat} {v : Value} {L : List (List Nat)} {B : Option Addr} {n cp : Nat} {u0 u1 : Value} (h : LRow w base v L) (hw : Whole w a 39 [.int .i64 0, .int .i64 0, .slice none 0 0]) : LRow (((w.setCell ⟨a, 0, none⟩ u0).setCell ⟨a, 1, none⟩ u1).setCell ⟨a, 2, none⟩ (.slice B n cp)) base v L := three_lrow h hw (by decide) (by decide)
theorem wh_threeF {w : World} {g : Nat} {u0 u1 : Value} {x : Int} (h : Whole w g 59 [.int .i64 0, .int .i64 0, .int .i64 0]) : Whole (((w.setCell ⟨g, 0, none⟩ u0).setCell ⟨g, 1, none⟩ u1).setCell ⟨g, 2, none⟩ (.int .i64 x)) g 59 [u0, u1, .int .i64 x] := whole_three h
theorem wh_threeB {w : World} {g : Nat} {B : Option Addr} {n cp : Nat} {u0 u1 : Value} (h : Whole w g 39 [.int .i64 0, .int .i64 0, .slice none 0 0]) : Whole (((w.setCell ⟨g, 0, none⟩ u0).setCell ⟨g, 1, none⟩ u1).setCell ⟨g, 2, none⟩ (.slice B n cp)) g 39 [u0, u1, .slice B n cp] := whole_three h
theorem newD {w w1 : World} {t : TypeId} {xs : List Value} (b : Below (w.alloc (.cells xs.toArray t)).drew.heap.size (w.alloc (.cells xs.toArray t)).drew w1) : Whole w1 w.heap.size t xs :=
  Whole.below (w := (w.alloc (.cells xs.toArray t)).drew) (heap_alloc_new w _) b (by show _ < (w.alloc _).heap.size; rw [World.size_alloc]; omega)
theorem newD2 {w w1 : World} {o : Obj} {t : TypeId} {xs : List Value} (b : Below ((w.alloc (.cells xs.toArray t)).alloc o).drew.heap.size ((w.alloc (.cells xs.toArray t)).alloc o).drew w1) : Whole w1 w.heap.size t xs :=
  Whole.below (w := ((w.alloc (.cells xs.toArray t)).alloc o).drew) (Whole.alloc (heap_alloc_new w _) o) b (by show _ < ((w.alloc _).alloc _).heap.size; rw [World.size_alloc, World.size_alloc]; omega)
theorem newW {w : World} {t : TypeId} {xs : List Value} : Whole (w.alloc (.cells xs.toArray t)) w.heap.size t xs := heap_alloc_new w _
theorem newW1 {w : World} {o : Obj} {t : TypeId} {xs : List Value} : Whole ((w.alloc o).alloc (.cells xs.toArray t)) (w.heap.size + 1) t xs := by
  have h := heap_alloc_new (w.alloc o) (.cells xs.toArray t)
  rw [World.size_alloc] at h
  exact h
theorem oldB {w w1 : World} {g : Nat} {t : TypeId} {xs : List Value} (h : Whole w g t xs) (b : Below w.heap.size w w1) : Whole w1 g t xs := h.below b h.lt
theorem oldA {w w1 : World} {g : Nat} {o : Obj} {t : TypeId} {xs : List Value} (h : Whole w g t xs) (b : Below (w.alloc o).heap.size (w.alloc o) w1) : Whole w1 g t xs := (h.alloc o).below b (h.alloc o).lt
theorem spec_flRun (r c b o cap : Nat) (l : List (Int × Int)) (col : Nat) (w : World) (hgd : goodB (r : Int) (c : Int) l = true) (hr : Rd w w.heap.size (some ⟨b, o, none⟩) (flat l)) (hcol : col < c) :
    Calls Try.prog 74 #[.agg #[.int .i64 (r : Int), .int .i64 (c : Int), .slice (some ⟨b, o, none⟩) l.length cap], .int .i64 (col : Int)] w
      fun e w' => ∃ A5 c5, e = .returned (.tuple #[.agg #[.int .i64 (marO r c l col).e, .int .i64 (marO r c l col).row, .int .i64 (marO r c l col).col], .agg #[.int .i64 (r : Int), .int .i64 (c : Int), .slice A5 l.length c5]]) ∧
        Own w' A5 104 (flat (marO r c l col).cells) ∧ New w A5 ∧ Below w.heap.size w w' := by
  obtain ⟨r', c', er, ec, hG⟩ := geo_of hgd
  obtain rfl : r = r' := by omega
  obtain rfl : c = c' := by omega
  have hpos := (goodB_parts hgd).2.2
  have HG := Lib.hid hG
  have HGd := Lib.hid hgd
  have hM : marO r c l col = flG (numL c l) r c r 0 l col 0 [] := rfl
  rw [hM]
  have HNl := Lib.hid (numL_len c l)
  clear hG hgd hM er ec
  go_enter Try.func74, Try.ntmps74
  obtain ⟨v0, hv0, X0, X1, X2, B0, hz0⟩ := three_boxes w [.int .i64 (r : Int), .int .i64 (c : Int), .slice (some ⟨b, o, none⟩) l.length cap] 39 [.int .i64 0, .int .i64 0, .int .i64 0] 59 [.int .i64 0, .int .i64 0, .slice none 0 0] 39; have HV := Lib.hid hv0; have hx : w.heap.size + 1 + 1 < v0.heap.size := (by omega); have hz : w.heap.size + 1 < v0.heap.size := (by omega); have hy : w.heap.size < v0.heap.size := (by omega); have hb0 := B0.size; clear hv0 hz0; go_wp2_with fail; rewrite [show ((w.alloc (.cells ([.int .i64 (r : Int), .int .i64 (c : Int), .slice (some ⟨b, o, none⟩) l.length cap] : List Value).toArray 39)).alloc (.cells ([.int .i64 0, .int .i64 0, .int .i64 0] : List Value).toArray 59)).alloc (.cells ([.int .i64 0, .int .i64 0, .slice none 0 0] : List Value).toArray 39) = v0 from HV.out]; clear HV
  have hb9 : b < w.heap.size := by
    obtain ⟨b', o', e0, h1, _⟩ := hr (by rw [flat_length]; omega)
    cases e0
    exact h1
  have k0 : v0.cell? ⟨w.heap.size, 0, none⟩ = some (.int .i64 (r : Int)) := (X0.cell 0).trans rfl
  have k1 : v0.cell? ⟨w.heap.size, 1, none⟩ = some (.int .i64 (c : Int)) := (X0.cell 1).trans rfl
  have k2 : v0.cell? ⟨w.heap.size, 2, none⟩ = some (.slice (some ⟨b, o, none⟩) l.length cap) := (X0.cell 2).trans rfl
  have KS := Lib.hid (fun (w' : World) (h : Below v0.heap.size v0 w') => (⟨(h.cell (p := ⟨w.heap.size, 0, none⟩) hy).trans k0, (h.cell (p := ⟨w.heap.size, 1, none⟩) hy).trans k1, (h.cell (p := ⟨w.heap.size, 2, none⟩) hy).trans k2⟩ : w'.cell? ⟨w.heap.size, 0, none⟩ = some (.int .i64 (r : Int)) ∧ w'.cell? ⟨w.heap.size, 1, none⟩ = some (.int .i64 (c : Int)) ∧ w'.cell? ⟨w.heap.size, 2, none⟩ = some (.slice (some ⟨b, o, none⟩) l.length cap)))
  go_cut [6, 7, 8] (fun z y v wx => ∃ (gf gb : Nat) (A : Option Addr) (c5 : Nat), z = .pointer (some ⟨gf, 0, none⟩) ∧ y = .pointer (some ⟨gb, 0, none⟩) ∧ v0.heap.size ≤ gf ∧ v0.heap.size ≤ gb ∧ Whole wx gf 59 [.int .i64 (flG (numL c l) r c r 0 l col 0 []).e, .int .i64 (flG (numL c l) r c r 0 l col 0 []).row, .int .i64 (flG (numL c l) r c r 0 l col 0 []).col] ∧ Whole wx gb 39 [.int .i64 (r : Int), .int .i64 (c : Int), .slice A l.length c5] ∧ Own wx A 104 (flat (flG (numL c l) r c r 0 l col 0 []).cells) ∧ New v0 A ∧ LRow wx v0.heap.size v (flG (numL c l) r c r 0 l col 0 []).way ∧ Below v0.heap.size v0 wx)
  case first =>
    (go_region_held3 (fun w' => w'.cell? ⟨w.heap.size, 0, none⟩ = some (.int .i64 (r : Int)) ∧ w'.cell? ⟨w.heap.size, 1, none⟩ = some (.int .i64 (c : Int)) ∧ w'.cell? ⟨w.heap.size, 2, none⟩ = some (.slice (some ⟨b, o, none⟩) l.length cap)) (exact KS.out _ (by (repeat' (first | (with_reducible exact Below.refl _ _) | (with_reducible assumption) | (with_reducible refine Below.alloc ?_ ?_ _) | (with_reducible refine Below.setCell ?_ ?_ _) | (with_reducible refine Below.drew ?_) | (with_reducible refine below_drewN ?_ _) | (with_reducible refine Below.trans ?_ (Below.mono (by assumption) ?_)) | go_size)))) ((first | (go_at_call 82; (with_reducible refine (spec_ggGroups r c (some ⟨b, o, none⟩) cap l _ HG.out ?_).mono ?_); (focus exact (hr.below (B0.trans ((by (repeat' (first | (with_reducible exact Below.refl _ _) | (with_reducible assumption) | (with_reducible refine Below.alloc ?_ ?_ _) | (with_reducible refine Below.setCell ?_ ?_ _) | (with_reducible refine Below.drew ?_) | (with_reducible refine below_drewN ?_ _) | (with_reducible refine Below.trans ?_ (Below.mono (by assumption) ?_)) | go_size)) : Below v0.heap.size v0 _).mono B0.size))).mono (Nat.le_trans B0.size (by (repeat' (first | (with_reducible exact Below.refl _ _) | (with_reducible assumption) | (with_reducible refine Below.alloc ?_ ?_ _) | (with_reducible refine Below.setCell ?_ ?_ _) | (with_reducible refine Below.drew ?_) | (with_reducible refine below_drewN ?_ _) | (with_reducible refine Below.trans ?_ (Below.mono (by assumption) ?_)) | go_size)) : Below v0.heap.size v0 _).size)); rintro e w1 hP; obtain ⟨A6, c6, rfl, o6, n6, bT⟩ := hP.value; clear hP; obtain ⟨g6, rest6, rfl, X6⟩ := o6 (by rw [ints_length, HNl.out]; exact hpos); clear o6 n6; have sT : v0.heap.size ≤ w1.heap.size := (by (repeat' (first | (with_reducible exact Below.refl _ _) | (with_reducible assumption) | (with_reducible refine Below.alloc ?_ ?_ _) | (with_reducible refine Below.setCell ?_ ?_ _) | (with_reducible refine Below.drew ?_) | (with_reducible refine below_drewN ?_ _) | (with_reducible refine Below.trans ?_ (Below.mono (by assumption) ?_)) | go_size)) : Below v0.heap.size v0 w1).size; (first | have zf := newB (t := 59) (xs := [.int .i64 0, .int .i64 0, .int .i64 0]) bT | have zf := newB2 (t := 59) (xs := [.int .i64 0, .int .i64 0, .int .i64 0]) bT | have zf := newD (t := 59) (xs := [.int .i64 0, .int .i64 0, .int .i64 0]) bT | have zf := newD2 (t := 59) (xs := [.int .i64 0, .int .i64 0, .int .i64 0]) bT | skip); (first | have zb := newB (t := 39) (xs := [.int .i64 0, .int .i64 0, .slice none 0 0]) bT | have zb := newB2 (t := 39) (xs := [.int .i64 0, .int .i64 0, .slice none 0 0]) bT | have zb := newD (t := 39) (xs := [.int .i64 0, .int .i64 0, .slice none 0 0]) bT | have zb := newD2 (t := 39) (xs := [.int .i64 0, .int .i64 0, .slice none 0 0]) bT | skip); (try rw [World.size_alloc] at zf); (try rw [World.size_alloc] at zb); (try replace zf : Whole w1 v0.heap.size _ _ := zf); (try replace zb : Whole w1 v0.heap.size _ _ := zb); (try replace zf : Whole w1 (v0.heap.size + 1) _ _ := zf); (try replace zb : Whole w1 (v0.heap.size + 1) _ _ := zb); (first | have hzf1 := zf.lt | skip); (first | have hzb1 := zb.lt | skip); (try have nA1 : v0.heap.size ≠ w1.heap.size := by omega); (try have nA2 : w1.heap.size ≠ v0.heap.size := by omega)) | (go_at_call 81; (with_reducible refine (spec_flGo r c b o cap g6 c6 l (numL c l) rest6 col _ HG.out HGd.out ?_ (numL_len c l) ?_ hcol).mono ?_); (focus exact (hr.below (B0.trans ((by (repeat' (first | (with_reducible exact Below.refl _ _) | (with_reducible assumption) | (with_reducible refine Below.alloc ?_ ?_ _) | (with_reducible refine Below.setCell ?_ ?_ _) | (with_reducible refine Below.drew ?_) | (with_reducible refine below_drewN ?_ _) | (with_reducible refine Below.trans ?_ (Below.mono (by assumption) ?_)) | go_size)) : Below v0.heap.size v0 _).mono B0.size))).mono (Nat.le_trans B0.size (by (repeat' (first | (with_reducible exact Below.refl _ _) | (with_reducible assumption) | (with_reducible refine Below.alloc ?_ ?_ _) | (with_reducible refine Below.setCell ?_ ?_ _) | (with_reducible refine Below.drew ?_) | (with_reducible refine below_drewN ?_ _) | (with_reducible refine Below.trans ?_ (Below.mono (by assumption) ?_)) | go_size)) : Below v0.heap.size v0 _).size)); (focus exact X6.below (by (repeat' (first | (with_reducible exact Below.refl _ _) | (with_reducible assumption) | (with_reducible refine Below.alloc ?_ ?_ _) | (with_reducible refine Below.setCell ?_ ?_ _) | (with_reducible refine Below.drew ?_) | (with_reducible refine below_drewN ?_ _) | (with_reducible refine Below.trans ?_ (Below.mono (by assumption) ?_)) | go_size)) : Below w1.heap.size w1 _) X6.lt); rintro e w2 ⟨A5, c5, v5, rfl, O5, N5, L5, bF⟩; replace N5 : New v0 A5 := N5.mono (by (repeat' (first | (with_reducible exact Below.refl _ _) | (with_reducible assumption) | (with_reducible refine Below.alloc ?_ ?_ _) | (with_reducible refine Below.setCell ?_ ?_ _) | (with_reducible refine Below.drew ?_) | (with_reducible refine below_drewN ?_ _) | (with_reducible refine Below.trans ?_ (Below.mono (by assumption) ?_)) | go_size)) : Below v0.heap.size v0 _).size; replace L5 := L5.mono (by (repeat' (first | (with_reducible exact Below.refl _ _) | (with_reducible assumption) | (with_reducible refine Below.alloc ?_ ?_ _) | (with_reducible refine Below.setCell ?_ ?_ _) | (with_reducible refine Below.drew ?_) | (with_reducible refine below_drewN ?_ _) | (with_reducible refine Below.trans ?_ (Below.mono (by assumption) ?_)) | go_size)) : Below v0.heap.size v0 _).size; have sF : w1.heap.size ≤ w2.heap.size := (by (repeat' (first | (with_reducible exact Below.refl _ _) | (with_reducible assumption) | (with_reducible refine Below.alloc ?_ ?_ _) | (with_reducible refine Below.setCell ?_ ?_ _) | (with_reducible refine Below.drew ?_) | (with_reducible refine below_drewN ?_ _) | (with_reducible refine Below.trans ?_ (Below.mono (by assumption) ?_)) | go_size)) : Below w1.heap.size w1 w2).size; (first | have zf := oldB zf bF | have zf := oldA zf bF | have zf := newB (t := 59) (xs := [.int .i64 0, .int .i64 0, .int .i64 0]) bF | have zf := newB2 (t := 59) (xs := [.int .i64 0, .int .i64 0, .int .i64 0]) bF | skip); (first | have zb := oldB zb bF | have zb := oldA zb bF | have zb := newB (t := 39) (xs := [.int .i64 0, .int .i64 0, .slice none 0 0]) bF | have zb := newB2 (t := 39) (xs := [.int .i64 0, .int .i64 0, .slice none 0 0]) bF | skip); (try rw [World.size_alloc] at zf); (try rw [World.size_alloc] at zb); (try have nB1 : w1.heap.size ≠ w2.heap.size := by (first | (have h1 := zf.lt; omega) | (have h1 := zb.lt; omega))); (try have nB2 : w2.heap.size ≠ w1.heap.size := by omega); (try have nC1 : v0.heap.size ≠ w2.heap.size := by (first | (have h1 := zf.lt; omega) | (have h1 := zb.lt; omega))); (try have nC2 : w2.heap.size ≠ v0.heap.size := by omega); (first | (have hzf2 := zf.lt; have qf0 := (zf.cell 0).trans rfl; have qf1 := (zf.cell 1).trans rfl; have qf2 := (zf.cell 2).trans rfl; have rf0 := zf.frozen 0; have rf1 := zf.frozen 1; have rf2 := zf.frozen 2) | skip); (first | (have hzb2 := zb.lt; have qb0 := (zb.cell 0).trans rfl; have qb1 := (zb.cell 1).trans rfl; have qb2 := (zb.cell 2).trans rfl; have rb0 := zb.frozen 0; have rb1 := zb.frozen 1; have rb2 := zb.frozen 2) | skip)) | fail)); all_goals (go_wp2_with fail; go_meet); all_goals (refine ⟨_, _, A5, c5, rfl, rfl, ?_, ?_, ?_, ?_, ?_, N5, ?_, by (repeat' (first | (with_reducible exact Below.refl _ _) | (with_reducible assumption) | (with_reducible refine Below.alloc ?_ ?_ _) | (with_reducible refine Below.setCell ?_ ?_ _) | (with_reducible refine Below.drew ?_) | (with_reducible refine below_drewN ?_ _) | (with_reducible refine Below.trans ?_ (Below.mono (by assumption) ?_)) | go_size))⟩); all_goals (repeat' (first | (with_reducible assumption) | (with_reducible exact newW) | (with_reducible exact newW1) | (with_reducible exact newW3) | (with_reducible refine wh_threeF ?_) | (with_reducible refine wh_threeB ?_) | (with_reducible refine three_far ?_ ?_) | (with_reducible refine Whole.alloc ?_ _) | (with_reducible refine own_threeF ?_ ?_) | (with_reducible refine own_threeB ?_ ?_) | (with_reducible refine Own.alloc_ ?_ _) | (with_reducible refine lrow_threeF ?_ ?_) | (with_reducible refine lrow_threeB ?_ ?_) | (with_reducible refine LRow.alloc ?_ _) | (focus omega) | (focus (simp; omega)))))
  case rest =>
    rename World => w3
    obtain ⟨gf, gb, A5, c5, rfl, rfl, hgf, hgb, Xf, Xb, O5, N5, L5, b3⟩ := hcut
    clear KS k0 k1 k2
    have e1 : gf ≠ w.heap.size + 1 := by omega
    have e2 : gf ≠ w.heap.size + 1 + 1 := by omega
    have e3 : gb ≠ w.heap.size + 1 := by omega
    have e4 : gb ≠ w.heap.size + 1 + 1 := by omega
    have e5 := e1.symm
    have e6 := e2.symm
    have e7 := e3.symm
    have e8 := e4.symm
    replace X0 := X0.below b3 X0.lt; replace X1 := X1.below b3 X1.lt; replace X2 := X2.below b3 X2.lt; replace B0 := B0.trans (b3.mono B0.size); have hy := X0.lt; have hz := X1.lt; have hx := X2.lt; have hb0 := B0.size; clear b3
    have hn0 : New w A5 := fun a ha => by have h := N5 a ha; omega
    have hn1 : ∀ a, A5 = some a → w.heap.size + 1 ≠ a.block := fun a ha => by have h := N5 a ha; omega
    have hn2 : ∀ a, A5 = some a → w.heap.size + 1 + 1 ≠ a.block := fun a ha => by have h := N5 a ha; omega
    have Xbk0 : w3.cell? ⟨gb, 0, none⟩ = some (.int .i64 (r : Int)) := (Xb.cell 0).trans rfl; have Xbk1 : w3.cell? ⟨gb, 1, none⟩ = some (.int .i64 (c : Int)) := (Xb.cell 1).trans rfl; have Xbk2 : w3.cell? ⟨gb, 2, none⟩ = some (.slice A5 l.length c5) := (Xb.cell 2).trans rfl
    have q0 := (Xf.cell 0).trans rfl
    have q1 := (Xf.cell 1).trans rfl
    have q2 := (Xf.cell 2).trans rfl
    have X1k0 : w3.cell? ⟨w.heap.size + 1, 0, none⟩ = some (.int .i64 0) := (X1.cell 0).trans rfl; have X1k1 : w3.cell? ⟨w.heap.size + 1, 1, none⟩ = some (.int .i64 0) := (X1.cell 1).trans rfl; have X1k2 : w3.cell? ⟨w.heap.size + 1, 2, none⟩ = some (.int .i64 0) := (X1.cell 2).trans rfl
    have X1f0 := X1.frozen 0; have X1f1 := X1.frozen 1; have X1f2 := X1.frozen 2
    have X2k0 : w3.cell? ⟨w.heap.size + 1 + 1, 0, none⟩ = some (.int .i64 0) := (X2.cell 0).trans rfl; have X2k1 : w3.cell? ⟨w.heap.size + 1 + 1, 1, none⟩ = some (.int .i64 0) := (X2.cell 1).trans rfl; have X2k2 : w3.cell? ⟨w.heap.size + 1 + 1, 2, none⟩ = some (.slice none 0 0) := (X2.cell 2).trans rfl
    have X2f0 := X2.frozen 0; have X2f1 := X2.frozen 1; have X2f2 := X2.frozen 2
    have z1 := X1.lt
    have z2 := X2.lt
    have zf := Xf.lt
    have zb := Xb.lt
    go_upto_region 2 with (fail)
    go_region
    go_wp2
    (refine bodyPost_ret (v := .tuple #[.agg #[.int .i64 (flG (numL c l) r c r 0 l col 0 []).e, .int .i64 (flG (numL c l) r c r 0 l col 0 []).row, .int .i64 (flG (numL c l) r c r 0 l col 0 []).col], .agg #[.int .i64 (r : Int), .int .i64 (c : Int), .slice A5 l.length c5]]) ?_ rfl ?_); (focus (simp [results, Try.results74, go_sem, *]; done))
    refine ⟨A5, c5, rfl, ?_, hn0, six_below B0 (by omega) (by omega)⟩
    have o1 := own_three (u0 := .int .i64 (flG (numL c l) r c r 0 l col 0 []).e) (u1 := .int .i64 (flG (numL c l) r c r 0 l col 0 []).row) (u2 := .int .i64 (flG (numL c l) r c r 0 l col 0 []).col) O5 X1 (by decide)
    have x2 := three_far (u0 := .int .i64 (flG (numL c l) r c r 0 l col 0 []).e) (u1 := .int .i64 (flG (numL c l) r c r 0 l col 0 []).row) (u2 := .int .i64 (flG (numL c l) r c r 0 l col 0 []).col) X2 (show w.heap.size + 1 ≠ w.heap.size + 1 + 1 by omega)
    exact (own_three (u0 := .int .i64 (r : Int)) (u1 := .int .i64 (c : Int)) (u2 := .slice A5 l.length c5) o1 x2 (by decide)).keep ((Below.refl _ _).drew)
end Go.Proofs.Ytlambflmabecfaa
