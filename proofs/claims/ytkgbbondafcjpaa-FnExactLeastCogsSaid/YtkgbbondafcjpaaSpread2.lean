/- The program's search from several cells, with the empty cells beside them: what it keeps. -/
import Derived.Test.YtkgbbondafcjpaaRelax
import Derived.Test.YtkgbbondafcjpaaAlignS
import Derived.Test.YtkgbbondafcjpaaSpreadW
namespace Go.Proofs.Ytkgbbondafcjpaa
open Go.ChangeShapes Go.WideShapes Go.ChangeAt Go.RowKit Go.Joins Go.Deep
set_option linter.unusedSimpArgs false
set_option linter.unusedVariables false
set_option maxRecDepth 100000
set_option maxHeartbeats 1000000
def emp (l : List (Int × Int)) (i : Nat) : Bool := decide (i < l.length) && decide ((l.getD i (0, 0)).1 = 0)
def opE (l : List (Int × Int)) (i : Nat) : Bool := J l i || emp l i
theorem emp_lt {l : List (Int × Int)} {i : Nat} (h : emp l i = true) : i < l.length := by unfold emp at h; simp at h; exact h.1
theorem emp_at {l : List (Int × Int)} {k : Nat} (h : k < l.length) : emp l k = decide (l[k].1 = 0) := by
  unfold emp
  rw [decide_eq_true h, Bool.true_and, List.getD_eq_getElem?_getD, List.getElem?_eq_getElem h]
  rfl
theorem J_emp {l : List (Int × Int)} (y : Nat) (h : J l y = true) (h' : emp l y = true) : False := by
  unfold emp at h'
  rw [Bool.and_eq_true, decide_eq_true_eq, decide_eq_true_eq] at h'
  unfold J at h
  rw [h'.2] at h
  exact absurd h (by decide)
theorem lev_of {r c : Nat} {l : List (Int × Int)} (hG : Geo r c l.length) {src : Nat} (h : src < l.length) : Lev (J l) (emp l) (nearL c l.length) l.length src := ⟨J_emp, hG.near, h⟩
theorem opn_perm {P : Nat → Bool} {v p p' : List Nat} (h : ∀ x, x ∈ p ↔ x ∈ p') (y : Nat) : opn P v p y = opn P v p' y := by
  rw [Bool.eq_iff_iff, opn_iff, opn_iff, h]
/-- What one neighbour does to the two lists. -/
theorem sp_open {l : List (Int × Int)} {vs q0 qm dm : List Nat} {y : Nat} (hq : ∀ x ∈ qm, x ∈ q0 ∨ J l x = true) (h0 : ∀ x ∈ q0, x ∈ qm) (hd : ∀ x ∈ dm, emp l x = true) (h : opn (opE l) vs (qm ++ dm) y = true) :
    (J l y = true ∧ bst (J l) vs qm y = qm ++ [y] ∧ bst (emp l) (vs ++ q0) dm y = dm) ∨ (J l y = false ∧ bst (J l) vs qm y = qm ∧ bst (emp l) (vs ++ q0) dm y = dm ++ [y]) := by
  obtain ⟨h1, h2, h3⟩ := opn_iff.1 h
  rw [List.mem_append] at h3
  have hqm : y ∉ qm := fun q => h3 (.inl q)
  have hdm : y ∉ dm := fun q => h3 (.inr q)
  rcases Bool.eq_false_or_eq_true (J l y) with hJ | hJ
  · refine .inl ⟨hJ, ?_, ?_⟩
    · unfold bst; rw [if_pos (opn_iff.2 ⟨hJ, h2, hqm⟩)]
    · unfold bst; rw [if_neg (fun q => J_emp y hJ (opn_iff.1 q).1)]
  · refine .inr ⟨hJ, ?_, ?_⟩
    · unfold bst; rw [if_neg (fun q => by rw [(opn_iff.1 q).1] at hJ; cases hJ)]
    · have hE : emp l y = true := by unfold opE at h1; rw [hJ, Bool.false_or] at h1; exact h1
      unfold bst
      rw [if_pos (opn_iff.2 ⟨hE, fun q => (List.mem_append.1 q).elim h2 (fun q => hqm (h0 y q)), hdm⟩)]
theorem sp_shut {l : List (Int × Int)} {vs q0 qm dm : List Nat} {y : Nat} (hq : ∀ x ∈ qm, x ∈ q0 ∨ J l x = true) (h0 : ∀ x ∈ q0, x ∈ qm) (hd : ∀ x ∈ dm, emp l x = true) (h : opn (opE l) vs (qm ++ dm) y = false) :
    bst (J l) vs qm y = qm ∧ bst (emp l) (vs ++ q0) dm y = dm := by
  constructor
  · unfold bst
    rw [if_neg (fun q => ?_)]
    obtain ⟨h1, h2, h3⟩ := opn_iff.1 q
    have : opn (opE l) vs (qm ++ dm) y = true := opn_iff.2 ⟨by unfold opE; rw [h1]; rfl, h2, fun q => (List.mem_append.1 q).elim h3 (fun q => J_emp y h1 (hd y q))⟩
    rw [this] at h
    cases h
  · unfold bst
    rw [if_neg (fun q => ?_)]
    obtain ⟨h1, h2, h3⟩ := opn_iff.1 q
    have : opn (opE l) vs (qm ++ dm) y = true := opn_iff.2 ⟨by unfold opE; rw [h1, Bool.or_true], fun q => h2 (List.mem_append.2 (.inl q)), fun q => (List.mem_append.1 q).elim (fun q => (hq y q).elim (fun q => h2 (List.mem_append.2 (.inr q))) (fun q => J_emp y q h1)) h3⟩
    rw [this] at h
    cases h
/-- The border behind k cells. -/
def bdr (J E : Nat → Bool) (near : Nat → List Nat) (v q : List Nat) : Nat → List Nat
  | 0 => []
  | k + 1 => if h : k < (brs J near v q k).length then brn E (v ++ q) (bdr J E near v q k) (near (brs J near v q k)[k]) else bdr J E near v q k
theorem bdr_at {J E : Nat → Bool} {near : Nat → List Nat} {v q : List Nat} {k : Nat} (h : k < (brs J near v q k).length) : bdr J E near v q (k + 1) = brn E (v ++ q) (bdr J E near v q k) (near (brs J near v q k)[k]) := by
  show (if h : _ then _ else _) = _
  rw [dif_pos h]
theorem brs_pre {J : Nat → Bool} {near : Nat → List Nat} {v q : List Nat} {k : Nat} : ∀ m, k ≤ m → brs J near v q k <+: brs J near v q m := by
  intro m h
  induction m with
  | zero => obtain rfl : k = 0 := by omega
            exact List.prefix_refl _
  | succ m ih =>
    rcases Nat.eq_or_lt_of_le h with e | e
    · subst e; exact List.prefix_refl _
    · exact (ih (by omega)).trans (brs_prefix J near v q m)
theorem bdr_take {J E : Nat → Bool} {near : Nat → List Nat} {v q : List Nat} {n : Nat} : ∀ k, k ≤ n → bdr J E near v q k = brn E (v ++ q) [] (((brs J near v q n).take k).flatMap near)
  | 0, _ => rfl
  | k + 1, hk => by
    have ih := bdr_take (J := J) (E := E) (near := near) (v := v) (q := q) (n := n) k (by omega)
    have hp := brs_pre (J := J) (near := near) (v := v) (q := q) (k := k) n (by omega)
    by_cases h : k < (brs J near v q k).length
    · have h' : k < (brs J near v q n).length := Nat.lt_of_lt_of_le h hp.length_le
      rw [bdr_at h, ih, List.take_succ_eq_append_getElem h', List.flatMap_append, ← List.IsPrefix.getElem hp h]
      unfold brn
      rw [List.foldl_append]
      simp
    · have e := brs_stop J near v q k (by omega) n (by omega)
      have e1 : bdr J E near v q (k + 1) = bdr J E near v q k := by show (if h : _ then _ else _) = _; rw [dif_neg h]
      rw [e1, ih, e, List.take_of_length_le (by omega), List.take_of_length_le (by omega)]
theorem bdr_end {J E : Nat → Bool} {near : Nat → List Nat} {v q : List Nat} {n k : Nat} (hl : (brs J near v q k).length ≤ k) (hk : k ≤ n) : bdr J E near v q k = lvD J E near n (v, q) := by
  rw [bdr_take k hk]
  unfold lvD lvQ
  have e := brs_stop J near v q k hl n hk
  show brn E (v ++ q) [] (((brs J near v q n).take k).flatMap near) = brn E (v ++ q) [] ((brs J near v q n).flatMap near)
  rw [List.take_of_length_le (by rw [e]; exact hl)]
theorem bdr_emp {J E : Nat → Bool} {near : Nat → List Nat} {v q : List Nat} : ∀ k, ∀ x ∈ bdr J E near v q k, E x = true
  | 0 => fun x hx => absurd hx List.not_mem_nil
  | k + 1 => by
    intro x hx
    have ih := bdr_emp (J := J) (E := E) (near := near) (v := v) (q := q) k
    by_cases h : k < (brs J near v q k).length
    · rw [bdr_at h] at hx
      rcases mem_brn _ _ hx with h1 | ⟨_, h1, _⟩
      · exact ih x h1
      · exact h1
    · have e1 : bdr J E near v q (k + 1) = bdr J E near v q k := by show (if h : _ then _ else _) = _; rw [dif_neg h]
      rw [e1] at hx
      exact ih x hx
theorem bdr_nodup {J E : Nat → Bool} {near : Nat → List Nat} {v q : List Nat} : ∀ k, (bdr J E near v q k).Nodup
  | 0 => List.nodup_nil
  | k + 1 => by
    have ih := bdr_nodup (J := J) (E := E) (near := near) (v := v) (q := q) k
    by_cases h : k < (brs J near v q k).length
    · rw [bdr_at h]; exact brn_nodup _ _ ih
    · have e1 : bdr J E near v q (k + 1) = bdr J E near v q k := by show (if h : _ then _ else _) = _; rw [dif_neg h]
      rw [e1]; exact ih
/-! ### two lists that grow apart -/
def Dj (v v2 : Value) : Prop := ∀ g, v.ownBlock = some g → v2.ownBlock ≠ some g
theorem Dj.symm {v v2 : Value} (h : Dj v v2) : Dj v2 v := fun g h1 h2 => h g h2 h1
def Sp2 (w : World) (bx : List Value) (B nB : Nat) (o : Nat → Bool) (v : Value) (q : List Nat) (v2 : Value) (d : List Nat) (wr : World) : Prop :=
  Whole wr w.heap.size 31 bx ∧ IRow wr (w.heap.size + 1) v (nI q) ∧ IRow wr (w.heap.size + 1) v2 (nI d) ∧ Dj v v2 ∧ Keys wr B nB o ∧ w.grownBy wr (some B)
variable {w wr w2 : World} {bx : List Value} {B nB : Nat} {o o' : Nat → Bool} {v v2 v3 : Value} {q d nl : List Nat} {A : Option Addr}
theorem Sp2.swap (h : Sp2 w bx B nB o v q v2 d wr) : Sp2 w bx B nB o v2 d v q wr := ⟨h.1, h.2.2.1, h.2.1, h.2.2.2.1.symm, h.2.2.2.2⟩
theorem Sp2.below (h : Sp2 w bx B nB o v q v2 d wr) (hb : Below wr.heap.size wr w2) : Sp2 w bx B nB o v q v2 d w2 :=
  ⟨h.1.below hb h.1.lt, h.2.1.keep hb, h.2.2.1.keep hb, h.2.2.2.1, h.2.2.2.2.1.below hb, grown_below h.2.2.2.2.2 hb h.2.2.2.2.2.size⟩
theorem Sp2.del (h : Sp2 w bx B nB o v q v2 d wr) (hk : Keys w2 B nB o') (hg : wr.grownBy w2 (some B)) : Sp2 w bx B nB o' v q v2 d w2 := by
  have hK := h.2.2.2.2.1
  exact ⟨h.1.grown hg (fun e => hK.whole h.1 (by cases e; rfl)), h.2.1.grown hg (.inr fun e => hK.row h.2.1 e.symm), h.2.2.1.grown hg (.inr fun e => hK.row h.2.2.1 e.symm), h.2.2.2.1, hk, h.2.2.2.2.2.trans hg⟩
theorem Sp2.congr (h : Sp2 w bx B nB o v q v2 d wr) (he : ∀ i, i ≤ 1048576 → o i = o' i) : Sp2 w bx B nB o' v q v2 d wr := ⟨h.1, h.2.1, h.2.2.1, h.2.2.2.1, h.2.2.2.2.1.congr he, h.2.2.2.2.2⟩
theorem irow_lt {base g : Nat} {l : List Int} (h : IRow wr base v l) (hg : v.ownBlock = some g) : g < wr.heap.size := by
  rcases h.2 with ⟨rfl, _⟩ | ⟨k, cap, cur, rfl, _, hh, _⟩
  · simp [Value.ownBlock] at hg
  · simp [Value.ownBlock] at hg
    subst hg
    exact (Array.getElem?_eq_some_iff.1 hh).1
theorem Sp2.push {x : Int} {y : Nat} (h : Sp2 w bx B nB o v q v2 d wr) (hrow : IRow w2 (w.heap.size + 1) v3 (nI q ++ [x])) (hx : x = (y : Int)) (hg : (wr.alloc (.cells #[.int .i64 x] 3)).grownBy w2 v.ownBlock) (hb : Below (w.heap.size + 1) wr w2) (hl : v3.ownBlock = v.ownBlock ∨ v3.ownBlock = some (wr.heap.size + 1)) : Sp2 w bx B nB o v3 (q ++ [y]) v2 d w2 := by
  obtain ⟨h1, h2, h3, h4, h5, h6⟩ := h
  refine ⟨h1.below hb (Nat.lt_succ_self _), ?_, ?_, ?_, ?_, grown_below h6 hb (Nat.le_succ _)⟩
  · rw [nI_append]; subst hx; exact hrow
  · refine (h3.alloc _).grown hg ?_
    cases hv : v2.ownBlock with
    | none => exact .inl rfl
    | some g => exact .inr fun e => h4 g e.symm hv
  · intro g hg3 hg2
    rcases hl with e | e
    · exact h4 g (by rw [← e]; exact hg3) hg2
    · rw [e] at hg3
      cases hg3
      have := irow_lt h3 hg2
      omega
  · exact (h5.alloc _).kept hg (h5.row h2)
theorem NrS.other {base : Nat} {x : Int} (h : NrS base v A nl wr) (h2 : NrS base v2 A nl wr) (hg : (wr.alloc (.cells #[.int .i64 x] 3)).grownBy w2 v.ownBlock) : NrS base v2 A nl w2 := by
  refine ⟨fun hx => ?_, h2.2⟩
  obtain ⟨g, rest, e, hw⟩ := h.1 hx
  have hx' : 0 < nl.length := by simpa [ints, nI] using hx
  exact ⟨g, rest, e, (hw.alloc _).grown hg (fun e' => (h.2 hx' _ e).2 e'.symm)⟩
theorem Sp2.shape (h : Sp2 w bx B nB o v q v2 d wr) (hp : 0 < q.length) : ∃ g cap rest, v = .slice (some ⟨g, 0, none⟩) q.length cap ∧ Whole wr g 3 (ints (nI q) ++ rest) := by
  obtain ⟨A, cap, rfl, ho, _⟩ := h.2.1.shape
  obtain ⟨g, rest, rfl, hw⟩ := ho (by rw [ints_length, nI_length]; exact hp)
  exact ⟨g, cap, rest, by rw [nI_length], hw⟩
end Go.Proofs.Ytkgbbondafcjpaa
