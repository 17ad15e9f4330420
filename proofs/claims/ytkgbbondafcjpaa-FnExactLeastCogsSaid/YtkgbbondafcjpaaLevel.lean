/- A search level by level: through joining cells at no cost, into empty ones at a cost of one. -/
import Derived.Test.YtkgbbondafcjpaaGraph
namespace Go.Proofs.Ytkgbbondafcjpaa
open Go.ChangeShapes Go.WideShapes Go.ChangeAt Go.RowKit Go.Joins Go.Deep
set_option linter.unusedSimpArgs false
set_option linter.unusedVariables false
set_option maxRecDepth 100000
set_option maxHeartbeats 1000000
theorem cntp_mono {p r : Nat → Bool} (h : ∀ j, p j = true → r j = true) : ∀ n, cntp p n ≤ cntp r n
  | 0 => Nat.le_refl _
  | n + 1 => by
    have ih := cntp_mono h n
    unfold cntp
    by_cases hp : p n = true
    · rw [if_pos hp, if_pos (h n hp)]; omega
    · rw [if_neg hp]; omega
def allT : Nat → Bool := fun _ => true
theorem brn_self : ∀ (q p : List Nat), (p ++ q).Nodup → brn allT [] p q = p ++ q
  | [], p, _ => by simp [brn]
  | x :: q, p, h => by
    have hx : x ∉ p := fun hp => by
      rw [List.nodup_append] at h
      exact h.2.2 x hp x (List.mem_cons_self ..) rfl
    have e : bst allT [] p x = p ++ [x] := by
      unfold bst
      rw [if_pos (opn_iff.2 ⟨rfl, List.not_mem_nil, hx⟩)]
    show brn allT [] (bst allT [] p x) q = _
    rw [e, brn_self q (p ++ [x]) (by rw [List.append_assoc]; exact h), List.append_assoc]
    rfl
theorem few_of {J : Nat → Bool} {v q : List Nat} {n : Nat} (hd : q.Nodup) (hl : ∀ x ∈ q, x < n) : Few J v n q := by
  have h := few_brn (J := allT) (v := []) (n := n) q [] hl (by unfold Few; have := cntp_le (opn allT [] []) n; simpa using this)
  rw [brn_self q [] (by simpa using hd), List.nil_append] at h
  unfold Few at h ⊢
  have := cntp_mono (p := opn J v q) (r := opn allT [] q) (fun j hj => by
    obtain ⟨_, _, h3⟩ := opn_iff.1 hj
    exact opn_iff.2 ⟨rfl, List.not_mem_nil, h3⟩) n
  omega
theorem brs_mem {J : Nat → Bool} {near : Nat → List Nat} {v q : List Nat} : ∀ k, ∀ x ∈ brs J near v q k, x ∈ q ∨ (J x = true ∧ x ∉ v) := by
  intro k
  induction k with
  | zero => exact fun x hx => .inl hx
  | succ k ih =>
    rcases brs_succ_or J near v q k with ⟨hz, e⟩ | ⟨hk, e⟩
    · rw [e]; exact ih
    · rw [e]
      refine brn_keeps (M := fun p => ∀ x ∈ p, x ∈ q ∨ (J x = true ∧ x ∉ v)) (D := fun _ => True) ?_ _ _ (fun _ _ => trivial) ih
      intro p i _ hM x hx
      rcases mem_bst.1 hx with h1 | ⟨rfl, h1⟩
      · exact hM x h1
      · exact .inr ⟨(opn_iff.1 h1).1, (opn_iff.1 h1).2.1⟩
theorem mem_brn {J : Nat → Bool} {v : List Nat} {x : Nat} : ∀ (l q : List Nat), x ∈ brn J v q l → x ∈ q ∨ (x ∈ l ∧ J x = true ∧ x ∉ v ∧ x ∉ q)
  | [], q, h => .inl h
  | y :: l, q, h => by
    rcases mem_brn l (bst J v q y) h with h1 | ⟨h1, h2, h3, h4⟩
    · rcases mem_bst.1 h1 with h2 | ⟨rfl, h2⟩
      · exact .inl h2
      · obtain ⟨a, b, c⟩ := opn_iff.1 h2
        exact .inr ⟨List.mem_cons_self .., a, b, c⟩
    · exact .inr ⟨List.mem_cons_of_mem _ h1, h2, h3, fun hq => h4 (mem_bst.2 (.inl hq))⟩
theorem brn_nodup {J : Nat → Bool} {v : List Nat} (l q : List Nat) (h : q.Nodup) : (brn J v q l).Nodup := by
  refine brn_keeps (M := List.Nodup) (D := fun _ => True) ?_ l q (fun _ _ => trivial) h
  intro q i _ hM
  unfold bst
  split
  · rename_i ho
    rw [List.nodup_append]
    refine ⟨hM, by simp, ?_⟩
    intro a ha b hb e
    rw [List.mem_singleton] at hb
    subst hb; subst e
    exact (opn_iff.1 ho).2.2 ha
  · exact hM
def lvQ (J : Nat → Bool) (near : Nat → List Nat) (n : Nat) (s : List Nat × List Nat) : List Nat := brs J near s.1 s.2 n
def lvD (J E : Nat → Bool) (near : Nat → List Nat) (n : Nat) (s : List Nat × List Nat) : List Nat := brn E (s.1 ++ s.2) [] ((lvQ J near n s).flatMap near)
/-- The cells of the levels before, and those from which the next level begins. -/
def lst (J E : Nat → Bool) (near : Nat → List Nat) (n src : Nat) : Nat → List Nat × List Nat
  | 0 => ([], [src])
  | k + 1 => ((lst J E near n src k).1 ++ lvQ J near n (lst J E near n src k), lvD J E near n (lst J E near n src k))
def LQ (J E : Nat → Bool) (near : Nat → List Nat) (n src k : Nat) : List Nat := lvQ J near n (lst J E near n src k)
/-- A search's setting. -/
structure Lev (J E : Nat → Bool) (near : Nat → List Nat) (n src : Nat) : Prop where
  je : ∀ y, J y = true → E y = true → False
  near : ∀ x, x < n → ∀ y ∈ near x, y < n
  src : src < n
variable {J E : Nat → Bool} {near : Nat → List Nat} {n src : Nat}
theorem mem_lvD {s : List Nat × List Nat} {y : Nat} : y ∈ lvD J E near n s ↔ E y = true ∧ y ∉ s.1 ∧ y ∉ s.2 ∧ ∃ x ∈ lvQ J near n s, y ∈ near x := by
  unfold lvD
  constructor
  · intro h
    rcases mem_brn _ _ h with h1 | ⟨h1, h2, h3, _⟩
    · exact absurd h1 List.not_mem_nil
    · obtain ⟨x, hx, hy⟩ := List.mem_flatMap.1 h1
      rw [List.mem_append] at h3
      exact ⟨h2, fun q => h3 (.inl q), fun q => h3 (.inr q), x, hx, hy⟩
  · rintro ⟨h1, h2, h3, x, hx, hy⟩
    exact mem_brn_open h1 (fun hq => (List.mem_append.1 hq).elim h2 h3) _ _ (List.mem_flatMap.2 ⟨x, hx, hy⟩)
structure LInv (J E : Nat → Bool) (near : Nat → List Nat) (n : Nat) (s : List Nat × List Nat) : Prop where
  nd : (s.1 ++ s.2).Nodup
  lt : ∀ x ∈ s.1 ++ s.2, x < n
theorem LInv.few {s : List Nat × List Nat} (h : LInv J E near n s) : Few J s.1 n s.2 :=
  few_of (List.nodup_append.1 h.nd).2.1 (fun x hx => h.lt x (List.mem_append.2 (.inr hx)))
theorem LInv.q {s : List Nat × List Nat} (H : Lev J E near n src) (h : LInv J E near n s) : (s.1 ++ lvQ J near n s).Nodup ∧ (∀ x ∈ s.1 ++ lvQ J near n s, x < n) ∧ (lvQ J near n s).length ≤ n := by
  obtain ⟨n1, n2, n3⟩ := List.nodup_append.1 h.nd
  have hf := brs_few (J := J) (near := near) (v := s.1) (q := s.2) H.near (fun x hx => h.lt x (List.mem_append.2 (.inr hx))) h.few n
  refine ⟨?_, ?_, few_len hf.1⟩
  · rw [List.nodup_append]
    refine ⟨n1, brs_nodup n2 n, fun a ha b hb e => ?_⟩
    subst e
    rcases brs_mem n a hb with h1 | ⟨_, h1⟩
    · exact n3 a ha a h1 rfl
    · exact h1 ha
  · intro x hx
    rcases List.mem_append.1 hx with h1 | h1
    · exact h.lt x (List.mem_append.2 (.inl h1))
    · exact hf.2 x h1
theorem LInv.step {s : List Nat × List Nat} (H : Lev J E near n src) (h : LInv J E near n s) : LInv J E near n (s.1 ++ lvQ J near n s, lvD J E near n s) := by
  obtain ⟨h1, h2, _⟩ := h.q H
  constructor
  · show ((s.1 ++ lvQ J near n s) ++ lvD J E near n s).Nodup
    rw [List.nodup_append]
    refine ⟨h1, brn_nodup _ _ List.nodup_nil, fun a ha b hb e => ?_⟩
    subst e
    obtain ⟨e1, e2, e3, _⟩ := mem_lvD.1 hb
    rcases List.mem_append.1 ha with q | q
    · exact e2 q
    · rcases brs_mem n a q with q1 | ⟨q1, _⟩
      · exact e3 q1
      · exact H.je a q1 e1
  · intro x hx
    rcases List.mem_append.1 hx with q | q
    · exact h2 x q
    · obtain ⟨_, _, _, y, hy, hxy⟩ := mem_lvD.1 q
      exact H.near y (h2 y (List.mem_append.2 (.inr hy))) x hxy
theorem lst_inv (H : Lev J E near n src) : ∀ k, LInv J E near n (lst J E near n src k)
  | 0 => ⟨by simp [lst], by intro x hx; simp [lst] at hx; subst hx; exact H.src⟩
  | k + 1 => (lst_inv H k).step H
theorem mem_lst {x : Nat} : ∀ k, x ∈ (lst J E near n src k).1 ↔ ∃ j, j < k ∧ x ∈ LQ J E near n src j
  | 0 => by simp [lst]
  | k + 1 => by
    show x ∈ (lst J E near n src k).1 ++ lvQ J near n (lst J E near n src k) ↔ _
    rw [List.mem_append, mem_lst k]
    constructor
    · rintro (⟨j, h1, h2⟩ | h)
      · exact ⟨j, by omega, h2⟩
      · exact ⟨k, by omega, h⟩
    · rintro ⟨j, h1, h2⟩
      rcases Nat.eq_or_lt_of_le (show j ≤ k by omega) with e | e
      · subst e; exact .inr h2
      · exact .inl ⟨j, e, h2⟩
theorem LQ_apart (H : Lev J E near n src) {x i j : Nat} (hi : x ∈ LQ J E near n src i) (hj : x ∈ LQ J E near n src j) : i = j := by
  have key : ∀ i j, i < j → x ∈ LQ J E near n src i → x ∈ LQ J E near n src j → False := fun i j h h1 h2 =>
    (List.nodup_append.1 ((lst_inv H j).q H).1).2.2 x ((mem_lst j).2 ⟨i, h, h1⟩) x h2 rfl
  rcases Nat.lt_trichotomy i j with h | h | h
  · exact (key i j h hi hj).elim
  · exact h
  · exact (key j i h hj hi).elim
theorem LQ_lt (H : Lev J E near n src) {x k : Nat} (h : x ∈ LQ J E near n src k) : x < n := ((lst_inv H k).q H).2.1 x (List.mem_append.2 (.inr h))
theorem LQ_src : src ∈ LQ J E near n src 0 := brs_le (by simp [lst]) _
/-- A joining neighbour has been found by then; an empty one is found one level on. -/
theorem LQ_join (H : Lev J E near n src) {x y k : Nat} (h : x ∈ LQ J E near n src k) (hy : y ∈ near x) (hJ : J y = true) : ∃ j, j ≤ k ∧ y ∈ LQ J E near n src j := by
  by_cases hv : y ∈ (lst J E near n src k).1
  · obtain ⟨j, h1, h2⟩ := (mem_lst k).1 hv
    exact ⟨j, by omega, h2⟩
  · exact ⟨k, Nat.le_refl _, brs_closed ((lst_inv H k).q H).2.2 x h y hy hJ hv⟩
theorem LQ_empty {x y k : Nat} (h : x ∈ LQ J E near n src k) (hy : y ∈ near x) (hE : E y = true) : ∃ j, j ≤ k + 1 ∧ y ∈ LQ J E near n src j := by
  by_cases hv : y ∈ (lst J E near n src k).1
  · obtain ⟨j, h1, h2⟩ := (mem_lst k).1 hv
    exact ⟨j, by omega, h2⟩
  · by_cases hq : y ∈ (lst J E near n src k).2
    · exact ⟨k, by omega, brs_le hq _⟩
    · exact ⟨k + 1, Nat.le_refl _, brs_le (mem_lvD.2 ⟨hE, hv, hq, x, h, hy⟩) _⟩
/-- .. reached in t steps at a cost of k. -/
def Pth (J E : Nat → Bool) (near : Nat → List Nat) (src : Nat) : Nat → Nat → Nat → Prop
  | 0, x, k => x = src ∧ k = 0
  | t + 1, x, k => Pth J E near src t x k ∨ ∃ y k', Pth J E near src t y k' ∧ x ∈ near y ∧ ((J x = true ∧ k = k') ∨ (E x = true ∧ k = k' + 1))
theorem Pth.mono {x k : Nat} : ∀ {t t' : Nat}, Pth J E near src t x k → t ≤ t' → Pth J E near src t' x k := by
  intro t t' h ht
  induction t' with
  | zero => obtain rfl : t = 0 := by omega
            exact h
  | succ t' ih =>
    rcases Nat.eq_or_lt_of_le ht with e | e
    · subst e; exact h
    · exact .inl (ih (by omega))
theorem Pth.lt (H : Lev J E near n src) {x k : Nat} : ∀ {t : Nat}, Pth J E near src t x k → x < n := by
  intro t
  induction t generalizing x k with
  | zero => rintro ⟨rfl, _⟩; exact H.src
  | succ t ih =>
    rintro (h | ⟨y, k', h, hx, _⟩)
    · exact ih h
    · exact H.near y (ih h) x hx
def Reach (J E : Nat → Bool) (near : Nat → List Nat) (src b k : Nat) (q : List Nat) : Prop := ∀ i (h : i < q.length), Pth J E near src (b + i) q[i] k
theorem Reach.push {b k x : Nat} {q : List Nat} (h : Reach J E near src b k q) (hx : Pth J E near src (b + q.length) x k) : Reach J E near src b k (q ++ [x]) := by
  intro i hi
  rw [List.length_append, List.length_singleton] at hi
  by_cases e : i < q.length
  · rw [List.getElem_append_left e]; exact h i e
  · obtain rfl : i = q.length := by omega
    rw [List.getElem_append_right (Nat.le_refl _)]
    simpa using hx
theorem Reach.brs {b k : Nat} {v q : List Nat} (h : Reach J E near src b k q) : ∀ m, Reach J E near src b k (brs J near v q m) := by
  intro m
  induction m with
  | zero => exact h
  | succ m ih =>
    rcases brs_succ_or J near v q m with ⟨hz, e⟩ | ⟨hk, e⟩
    · rw [e]; exact ih
    · rw [e]
      have hp := ih m hk
      refine (brn_keeps (M := fun p => Reach J E near src b k p ∧ m < p.length) (D := fun y => y ∈ near (Go.Proofs.Ytkgbbondafcjpaa.brs J near v q m)[m]) ?_ _ _ (fun _ h => h) ⟨ih, hk⟩).1
      rintro p y hy ⟨hM, hm⟩
      unfold bst
      split
      · rename_i ho
        refine ⟨hM.push ?_, by rw [List.length_append]; omega⟩
        exact Pth.mono (t := b + m + 1) (.inr ⟨_, k, hp, hy, .inl ⟨(opn_iff.1 ho).1, rfl⟩⟩) (by omega)
      · exact ⟨hM, hm⟩
theorem lst_reach (H : Lev J E near n src) : ∀ k, Reach J E near src (lst J E near n src k).1.length k (lst J E near n src k).2
  | 0 => by
    intro i hi
    obtain rfl : i = 0 := by simp [lst] at hi; omega
    exact ⟨rfl, rfl⟩
  | k + 1 => by
    intro i hi
    have hm := List.getElem_mem hi
    have hQ := (lst_reach H k).brs (v := (lst J E near n src k).1) n
    generalize hy : (lst J E near n src (k + 1)).2[i] = y at *
    obtain ⟨hE, _, _, x, hx, hxy⟩ := mem_lvD.1 hm
    obtain ⟨p, hp, rfl⟩ := List.getElem_of_mem hx
    have hl : (lst J E near n src (k + 1)).1.length = (lst J E near n src k).1.length + (lvQ J near n (lst J E near n src k)).length := by
      show ((lst J E near n src k).1 ++ lvQ J near n (lst J E near n src k)).length = _
      rw [List.length_append]
    exact Pth.mono (t := (lst J E near n src k).1.length + p + 1) (.inr ⟨_, k, hQ p hp, hxy, .inr ⟨hE, rfl⟩⟩) (by omega)
theorem LQ_pth (H : Lev J E near n src) {x k : Nat} (h : x ∈ LQ J E near n src k) : Pth J E near src n x k := by
  have hQ := (lst_reach H k).brs (v := (lst J E near n src k).1) n
  obtain ⟨p, hp, rfl⟩ := List.getElem_of_mem h
  obtain ⟨h1, h2, _⟩ := (lst_inv H k).q H
  have hf := few_len (few_of (J := J) (v := []) h1 h2)
  rw [List.length_append] at hf
  have hp' : p < (lvQ J near n (lst J E near n src k)).length := hp
  exact Pth.mono (hQ p hp) (by omega)
/-- Levels that begin nowhere are empty. -/
theorem LQ_nil {k : Nat} (h : (lst J E near n src k).2 = []) : ∀ j, k ≤ j → (lst J E near n src j).2 = [] ∧ LQ J E near n src j = [] := by
  have hQ : ∀ j, (lst J E near n src j).2 = [] → LQ J E near n src j = [] := fun j hj => by
    unfold LQ lvQ
    rw [hj]
    exact brs_stop J near _ [] 0 (Nat.le_refl _) n (Nat.zero_le _)
  intro j hj
  induction j with
  | zero => obtain rfl : k = 0 := by omega
            exact ⟨h, hQ 0 h⟩
  | succ j ih =>
    rcases Nat.eq_or_lt_of_le hj with e | e
    · subst e; exact ⟨h, hQ _ h⟩
    · have h1 := (ih (by omega)).2
      have h2 : (lst J E near n src (j + 1)).2 = [] := by
        show lvD J E near n (lst J E near n src j) = []
        unfold lvD
        unfold LQ at h1
        rw [h1]
        rfl
      exact ⟨h2, hQ _ h2⟩
end Go.Proofs.Ytkgbbondafcjpaa
