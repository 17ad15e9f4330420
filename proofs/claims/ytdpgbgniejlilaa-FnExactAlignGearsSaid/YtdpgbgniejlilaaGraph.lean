/- Groups of joined cells, without a program: a search that goes on from its found cells in order (lists of numbers), the groups in the order of their least cells, and the number of a cell's group. -/
import Derived.Test.YtdpgbgniejlilaaRows2
namespace Go.Proofs.Ytdpgbgniejlilaa
open Go.ChangeShapes Go.WideShapes Go.ChangeAt Go.RowKit Go.Joins Go.Deep
set_option linter.unusedSimpArgs false
set_option linter.unusedVariables false
set_option maxRecDepth 100000
set_option maxHeartbeats 400000
/-- A cell that may still be found: it joins, is in no group yet, and not found. -/
def opn (J : Nat → Bool) (v q : List Nat) (i : Nat) : Bool := J i && !v.contains i && !q.contains i
def bst (J : Nat → Bool) (v q : List Nat) (i : Nat) : List Nat := if opn J v q i then q ++ [i] else q
def brn (J : Nat → Bool) (v q : List Nat) (l : List Nat) : List Nat := l.foldl (bst J v) q
def bro (J : Nat → Bool) (near : Nat → List Nat) (v q : List Nat) (k : Nat) : List Nat :=
  match q[k]? with
  | some x => brn J v q (near x)
  | none => q
def brs (J : Nat → Bool) (near : Nat → List Nat) (v q : List Nat) : Nat → List Nat
  | 0 => q
  | k + 1 => bro J near v (brs J near v q k) k
theorem brn_snoc (J : Nat → Bool) (v q l : List Nat) (x : Nat) : brn J v q (l ++ [x]) = bst J v (brn J v q l) x := by
  unfold brn; rw [List.foldl_append]; rfl
theorem brn_take (J : Nat → Bool) (v q l : List Nat) (k : Nat) (h : k < l.length) : brn J v q (l.take (k + 1)) = bst J v (brn J v q (l.take k)) l[k] := by
  rw [List.take_succ_eq_append_getElem h, brn_snoc]
theorem brs_at (J : Nat → Bool) (near : Nat → List Nat) (v q : List Nat) (k : Nat) (h : k < (brs J near v q k).length) : brs J near v q (k + 1) = brn J v (brs J near v q k) (near (brs J near v q k)[k]) := by
  show bro J near v (brs J near v q k) k = _
  unfold bro
  rw [List.getElem?_eq_getElem h]
theorem brs_stop (J : Nat → Bool) (near : Nat → List Nat) (v q : List Nat) (k : Nat) (h : (brs J near v q k).length ≤ k) : ∀ m, k ≤ m → brs J near v q m = brs J near v q k := by
  intro m hm
  induction m with
  | zero => rw [show k = 0 by omega]
  | succ m ih =>
    rcases Nat.eq_or_lt_of_le hm with e | e
    · rw [e]
    · have e1 := ih (by omega)
      show bro J near v (brs J near v q m) m = _
      rw [e1]
      unfold bro
      rw [List.getElem?_eq_none (by omega)]
/-! ### how many -/
def cntp (p : Nat → Bool) : Nat → Nat
  | 0 => 0
  | n + 1 => cntp p n + (if p n then 1 else 0)
theorem cntp_le (p : Nat → Bool) (n : Nat) : cntp p n ≤ n := by
  induction n with
  | zero => exact Nat.le_refl _
  | succ n ih =>
    show cntp p n + (if p n then 1 else 0) ≤ n + 1
    split <;> omega
theorem cntp_congr {p r : Nat → Bool} {n : Nat} (h : ∀ j, j < n → p j = r j) : cntp p n = cntp r n := by
  induction n with
  | zero => rfl
  | succ n ih =>
    show cntp p n + (if p n then 1 else 0) = cntp r n + (if r n then 1 else 0)
    rw [ih (fun j hj => h j (by omega)), h n (by omega)]
theorem cntp_drop {p r : Nat → Bool} {i n : Nat} (hi : i < n) (hp : p i = true) (hr : r i = false) (h : ∀ j, j ≠ i → r j = p j) : cntp p n = cntp r n + 1 := by
  induction n with
  | zero => omega
  | succ n ih =>
    show cntp p n + (if p n then 1 else 0) = cntp r n + (if r n then 1 else 0) + 1
    by_cases e : n = i
    · subst e
      rw [hp, hr, cntp_congr (fun j hj => (h j (by omega)).symm)]
      simp
    · rw [ih (by omega), h n e]
      omega
theorem opn_snoc (J : Nat → Bool) (v q : List Nat) (x j : Nat) : opn J v (q ++ [x]) j = (opn J v q j && !(j == x)) := by
  unfold opn
  rw [List.contains_eq_any_beq, List.contains_eq_any_beq, List.contains_eq_any_beq, List.any_append, Bool.not_or]
  simp [Bool.and_assoc]
/-- What has been found and what may still be found are no more than n together. -/
def Few (J : Nat → Bool) (v : List Nat) (n : Nat) (q : List Nat) : Prop := q.length + cntp (opn J v q) n ≤ n
theorem few_bst {J : Nat → Bool} {v q : List Nat} {n i : Nat} (h : Few J v n q) (hi : i < n) : Few J v n (bst J v q i) := by
  unfold bst
  split
  · rename_i ho
    unfold Few at h ⊢
    have := cntp_drop (p := opn J v q) (r := opn J v (q ++ [i])) hi ho (by rw [opn_snoc]; simp) (fun j hj => by rw [opn_snoc]; simp [hj])
    rw [List.length_append, List.length_singleton]
    omega
  · exact h
theorem few_brn {J : Nat → Bool} {v : List Nat} {n : Nat} : ∀ (l : List Nat) (q : List Nat), (∀ x ∈ l, x < n) → Few J v n q → Few J v n (brn J v q l)
  | [], q, _, h => h
  | x :: l, q, hl, h => few_brn l (bst J v q x) (fun y hy => hl y (List.mem_cons_of_mem _ hy)) (few_bst h (hl x (List.mem_cons_self ..)))
theorem mem_bst {J : Nat → Bool} {v q : List Nat} {i x : Nat} : x ∈ bst J v q i ↔ x ∈ q ∨ (x = i ∧ opn J v q i = true) := by
  unfold bst
  split
  · rename_i h; rw [List.mem_append, List.mem_singleton, h]; simp
  · rename_i h; simp [h]
theorem mem_brn_le {J : Nat → Bool} {v : List Nat} {x : Nat} : ∀ (l q : List Nat), x ∈ q → x ∈ brn J v q l
  | [], q, h => h
  | y :: l, q, h => mem_brn_le l (bst J v q y) (mem_bst.2 (.inl h))
theorem opn_iff {J : Nat → Bool} {v q : List Nat} {i : Nat} : opn J v q i = true ↔ J i = true ∧ i ∉ v ∧ i ∉ q := by
  unfold opn
  simp [and_assoc]
theorem mem_brn_open {J : Nat → Bool} {v : List Nat} {x : Nat} (hJ : J x = true) (hv : x ∉ v) : ∀ (l q : List Nat), x ∈ l → x ∈ brn J v q l
  | [], q, h => absurd h (List.not_mem_nil)
  | y :: l, q, h => by
    show x ∈ brn J v (bst J v q y) l
    by_cases hq : x ∈ bst J v q y
    · exact mem_brn_le l _ hq
    · rcases List.mem_cons.1 h with e | e
      · subst e
        exact absurd (mem_bst.2 (by
          by_cases hx : x ∈ q
          · exact .inl hx
          · exact .inr ⟨rfl, opn_iff.2 ⟨hJ, hv, hx⟩⟩)) hq
      · exact mem_brn_open hJ hv l _ e
theorem brn_prefix {J : Nat → Bool} {v : List Nat} : ∀ (l q : List Nat), q <+: brn J v q l
  | [], q => List.prefix_refl q
  | y :: l, q => by
    refine List.IsPrefix.trans ?_ (brn_prefix l (bst J v q y))
    unfold bst
    split
    · exact List.prefix_append _ _
    · exact List.prefix_refl _
/-- A property of lists that a step keeps is one of the whole search. -/
theorem brn_keeps {J : Nat → Bool} {v : List Nat} {M : List Nat → Prop} {D : Nat → Prop} (hM : ∀ q i, D i → M q → M (bst J v q i)) : ∀ (l q : List Nat), (∀ x ∈ l, D x) → M q → M (brn J v q l)
  | [], q, _, h => h
  | x :: l, q, hl, h => brn_keeps hM l (bst J v q x) (fun y hy => hl y (List.mem_cons_of_mem _ hy)) (hM q x (hl x (List.mem_cons_self ..)) h)
theorem brs_succ_or (J : Nat → Bool) (near : Nat → List Nat) (v q : List Nat) (k : Nat) : ((brs J near v q k).length ≤ k ∧ brs J near v q (k + 1) = brs J near v q k) ∨ ∃ h : k < (brs J near v q k).length, brs J near v q (k + 1) = brn J v (brs J near v q k) (near (brs J near v q k)[k]) := by
  rcases Nat.lt_or_ge k (brs J near v q k).length with h | h
  · exact .inr ⟨h, brs_at J near v q k h⟩
  · exact .inl ⟨h, brs_stop J near v q k h (k + 1) (by omega)⟩
theorem brs_few {J : Nat → Bool} {near : Nat → List Nat} {v q : List Nat} {n : Nat} (hn : ∀ x, x < n → ∀ y ∈ near x, y < n) (hq : ∀ x ∈ q, x < n) (h : Few J v n q) : ∀ k, Few J v n (brs J near v q k) ∧ ∀ x ∈ brs J near v q k, x < n := by
  intro k
  induction k with
  | zero => exact ⟨h, hq⟩
  | succ k ih =>
    rcases brs_succ_or J near v q k with ⟨hz, e⟩ | ⟨hk, e⟩
    · rw [e]; exact ih
    · rw [e]
      have hx := ih.2 _ (List.getElem_mem hk)
      refine ⟨few_brn _ _ (hn _ hx) ih.1, brn_keeps (M := fun q => ∀ x ∈ q, x < n) (D := fun i => i < n) ?_ _ _ (hn _ hx) ih.2⟩
      intro q i hi hM x hx
      rcases mem_bst.1 hx with h1 | ⟨rfl, _⟩
      · exact hM x h1
      · exact hi
theorem few_len {J : Nat → Bool} {v q : List Nat} {n : Nat} (h : Few J v n q) : q.length ≤ n := by unfold Few at h; omega
theorem few_one {J : Nat → Bool} {v : List Nat} {n i : Nat} (hi : i < n) (ho : opn J v [] i = true) : Few J v n [i] := by
  have h := few_bst (J := J) (v := v) (q := []) (n := n) (i := i) (by unfold Few; have := cntp_le (opn J v []) n; simpa using this) hi
  unfold bst at h
  rw [ho] at h
  exact h
/-- The search has come to its end when its next cell is none: no further round turns it. -/
theorem brs_end {J : Nat → Bool} {near : Nat → List Nat} {v q : List Nat} {k n : Nat} (h : (brs J near v q k).length ≤ k) (hk : k ≤ n) : brs J near v q k = brs J near v q n := (brs_stop J near v q k h n hk).symm
theorem brs_le {J : Nat → Bool} {near : Nat → List Nat} {v q : List Nat} {x : Nat} (h : x ∈ q) : ∀ k, x ∈ brs J near v q k := by
  intro k
  induction k with
  | zero => exact h
  | succ k ih =>
    rcases brs_succ_or J near v q k with ⟨hz, e⟩ | ⟨hk, e⟩
    · rw [e]; exact ih
    · rw [e]; exact mem_brn_le _ _ ih
/-- Whatever is found joins and was in no group. -/
theorem brs_joins {J : Nat → Bool} {near : Nat → List Nat} {v q : List Nat} (h : ∀ x ∈ q, J x = true ∧ x ∉ v) : ∀ k, ∀ x ∈ brs J near v q k, J x = true ∧ x ∉ v := by
  intro k
  induction k with
  | zero => exact h
  | succ k ih =>
    rcases brs_succ_or J near v q k with ⟨hz, e⟩ | ⟨hk, e⟩
    · rw [e]; exact ih
    · rw [e]
      refine brn_keeps (M := fun q => ∀ x ∈ q, J x = true ∧ x ∉ v) (D := fun _ => True) ?_ _ _ (fun _ _ => trivial) ih
      intro q i _ hM x hx
      rcases mem_bst.1 hx with h1 | ⟨rfl, h1⟩
      · exact hM x h1
      · exact ⟨(opn_iff.1 h1).1, (opn_iff.1 h1).2.1⟩
theorem brs_nodup {J : Nat → Bool} {near : Nat → List Nat} {v q : List Nat} (h : q.Nodup) : ∀ k, (brs J near v q k).Nodup := by
  intro k
  induction k with
  | zero => exact h
  | succ k ih =>
    rcases brs_succ_or J near v q k with ⟨hz, e⟩ | ⟨hk, e⟩
    · rw [e]; exact ih
    · rw [e]
      refine brn_keeps (M := List.Nodup) (D := fun _ => True) ?_ _ _ (fun _ _ => trivial) ih
      intro q i _ hM
      unfold bst
      split
      · rename_i ho
        rw [List.nodup_append]
        refine ⟨hM, by simp, ?_⟩
        intro a ha b hb e
        rw [List.mem_singleton] at hb
        subst hb; subst e
        exact (opn_iff.1 ho).2.2 ha
      · exact hM
/-- It stays in what is closed. -/
theorem brs_inside {J : Nat → Bool} {near : Nat → List Nat} {v q : List Nat} {S : Nat → Prop} (hS : ∀ x, S x → ∀ y ∈ near x, J y = true → y ∉ v → S y) (h : ∀ x ∈ q, S x) : ∀ k, ∀ x ∈ brs J near v q k, S x := by
  intro k
  induction k with
  | zero => exact h
  | succ k ih =>
    rcases brs_succ_or J near v q k with ⟨hz, e⟩ | ⟨hk, e⟩
    · rw [e]; exact ih
    · rw [e]
      have hx := ih _ (List.getElem_mem hk)
      refine brn_keeps (M := fun q => ∀ x ∈ q, S x) (D := fun y => y ∈ near (brs J near v q k)[k]) ?_ _ _ (fun _ h => h) ih
      intro q i hi hM x hx'
      rcases mem_bst.1 hx' with h1 | ⟨rfl, h1⟩
      · exact hM x h1
      · exact hS _ hx x hi (opn_iff.1 h1).1 (opn_iff.1 h1).2.1
theorem brs_prefix (J : Nat → Bool) (near : Nat → List Nat) (v q : List Nat) (k : Nat) : brs J near v q k <+: brs J near v q (k + 1) := by
  rcases brs_succ_or J near v q k with ⟨hz, e⟩ | ⟨hk, e⟩
  · rw [e]; exact List.prefix_refl _
  · rw [e]; exact brn_prefix _ _
theorem brs_done {J : Nat → Bool} {near : Nat → List Nat} {v q : List Nat} : ∀ k m, m < k → ∀ hm : m < (brs J near v q k).length, ∀ y ∈ near (brs J near v q k)[m], J y = true → y ∉ v → y ∈ brs J near v q k := by
  intro k
  induction k with
  | zero => intro m hm; omega
  | succ k ih =>
    intro m hmk hm y hy hJ hv
    have hp := brs_prefix J near v q k
    rcases brs_succ_or J near v q k with ⟨hz, e⟩ | ⟨hk, e⟩
    · rcases Nat.lt_or_ge m k with h1 | h1
      · have hm' : m < (brs J near v q k).length := by rw [← e]; exact hm
        have e2 : (brs J near v q (k + 1))[m] = (brs J near v q k)[m] := by simp [e]
        rw [e2] at hy
        rw [e]
        exact ih m h1 hm' y hy hJ hv
      · have : m < (brs J near v q k).length := by rw [← e]; exact hm
        omega
    · rcases Nat.lt_or_ge m k with h1 | h1
      · have hm' : m < (brs J near v q k).length := by omega
        have e2 : (brs J near v q (k + 1))[m] = (brs J near v q k)[m] := (List.IsPrefix.getElem hp hm').symm
        rw [e2] at hy
        have := ih m h1 hm' y hy hJ hv
        rw [e]
        exact mem_brn_le _ _ this
      · have e3 : m = k := by omega
        subst e3
        have e2 : (brs J near v q (m + 1))[m] = (brs J near v q m)[m] := (List.IsPrefix.getElem hp hk).symm
        rw [e2] at hy
        rw [e]
        exact mem_brn_open hJ hv _ _ hy
/-- Behind the whole search: a neighbour that joins has been found too, or is in a group. -/
theorem brs_closed {J : Nat → Bool} {near : Nat → List Nat} {v q : List Nat} {n : Nat} (hl : (brs J near v q n).length ≤ n) : ∀ x ∈ brs J near v q n, ∀ y ∈ near x, J y = true → y ∉ v → y ∈ brs J near v q n := by
  intro x hx y hy hJ hv
  obtain ⟨m, hm, rfl⟩ := List.getElem_of_mem hx
  exact brs_done n m (by omega) hm y hy hJ hv
/-! ### the groups -/
def grp (J : Nat → Bool) (near : Nat → List Nat) (n : Nat) (G : List (List Nat)) (i : Nat) : List Nat := brs J near G.flatten [i] n
def gst (J : Nat → Bool) (near : Nat → List Nat) (n : Nat) (G : List (List Nat)) (i : Nat) : List (List Nat) := if opn J G.flatten [] i then G ++ [grp J near n G i] else G
def gat (J : Nat → Bool) (near : Nat → List Nat) (n : Nat) : Nat → List (List Nat)
  | 0 => []
  | k + 1 => gst J near n (gat J near n k) k
/-- The number of the group of a cell, or -1. -/
def num : List (List Nat) → Nat → Nat → Int
  | [], _, _ => -1
  | g :: G, c, j => if g.contains j then (c : Int) else num G (c + 1) j
theorem num_neg {j : Nat} : ∀ (G : List (List Nat)) (c : Nat), num G c j < 0 ↔ j ∉ G.flatten
  | [], c => by simp [num]
  | g :: G, c => by
    unfold num
    have ih := num_neg (j := j) G (c + 1)
    by_cases h : j ∈ g
    · simp [h]
    · simp only [List.contains_iff_mem, h, if_false, List.flatten_cons, List.mem_append, false_or]
      exact ih
theorem num_ge {j : Nat} : ∀ (G : List (List Nat)) (c : Nat), -1 ≤ num G c j ∧ num G c j < c + G.length
  | [], c => by constructor <;> (simp [num]; try omega)
  | g :: G, c => by
    unfold num
    have ih := num_ge (j := j) G (c + 1)
    rw [List.length_cons]
    split
    · constructor <;> omega
    · constructor <;> omega
theorem num_lone {j : Nat} (G : List (List Nat)) (c : Nat) (h : num G c j < 0) : num G c j = -1 := by have := (num_ge (j := j) G c).1; omega
theorem num_snoc {j : Nat} (q : List Nat) : ∀ (G : List (List Nat)) (c : Nat), num (G ++ [q]) c j = if j ∈ G.flatten then num G c j else if j ∈ q then ((c + G.length : Nat) : Int) else -1
  | [], c => by simp [num]
  | g :: G, c => by
    have ih := num_snoc (j := j) q G (c + 1)
    show (if g.contains j then (c : Int) else num (G ++ [q]) (c + 1) j) = _
    rw [ih]
    by_cases h : j ∈ g
    · simp [h, num]
    · simp only [List.contains_iff_mem, h, if_false, List.flatten_cons, List.mem_append, false_or, num, List.length_cons]
      rw [show c + 1 + G.length = c + (G.length + 1) by omega]
theorem num_from {j : Nat} : ∀ (G : List (List Nat)) (c : Nat), num G c j = -1 ∨ (c : Int) ≤ num G c j
  | [], c => .inl rfl
  | g :: G, c => by
    unfold num
    split
    · exact .inr (Int.le_refl _)
    · rcases num_from (j := j) G (c + 1) with h | h
      · exact .inl h
      · exact .inr (by omega)
theorem num_mem {j : Nat} : ∀ (G : List (List Nat)) (c k : Nat), num G c j = ((c + k : Nat) : Int) → ∃ g, G[k]? = some g ∧ j ∈ g
  | [], c, k, h => by simp [num] at h; omega
  | g :: G, c, k, h => by
    unfold num at h
    split at h
    · rename_i hg
      have : k = 0 := by omega
      subst this
      exact ⟨g, rfl, by simpa using hg⟩
    · cases k with
      | zero =>
        have := (num_ge (j := j) G (c + 1))
        rcases Int.lt_or_le (num G (c + 1) j) 0 with h1 | h1
        · omega
        · exfalso
          have h2 := num_from (j := j) G (c + 1)
          omega
      | succ k =>
        obtain ⟨g', h1, h2⟩ := num_mem G (c + 1) k (by rw [h]; omega)
        exact ⟨g', by simpa using h1, h2⟩
end Go.Proofs.Ytdpgbgniejlilaa
