/- Contracts of the program and of the model, walked, part 3 of 9. No condition but what each says. -/
import Derived.Test.YtlambflmabecfaaGreatM1
import Derived.Maps.OwnSet
import Derived.Deep.RegionHeld3
import Derived.Deep.AppendLies
import Derived.Lib.BufferMore
import Derived.Deep.DeepCutAuto
import Derived.Deep.RegionLaw
import Derived.BigQuiet
import Derived.Maps.AppendAt
import Derived.Sort.OwnSortedInts
import Derived.Test.YtlambflmabecfaaGreatShelf
namespace Go.Proofs.YtlambflmabecfaaGreat
open Go.ChangeShapes Go.WideShapes Go.ChangeAt Go.RowKit Go.Joins Go.Deep
set_option linter.unusedSimpArgs false
set_option linter.unusedVariables false
set_option maxRecDepth 100000
set_option maxHeartbeats 400000
def goN (k s d : Int) : Int := if k = 1 then -1 else if k = 2 then 1 else if k = 3 ∨ k = 6 then 2 * s - 1 else if k = 4 then -d else 0
def goB (k s d : Int) : Bool := good k s && decide (-1 ≤ d ∧ d ≤ 1 ∧ k ≠ 5)
theorem spec_paGoes (a b d : Int) (h : good a b = true) (h1 : -1 ≤ d) (h2 : d ≤ 1) (w : World) :
    Calls Tryz.prog 71 #[.agg #[.int .i64 a, .int .i64 b], .int .i64 d] w fun e w' => e = .returned (.int .i64 (goN a b d)) ∧ Below w.heap.size w w' := by
  have h3 : 0 ≤ b := by unfold good at h; simp at h; omega
  have h4 : b ≤ 1 := by unfold good at h; simp at h; omega
  clear h
  go_enter Tryz.func71, Tryz.ntmps71
  go_wp2
  all_goals go_returns
  all_goals refine ⟨ret_int (by unfold goN; (simp only [beq_iff_eq, beq_eq_false_iff_ne, ne_eq] at *; (repeat' split) <;> first | rfl | omega)), by (repeat' (first | (with_reducible exact Below.refl _ _) | (with_reducible assumption) | (with_reducible refine Below.alloc ?_ ?_ _) | (with_reducible refine Below.setCell ?_ ?_ _) | (with_reducible refine Below.drew ?_) | (with_reducible refine below_drewN ?_ _) | (with_reducible refine Below.trans ?_ (Below.mono (by assumption) ?_)) | (with_reducible exact Nat.le_refl _) | (simp; done) | omega | (simp at *; omega)))⟩
theorem ret_intb {a c : Int} {x y : Bool} (h : x = y) (h1 : y = true → a = c) (h3 : y = false → a = 0) :
    Ending.returned (.tuple #[.int .i64 a, .bool x]) = .returned (.tuple #[.int .i64 (selI y c), .bool y]) := by
  subst h
  cases x
  · rw [h3 rfl]; rfl
  · rw [h1 rfl]; rfl
theorem impl_GoesTo (a b d : Int) (w : World) :
    Calls Tryz.prog 77 #[.agg #[.int .i64 a, .int .i64 b], .int .i64 d] w fun e w' => e = .returned (.tuple #[.int .i64 (selI (goB a b d) (goN a b d)), .bool (goB a b d)]) ∧ Below w.heap.size w w' := by
  go_enter Tryz.func77, Tryz.ntmps77
  go_wp2_with (first | (go_at_call 80; refine (impl_IsCell _ _ _).mono ?_; rintro e w1 ⟨rfl, bw1⟩; obtain ⟨cw1, fw1⟩ := bcell bw1; have zw10 : w.heap.size < w1.heap.size := (by have := bw1.size; first | omega | (simp at this; omega))) | (go_at_call 81; go_in) | (go_at_call 86; go_in) | (go_at_call 87; go_in) | (go_at_call 88; go_in) | (go_at_call 89; go_in))
  all_goals go_returns
  all_goals (have hg := (show good a b = true → (b = 0 ∨ b = 1) from (by unfold good; simp; omega)))
  all_goals refine ⟨by (refine ret_intb ?_ ?_ ?_ <;> first | rfl | (intros; rfl) | (unfold goB; simp_all; done) | (unfold goB; simp_all; omega) | (intro _; unfold goN; simp_all; done) | (intro _; unfold goN; simp_all; omega)), by (repeat' (first | (with_reducible exact Below.refl _ _) | (with_reducible assumption) | (with_reducible refine Below.alloc ?_ ?_ _) | (with_reducible refine Below.setCell ?_ ?_ _) | (with_reducible refine Below.drew ?_) | (with_reducible refine below_drewN ?_ _) | (with_reducible refine Below.trans ?_ (Below.mono (by assumption) ?_)) | (with_reducible exact Nat.le_refl _) | (simp; done) | omega | (simp at *; omega)))⟩
end Go.Proofs.YtlambflmabecfaaGreat
namespace Go.Proofs.YtlambflmabecfaaGreat
open Go.ChangeShapes Go.WideShapes Go.ChangeAt Go.RowKit Go.Joins Go.Deep
set_option linter.unusedSimpArgs false
set_option linter.unusedVariables false
set_option maxRecDepth 100000
set_option maxHeartbeats 400000
/-- A cell that may still be found: it joins, is in no group yet, and not found. -/
def opn (J : Nat → Bool) (v q : List Nat) (i : Nat) : Bool := J i && !v.contains i && !q.contains i
def bst (J : Nat → Bool) (v q : List Nat) (i : Nat) : List Nat := if opn J v q i then q ++ [i] else q
def brn (J : Nat → Bool) (v q : List Nat) (l : List Nat) : List Nat := l.foldl (bst J v) q
def bro (J : Nat → Bool) (near : Nat → List Nat) (v q : List Nat) (k : Nat) : List Nat :=
  match q[k]? with
  | some x => brn J v q (near x)
  | none => q
def brs (J : Nat → Bool) (near : Nat → List Nat) (v q : List Nat) : Nat → List Nat
  | 0 => q
  | k + 1 => bro J near v (brs J near v q k) k
theorem brn_snoc (J : Nat → Bool) (v q l : List Nat) (x : Nat) : brn J v q (l ++ [x]) = bst J v (brn J v q l) x := by
  unfold brn; rw [List.foldl_append]; rfl
theorem brn_take (J : Nat → Bool) (v q l : List Nat) (k : Nat) (h : k < l.length) : brn J v q (l.take (k + 1)) = bst J v (brn J v q (l.take k)) l[k] := by
  rw [List.take_succ_eq_append_getElem h, brn_snoc]
theorem brs_at (J : Nat → Bool) (near : Nat → List Nat) (v q : List Nat) (k : Nat) (h : k < (brs J near v q k).length) : brs J near v q (k + 1) = brn J v (brs J near v q k) (near (brs J near v q k)[k]) := by
  show bro J near v (brs J near v q k) k = _
  unfold bro
  rw [List.getElem?_eq_getElem h]
theorem brs_stop (J : Nat → Bool) (near : Nat → List Nat) (v q : List Nat) (k : Nat) (h : (brs J near v q k).length ≤ k) : ∀ m, k ≤ m → brs J near v q m = brs J near v q k := by
  intro m hm
  induction m with
  | zero => rw [show k = 0 by omega]
  | succ m ih =>
    rcases Nat.eq_or_lt_of_le hm with e | e
    · rw [e]
    · have e1 := ih (by omega)
      show bro J near v (brs J near v q m) m = _
      rw [e1]
      unfold bro
      rw [List.getElem?_eq_none (by omega)]
/-! ### how many -/
def cntp (p : Nat → Bool) : Nat → Nat
  | 0 => 0
  | n + 1 => cntp p n + (if p n then 1 else 0)
theorem cntp_le (p : Nat → Bool) (n : Nat) : cntp p n ≤ n := by
  induction n with
  | zero => exact Nat.le_refl _
  | succ n ih =>
    show cntp p n + (if p n then 1 else 0) ≤ n + 1
    split <;> omega
theorem cntp_congr {p r : Nat → Bool} {n : Nat} (h : ∀ j, j < n → p j = r j) : cntp p n = cntp r n := by
  induction n with
  | zero => rfl
  | succ n ih =>
    show cntp p n + (if p n then 1 else 0) = cntp r n + (if r n then 1 else 0)
    rw [ih (fun j hj => h j (by omega)), h n (by omega)]
theorem cntp_drop {p r : Nat → Bool} {i n : Nat} (hi : i < n) (hp : p i = true) (hr : r i = false) (h : ∀ j, j ≠ i → r j = p j) : cntp p n = cntp r n + 1 := by
  induction n with
  | zero => omega
  | succ n ih =>
    show cntp p n + (if p n then 1 else 0) = cntp r n + (if r n then 1 else 0) + 1
    by_cases e : n = i
    · subst e
      rw [hp, hr, cntp_congr (fun j hj => (h j (by omega)).symm)]
      simp
    · rw [ih (by omega), h n e]
      omega
theorem opn_snoc (J : Nat → Bool) (v q : List Nat) (x j : Nat) : opn J v (q ++ [x]) j = (opn J v q j && !(j == x)) := by
  unfold opn
  rw [List.contains_eq_any_beq, List.contains_eq_any_beq, List.contains_eq_any_beq, List.any_append, Bool.not_or]
  simp [Bool.and_assoc]
/-- What has been found and what may still be found are no more than n together. -/
def Few (J : Nat → Bool) (v : List Nat) (n : Nat) (q : List Nat) : Prop := q.length + cntp (opn J v q) n ≤ n
theorem few_bst {J : Nat → Bool} {v q : List Nat} {n i : Nat} (h : Few J v n q) (hi : i < n) : Few J v n (bst J v q i) := by
  unfold bst
  split
  · rename_i ho
    unfold Few at h ⊢
    have := cntp_drop (p := opn J v q) (r := opn J v (q ++ [i])) hi ho (by rw [opn_snoc]; simp) (fun j hj => by rw [opn_snoc]; simp [hj])
    rw [List.length_append, List.length_singleton]
    omega
  · exact h
theorem few_brn {J : Nat → Bool} {v : List Nat} {n : Nat} : ∀ (l : List Nat) (q : List Nat), (∀ x ∈ l, x < n) → Few J v n q → Few J v n (brn J v q l)
  | [], q, _, h => h
  | x :: l, q, hl, h => few_brn l (bst J v q x) (fun y hy => hl y (List.mem_cons_of_mem _ hy)) (few_bst h (hl x (List.mem_cons_self ..)))
theorem mem_bst {J : Nat → Bool} {v q : List Nat} {i x : Nat} : x ∈ bst J v q i ↔ x ∈ q ∨ (x = i ∧ opn J v q i = true) := by
  unfold bst
  split
  · rename_i h; rw [List.mem_append, List.mem_singleton, h]; simp
  · rename_i h; simp [h]
theorem mem_brn_le {J : Nat → Bool} {v : List Nat} {x : Nat} : ∀ (l q : List Nat), x ∈ q → x ∈ brn J v q l
  | [], q, h => h
  | y :: l, q, h => mem_brn_le l (bst J v q y) (mem_bst.2 (.inl h))
theorem opn_iff {J : Nat → Bool} {v q : List Nat} {i : Nat} : opn J v q i = true ↔ J i = true ∧ i ∉ v ∧ i ∉ q := by
  unfold opn
  simp [and_assoc]
theorem mem_brn_open {J : Nat → Bool} {v : List Nat} {x : Nat} (hJ : J x = true) (hv : x ∉ v) : ∀ (l q : List Nat), x ∈ l → x ∈ brn J v q l
  | [], q, h => absurd h (List.not_mem_nil)
  | y :: l, q, h => by
    show x ∈ brn J v (bst J v q y) l
    by_cases hq : x ∈ bst J v q y
    · exact mem_brn_le l _ hq
    · rcases List.mem_cons.1 h with e | e
      · subst e
        exact absurd (mem_bst.2 (by
          by_cases hx : x ∈ q
          · exact .inl hx
          · exact .inr ⟨rfl, opn_iff.2 ⟨hJ, hv, hx⟩⟩)) hq
      · exact mem_brn_open hJ hv l _ e
theorem brn_prefix {J : Nat → Bool} {v : List Nat} : ∀ (l q : List Nat), q <+: brn J v q l
  | [], q => List.prefix_refl q
  | y :: l, q => by
    refine List.IsPrefix.trans ?_ (brn_prefix l (bst J v q y))
    unfold bst
    split
    · exact List.prefix_append _ _
    · exact List.prefix_refl _
/-- A property of lists that a step keeps is one of the whole search. -/
theorem brn_keeps {J : Nat → Bool} {v : List Nat} {M : List Nat → Prop} {D : Nat → Prop} (hM : ∀ q i, D i → M q → M (bst J v q i)) : ∀ (l q : List Nat), (∀ x ∈ l, D x) → M q → M (brn J v q l)
  | [], q, _, h => h
  | x :: l, q, hl, h => brn_keeps hM l (bst J v q x) (fun y hy => hl y (List.mem_cons_of_mem _ hy)) (hM q x (hl x (List.mem_cons_self ..)) h)
theorem brs_succ_or (J : Nat → Bool) (near : Nat → List Nat) (v q : List Nat) (k : Nat) : ((brs J near v q k).length ≤ k ∧ brs J near v q (k + 1) = brs J near v q k) ∨ ∃ h : k < (brs J near v q k).length, brs J near v q (k + 1) = brn J v (brs J near v q k) (near (brs J near v q k)[k]) := by
  rcases Nat.lt_or_ge k (brs J near v q k).length with h | h
  · exact .inr ⟨h, brs_at J near v q k h⟩
  · exact .inl ⟨h, brs_stop J near v q k h (k + 1) (by omega)⟩
theorem brs_few {J : Nat → Bool} {near : Nat → List Nat} {v q : List Nat} {n : Nat} (hn : ∀ x, x < n → ∀ y ∈ near x, y < n) (hq : ∀ x ∈ q, x < n) (h : Few J v n q) : ∀ k, Few J v n (brs J near v q k) ∧ ∀ x ∈ brs J near v q k, x < n := by
  intro k
  induction k with
  | zero => exact ⟨h, hq⟩
  | succ k ih =>
    rcases brs_succ_or J near v q k with ⟨hz, e⟩ | ⟨hk, e⟩
    · rw [e]; exact ih
    · rw [e]
      have hx := ih.2 _ (List.getElem_mem hk)
      refine ⟨few_brn _ _ (hn _ hx) ih.1, brn_keeps (M := fun q => ∀ x ∈ q, x < n) (D := fun i => i < n) ?_ _ _ (hn _ hx) ih.2⟩
      intro q i hi hM x hx
      rcases mem_bst.1 hx with h1 | ⟨rfl, _⟩
      · exact hM x h1
      · exact hi
theorem few_len {J : Nat → Bool} {v q : List Nat} {n : Nat} (h : Few J v n q) : q.length ≤ n := by unfold Few at h; omega
theorem few_one {J : Nat → Bool} {v : List Nat} {n i : Nat} (hi : i < n) (ho : opn J v [] i = true) : Few J v n [i] := by
  have h := few_bst (J := J) (v := v) (q := []) (n := n) (i := i) (by unfold Few; have := cntp_le (opn J v []) n; simpa using this) hi
  unfold bst at h
  rw [ho] at h
  exact h
/-- The search has come to its end when its next cell is none: no further round turns it. -/
theorem brs_end {J : Nat → Bool} {near : Nat → List Nat} {v q : List Nat} {k n : Nat} (h : (brs J near v q k).length ≤ k) (hk : k ≤ n) : brs J near v q k = brs J near v q n := (brs_stop J near v q k h n hk).symm
theorem brs_le {J : Nat → Bool} {near : Nat → List Nat} {v q : List Nat} {x : Nat} (h : x ∈ q) : ∀ k, x ∈ brs J near v q k := by
  intro k
  induction k with
  | zero => exact h
  | succ k ih =>
    rcases brs_succ_or J near v q k with ⟨hz, e⟩ | ⟨hk, e⟩
    · rw [e]; exact ih
    · rw [e]; exact mem_brn_le _ _ ih
/-- Whatever is found joins and was in no group. -/
theorem brs_joins {J : Nat → Bool} {near : Nat → List Nat} {v q : List Nat} (h : ∀ x ∈ q, J x = true ∧ x ∉ v) : ∀ k, ∀ x ∈ brs J near v q k, J x = true ∧ x ∉ v := by
  intro k
  induction k with
  | zero => exact h
  | succ k ih =>
    rcases brs_succ_or J near v q k with ⟨hz, e⟩ | ⟨hk, e⟩
    · rw [e]; exact ih
    · rw [e]
      refine brn_keeps (M := fun q => ∀ x ∈ q, J x = true ∧ x ∉ v) (D := fun _ => True) ?_ _ _ (fun _ _ => trivial) ih
      intro q i _ hM x hx
      rcases mem_bst.1 hx with h1 | ⟨rfl, h1⟩
      · exact hM x h1
      · exact ⟨(opn_iff.1 h1).1, (opn_iff.1 h1).2.1⟩
theorem brs_nodup {J : Nat → Bool} {near : Nat → List Nat} {v q : List Nat} (h : q.Nodup) : ∀ k, (brs J near v q k).Nodup := by
  intro k
  induction k with
  | zero => exact h
  | succ k ih =>
    rcases brs_succ_or J near v q k with ⟨hz, e⟩ | ⟨hk, e⟩
    · rw [e]; exact ih
    · rw [e]
      refine brn_keeps (M := List.Nodup) (D := fun _ => True) ?_ _ _ (fun _ _ => trivial) ih
      intro q i _ hM
      unfold bst
      split
      · rename_i ho
        rw [List.nodup_append]
        refine ⟨hM, by simp, ?_⟩
        intro a ha b hb e
        rw [List.mem_singleton] at hb
        subst hb; subst e
        exact (opn_iff.1 ho).2.2 ha
      · exact hM
/-- It stays in what is closed. -/
theorem brs_inside {J : Nat → Bool} {near : Nat → List Nat} {v q : List Nat} {S : Nat → Prop} (hS : ∀ x, S x → ∀ y ∈ near x, J y = true → y ∉ v → S y) (h : ∀ x ∈ q, S x) : ∀ k, ∀ x ∈ brs J near v q k, S x := by
  intro k
  induction k with
  | zero => exact h
  | succ k ih =>
    rcases brs_succ_or J near v q k with ⟨hz, e⟩ | ⟨hk, e⟩
    · rw [e]; exact ih
    · rw [e]
      have hx := ih _ (List.getElem_mem hk)
      refine brn_keeps (M := fun q => ∀ x ∈ q, S x) (D := fun y => y ∈ near (brs J near v q k)[k]) ?_ _ _ (fun _ h => h) ih
      intro q i hi hM x hx'
      rcases mem_bst.1 hx' with h1 | ⟨rfl, h1⟩
      · exact hM x h1
      · exact hS _ hx x hi (opn_iff.1 h1).1 (opn_iff.1 h1).2.1
theorem brs_prefix (J : Nat → Bool) (near : Nat → List Nat) (v q : List Nat) (k : Nat) : brs J near v q k <+: brs J near v q (k + 1) := by
  rcases brs_succ_or J near v q k with ⟨hz, e⟩ | ⟨hk, e⟩
  · rw [e]; exact List.prefix_refl _
  · rw [e]; exact brn_prefix _ _
theorem brs_done {J : Nat → Bool} {near : Nat → List Nat} {v q : List Nat} : ∀ k m, m < k → ∀ hm : m < (brs J near v q k).length, ∀ y ∈ near (brs J near v q k)[m], J y = true → y ∉ v → y ∈ brs J near v q k := by
  intro k
  induction k with
  | zero => intro m hm; omega
  | succ k ih =>
    intro m hmk hm y hy hJ hv
    have hp := brs_prefix J near v q k
    rcases brs_succ_or J near v q k with ⟨hz, e⟩ | ⟨hk, e⟩
    · rcases Nat.lt_or_ge m k with h1 | h1
      · have hm' : m < (brs J near v q k).length := by rw [← e]; exact hm
        have e2 : (brs J near v q (k + 1))[m] = (brs J near v q k)[m] := by simp [e]
        rw [e2] at hy
        rw [e]
        exact ih m h1 hm' y hy hJ hv
      · have : m < (brs J near v q k).length := by rw [← e]; exact hm
        omega
    · rcases Nat.lt_or_ge m k with h1 | h1
      · have hm' : m < (brs J near v q k).length := by omega
        have e2 : (brs J near v q (k + 1))[m] = (brs J near v q k)[m] := (List.IsPrefix.getElem hp hm').symm
        rw [e2] at hy
        have := ih m h1 hm' y hy hJ hv
        rw [e]
        exact mem_brn_le _ _ this
      · have e3 : m = k := by omega
        subst e3
        have e2 : (brs J near v q (m + 1))[m] = (brs J near v q m)[m] := (List.IsPrefix.getElem hp hk).symm
        rw [e2] at hy
        rw [e]
        exact mem_brn_open hJ hv _ _ hy
/-- Behind the whole search: a neighbour that joins has been found too, or is in a group. -/
theorem brs_closed {J : Nat → Bool} {near : Nat → List Nat} {v q : List Nat} {n : Nat} (hl : (brs J near v q n).length ≤ n) : ∀ x ∈ brs J near v q n, ∀ y ∈ near x, J y = true → y ∉ v → y ∈ brs J near v q n := by
  intro x hx y hy hJ hv
  obtain ⟨m, hm, rfl⟩ := List.getElem_of_mem hx
  exact brs_done n m (by omega) hm y hy hJ hv
/-! ### the groups -/
def grp (J : Nat → Bool) (near : Nat → List Nat) (n : Nat) (G : List (List Nat)) (i : Nat) : List Nat := brs J near G.flatten [i] n
def gst (J : Nat → Bool) (near : Nat → List Nat) (n : Nat) (G : List (List Nat)) (i : Nat) : List (List Nat) := if opn J G.flatten [] i then G ++ [grp J near n G i] else G
def gat (J : Nat → Bool) (near : Nat → List Nat) (n : Nat) : Nat → List (List Nat)
  | 0 => []
  | k + 1 => gst J near n (gat J near n k) k
/-- The number of the group of a cell, or -1. -/
def num : List (List Nat) → Nat → Nat → Int
  | [], _, _ => -1
  | g :: G, c, j => if g.contains j then (c : Int) else num G (c + 1) j
theorem num_neg {j : Nat} : ∀ (G : List (List Nat)) (c : Nat), num G c j < 0 ↔ j ∉ G.flatten
  | [], c => by simp [num]
  | g :: G, c => by
    unfold num
    have ih := num_neg (j := j) G (c + 1)
    by_cases h : j ∈ g
    · simp [h]
    · simp only [List.contains_iff_mem, h, if_false, List.flatten_cons, List.mem_append, false_or]
      exact ih
theorem num_ge {j : Nat} : ∀ (G : List (List Nat)) (c : Nat), -1 ≤ num G c j ∧ num G c j < c + G.length
  | [], c => by constructor <;> (simp [num]; try omega)
  | g :: G, c => by
    unfold num
    have ih := num_ge (j := j) G (c + 1)
    rw [List.length_cons]
    split
    · constructor <;> omega
    · constructor <;> omega
theorem num_lone {j : Nat} (G : List (List Nat)) (c : Nat) (h : num G c j < 0) : num G c j = -1 := by have := (num_ge (j := j) G c).1; omega
theorem num_snoc {j : Nat} (q : List Nat) : ∀ (G : List (List Nat)) (c : Nat), num (G ++ [q]) c j = if j ∈ G.flatten then num G c j else if j ∈ q then ((c + G.length : Nat) : Int) else -1
  | [], c => by simp [num]
  | g :: G, c => by
    have ih := num_snoc (j := j) q G (c + 1)
    show (if g.contains j then (c : Int) else num (G ++ [q]) (c + 1) j) = _
    rw [ih]
    by_cases h : j ∈ g
    · simp [h, num]
    · simp only [List.contains_iff_mem, h, if_false, List.flatten_cons, List.mem_append, false_or, num, List.length_cons]
      rw [show c + 1 + G.length = c + (G.length + 1) by omega]
theorem num_from {j : Nat} : ∀ (G : List (List Nat)) (c : Nat), num G c j = -1 ∨ (c : Int) ≤ num G c j
  | [], c => .inl rfl
  | g :: G, c => by
    unfold num
    split
    · exact .inr (Int.le_refl _)
    · rcases num_from (j := j) G (c + 1) with h | h
      · exact .inl h
      · exact .inr (by omega)
theorem num_mem {j : Nat} : ∀ (G : List (List Nat)) (c k : Nat), num G c j = ((c + k : Nat) : Int) → ∃ g, G[k]? = some g ∧ j ∈ g
  | [], c, k, h => by simp [num] at h; omega
  | g :: G, c, k, h => by
    unfold num at h
    split at h
    · rename_i hg
      have : k = 0 := by omega
      subst this
      exact ⟨g, rfl, by simpa using hg⟩
    · cases k with
      | zero =>
        have := (num_ge (j := j) G (c + 1))
        rcases Int.lt_or_le (num G (c + 1) j) 0 with h1 | h1
        · omega
        · exfalso
          have h2 := num_from (j := j) G (c + 1)
          omega
      | succ k =>
        obtain ⟨g', h1, h2⟩ := num_mem G (c + 1) k (by rw [h]; omega)
        exact ⟨g', by simpa using h1, h2⟩
end Go.Proofs.YtlambflmabecfaaGreat
namespace Go.Proofs.YtlambflmabecfaaGreat
open Go.ChangeShapes Go.WideShapes Go.ChangeAt Go.RowKit Go.Joins Go.Deep
set_option linter.unusedSimpArgs false
set_option linter.unusedVariables false
set_option maxRecDepth 100000
set_option maxHeartbeats 400000
open Go.Maps
theorem keysLaw : Maps.Keyed Tryz.prog 3 := Maps.int_keyed Tryz.underlying3
theorem zeroBool (w : World) : (zeroValue 4).run Tryz.prog w = .ok (.bool false) w := by kernel_rfl
theorem plain_bool_inv {v : Value} {x : Bool} {ps : List MemPlace} (h : plainElem (H := Unit) Tryz.prog 4 v = some (.lit (.bool x), ps)) : v = .bool x := by
  unfold plainElem at h
  rw [Tryz.underlying4] at h
  cases v <;> simp at h
  rw [h.1]
def kyAt (i : Nat) : Lit := .int .i64 (i : Int)
theorem kyAt_of {i : Nat} (h : i ≤ 1048576) : keyOf Tryz.prog 3 (.int .i64 (i : Int)) = some (kyAt i) := Maps.keyOf_int_mk Tryz.underlying3 (WalkArith.wf_i64 (by omega))
theorem kyAt_key (i : Nat) : WideAt.IsKeyLit (kyAt i) := trivial
theorem kyAt_ne {i j : Nat} (h : j ≠ i) : kyAt j ≠ kyAt i := by
  intro e
  unfold kyAt at e
  injection e with _ e
  omega
/-- Block B is such a map: at most n entries; true just at the numbers of o. -/
def Keys (w : World) (B n : Nat) (o : Nat → Bool) : Prop :=
  ∃ D : DataW Unit, w.ownsMap Tryz.prog 3 (plainElem Tryz.prog 4) B n D ∧ ∀ i, i ≤ 1048576 → D.atKey (kyAt i) (.lit (.bool false)) = .lit (.bool (o i))
theorem Keys.lt {w : World} {B n : Nat} {o : Nat → Bool} (h : Keys w B n o) : B < w.heap.size := by
  obtain ⟨D, h, _⟩ := h
  exact h.lt
theorem Keys.congr {w : World} {B n : Nat} {o o' : Nat → Bool} (h : Keys w B n o) (he : ∀ i, i ≤ 1048576 → o i = o' i) : Keys w B n o' := by
  obtain ⟨D, h, ha⟩ := h
  exact ⟨D, h, fun i hi => by rw [ha i hi, he i hi]⟩
theorem Keys.mono {w : World} {B n m : Nat} {o : Nat → Bool} (h : Keys w B n o) (hm : n ≤ m) : Keys w B m o := by
  obtain ⟨D, h, ha⟩ := h
  exact ⟨D, h.mono hm, ha⟩
theorem Keys.kept {w w' : World} {B n : Nat} {o : Nat → Bool} {row : Option Nat} (h : Keys w B n o) (hg : w.grownBy w' row) (hne : some B ≠ row) : Keys w' B n o := by
  obtain ⟨D, h, ha⟩ := h
  exact ⟨D, h.kept hg hne, ha⟩
theorem Keys.below {w w' : World} {B n : Nat} {o : Nat → Bool} (h : Keys w B n o) (hb : Below w.heap.size w w') : Keys w' B n o :=
  h.kept (row := none) ⟨hb.os, hb.tape, hb.output, hb.size, fun i hi _ => hb.block i hi⟩ (by simp)
theorem Keys.alloc {w : World} {B n : Nat} {o : Nat → Bool} (h : Keys w B n o) (x : Obj) : Keys (w.alloc x) B n o := h.kept (World.grownBy_alloc w x none) (by simp)
theorem Keys.setCell {w : World} {B n : Nat} {o : Nat → Bool} (h : Keys w B n o) {a : Addr} (ha : B ≠ a.block) (u : Value) : Keys (w.setCell a u) B n o := by
  obtain ⟨D, h, hd⟩ := h
  exact ⟨D, h.setCell ha u, hd⟩
theorem Keys.row {w : World} {B n : Nat} {o : Nat → Bool} (h : Keys w B n o) {base : Nat} {e : TypeId} {size m : Nat} {v : Value} {xs : List Value} (hr : w.ownsRow base e size v m xs) : some B ≠ v.ownBlock := by
  obtain ⟨D, ⟨es, clock, hb, _⟩, _⟩ := h
  rcases hr.2 with ⟨rfl, _⟩ | ⟨g, cap, cur, rfl, _, hg, _⟩
  · simp [Value.ownBlock]
  · intro e1
    have : B = g := by simpa [Value.ownBlock] using e1
    subst this
    rw [hb] at hg
    cases hg
theorem Keys.whole {w : World} {B n : Nat} {o : Nat → Bool} (h : Keys w B n o) {g : Nat} {t : TypeId} {xs : List Value} (hw : Whole w g t xs) : B ≠ g := by
  obtain ⟨D, ⟨es, clock, hb, _⟩, _⟩ := h
  intro e
  subst e
  unfold Whole at hw
  rw [hb] at hw
  cases hw
theorem Keys.made (w : World) : Keys (w.alloc (.map #[] 0)) w.heap.size 0 (fun _ => false) :=
  ⟨.map [], World.ownsMap_made _ _ _ _, fun _ _ => rfl⟩
theorem Keys.look {w : World} {B n : Nat} {o : Nat → Bool} (h : Keys w B n o) {i : Nat} (hi : i ≤ 1048576) :
    (Instr.lookup 136 (.map (some B)) (.int .i64 (i : Int)) false).run Tryz.prog w = .ok (.bool (o i)) w := by
  obtain ⟨D, h, ha⟩ := h
  obtain ⟨v, ps, hrun, hv⟩ := h.lookup keysLaw Tryz.underlying136 (zeroBool w) (plainElem_bool Tryz.underlying4 false) (kyAt_of hi)
  rw [ha i hi] at hv
  rw [hrun, plain_bool_inv hv]
theorem wpList_look_keys {w : World} {ops : Array Oper} {rest : List Oper} {o : Oper} {a : Act} {Q : Exit → Act → World → Prop} (hg : o.guard = none) (m x : Operand) (hop : o.op = Op.lookup 136 m x false)
    (B n : Nat) (p : Nat → Bool) (hm : a.eval m = .map (some B)) (hk : Keys w B n p) (i : Nat) (hx : a.eval x = .int .i64 (i : Int)) (hi : i ≤ 1048576)
    (hK : wpList Tryz.prog ops Q rest (a.put o.dst (.bool (p i))) w) : wpList Tryz.prog ops Q (o :: rest) a w := by
  refine wpList_plain hg fun K' hK' => ?_
  unfold Oper.wp
  simp [execOp, hop, hm, hx, hk.look hi, Result.andThen]
  exact hK' _ _ hK
theorem wpList_del_keys {w : World} {ops : Array Oper} {rest : List Oper} {o : Oper} {a : Act} {Q : Exit → Act → World → Prop} (hg : o.guard = none) (m x : Operand)
    (hop : o.op = Op.call { callee := Callee.builtin Builtin.delete, args := #[m, x], argTypes := #[136, 3] })
    (B n : Nat) (p : Nat → Bool) (hm : a.eval m = .map (some B)) (hk : Keys w B n p) (i : Nat) (hx : a.eval x = .int .i64 (i : Int)) (hi : i ≤ 1048576)
    (hK : ∀ w', Keys w' B n (fun j => p j && !(j == i)) → w.grownBy w' (some B) → wpList Tryz.prog ops Q rest (a.put o.dst (.tuple #[])) w') : wpList Tryz.prog ops Q (o :: rest) a w := by
  obtain ⟨D, hown, ha⟩ := hk
  refine wpList_delete_own w hg m x _ _ hop _ keysLaw Tryz.underlying136 _ B n D hm hown _ _ hx (kyAt_of hi) (fun w' h1 h2 => hK w' ⟨_, h1, fun j hj => ?_⟩ h2.grown)
  by_cases e : j = i
  · subst e
    rw [atKey_del_same]
    simp
  · rw [atKey_del_other (kyAt_ne e), ha j hj]
    simp [e]
theorem wpList_put_keys {w : World} {ops : Array Oper} {rest : List Oper} {o : Oper} {a : Act} {Q : Exit → Act → World → Prop} (hg : o.guard = none) (m x v : Operand) (hop : o.op = Op.mapUpdate 136 m x v)
    (B n : Nat) (p : Nat → Bool) (hm : a.eval m = .map (some B)) (hk : Keys w B n p) (hn : n < maxLen) (i : Nat) (hx : a.eval x = .int .i64 (i : Int)) (hv : a.eval v = .bool true) (hi : i ≤ 1048576)
    (hK : ∀ w', Keys w' B (n + 1) (fun j => p j || j == i) → w.grownBy w' (some B) → wpList Tryz.prog ops Q rest (a.put o.dst undef) w') : wpList Tryz.prog ops Q (o :: rest) a w := by
  obtain ⟨D, hown, ha⟩ := hk
  refine wpList_mapUpdate_own w hg m x v _ hop _ _ keysLaw Tryz.underlying136 _ B n D hm hown hn _ _ _ hx hv (kyAt_of hi) _ _ (plainElem_bool Tryz.underlying4 true) (fun w' h1 h2 => hK w' ⟨_, h1, fun j hj => ?_⟩ h2)
  by_cases e : j = i
  · subst e
    rw [atKey_put_same hown.isMap (kyAt_key j)]
    simp
  · rw [atKey_put_other (kyAt_ne e), ha j hj]
    simp [e]
end Go.Proofs.YtlambflmabecfaaGreat
namespace Go.Proofs.YtlambflmabecfaaGreat
open Go.ChangeShapes Go.WideShapes Go.ChangeAt Go.RowKit Go.Joins Go.Deep
set_option linter.unusedSimpArgs false
set_option linter.unusedVariables false
set_option maxRecDepth 100000
set_option maxHeartbeats 400000
theorem cell_two {w : World} {b o : Nat} {l : List (Int × Int)} (hc : ∀ j u, (flat l)[j]? = some u → w.cell? ⟨b, o + j, none⟩ = some u) {k : Nat} (h : k < l.length) :
    w.cell? ⟨b, o + k * 2, none⟩ = some (.int .i64 l[k].1) ∧ w.cell? ⟨b, o + k * 2 + 1, none⟩ = some (.int .i64 l[k].2) :=
  ⟨hc _ _ (flat_at l k h).1, hc _ _ (flat_at l k h).2⟩
def inB (R C i j : Int) : Bool := decide (0 ≤ i ∧ i < R ∧ 0 ≤ j ∧ j < C)
def hasB (R C : Int) (l : List (Int × Int)) (i j : Int) : Bool := goodB R C l && inB R C i j
theorem inB_iff {R C i j : Int} : inB R C i j = true ↔ 0 ≤ i ∧ i < R ∧ 0 ≤ j ∧ j < C := by unfold inB; simp
def atI (C i j : Int) : Nat := (i * C + j).toNat
theorem at_bound {R C : Int} {l : List (Int × Int)} {i j : Int} (hg : goodB R C l = true) (hi : inB R C i j = true) :
    (0 ≤ i * C ∧ i * C ≤ 90) ∧ i * C + j = (atI C i j : Int) ∧ atI C i j < l.length ∧ l.length ≤ 90 := by
  obtain ⟨hs, hl, _⟩ := goodB_iff.1 hg
  obtain ⟨a, b, c, d⟩ := inB_iff.1 hi
  have hm := mul_bound hs
  obtain ⟨s1, s2, s3, s4⟩ := sizeB_iff.1 hs
  have h1 : i * C ≤ (R - 1) * C := Int.mul_le_mul_of_nonneg_right (by omega) (by omega)
  have h2 : (R - 1) * C = R * C - C := by rw [Int.sub_mul, Int.one_mul]
  have h3 : 0 ≤ i * C := Int.mul_nonneg a (by omega)
  unfold atI
  omega
theorem wrap_at {R C : Int} {l : List (Int × Int)} {i j : Int} (hg : goodB R C l = true) (hi : inB R C i j = true) :
    IntKind.i64.wrap (i * C) = i * C ∧ IntKind.i64.wrap (i * C + j) = (atI C i j : Int) := by
  obtain ⟨h1, h2, h3, h4⟩ := at_bound hg hi
  refine ⟨IntWalk.i64_in (i * C) (by omega), ?_⟩
  rw [IntWalk.i64_in (i * C + j) (by omega), h2]
theorem spec_boAt (R C : Int) (A : Option Addr) (cap : Nat) (l : List (Int × Int)) (i j : Int) (w : World) (hg : goodB R C l = true) (hi : inB R C i j = true) (hr : Rd w w.heap.size A (flat l)) :
    Calls Tryz.prog 70 #[.agg #[.int .i64 R, .int .i64 C, .slice A l.length cap], .int .i64 i, .int .i64 j] w fun e w' => e = .returned (.agg #[.int .i64 (l.getD (atI C i j) (0, 0)).1, .int .i64 (l.getD (atI C i j) (0, 0)).2]) ∧ Below w.heap.size w w' := by
  obtain ⟨_, _, hlt, h90⟩ := at_bound hg hi
  obtain ⟨m1, m2⟩ := wrap_at hg hi
  have e : l.getD (atI C i j) (0, 0) = l[atI C i j] := by rw [List.getD_eq_getElem?_getD, List.getElem?_eq_getElem hlt]; rfl
  rw [e]
  obtain ⟨b, o, rfl, hbl, hc⟩ := hr (by rw [flat_length]; omega)
  obtain ⟨hc0, hc1⟩ := cell_two hc hlt
  clear e hr hc hg hi
  generalize l[atI C i j].1 = x at *
  generalize l[atI C i j].2 = y at *
  generalize atI C i j = n at *
  go_enter Tryz.func70, Tryz.ntmps70
  go_wp2
  refine bodyPost_ret (v := .agg #[.int .i64 x, .int .i64 y]) ?_ rfl ?_; (focus (simp [results, Tryz.results70, go_sem, *]; done))
  exact ⟨rfl, by (repeat' (first | (with_reducible exact Below.refl _ _) | (with_reducible assumption) | (with_reducible refine Below.alloc ?_ ?_ _) | (with_reducible refine Below.setCell ?_ ?_ _) | (with_reducible refine Below.drew ?_) | (with_reducible refine below_drewN ?_ _) | (with_reducible refine Below.trans ?_ (Below.mono (by assumption) ?_)) | (with_reducible exact Nat.le_refl _) | (simp; done) | omega | (simp at *; omega)))⟩
def cellK (R C : Int) (l : List (Int × Int)) (i j : Int) : Int := selI (hasB R C l i j) (l.getD (atI C i j) (0, 0)).1
def cellS (R C : Int) (l : List (Int × Int)) (i j : Int) : Int := selI (hasB R C l i j) (l.getD (atI C i j) (0, 0)).2
theorem hasB_and {R C : Int} {l : List (Int × Int)} {i j : Int} (h : hasB R C l i j = true) : goodB R C l = true ∧ inB R C i j = true := by
  unfold hasB at h; simpa using h
end Go.Proofs.YtlambflmabecfaaGreat
namespace Go.Proofs.YtlambflmabecfaaGreat
open Go.ChangeShapes Go.WideShapes Go.ChangeAt Go.RowKit Go.Joins Go.Deep
set_option linter.unusedSimpArgs false
set_option linter.unusedVariables false
set_option maxRecDepth 100000
set_option maxHeartbeats 1000000
theorem row_empty (w : World) (e : TypeId) (size : Nat) : (w.alloc (.cells #[] e)).ownsRow w.heap.size e size (.slice (some ⟨w.heap.size, 0, none⟩) 0 0) 0 [] :=
  ⟨by simp, .inr ⟨w.heap.size, 0, #[], rfl, Nat.le_refl _, heap_alloc_new w _, Nat.le_refl _, Nat.zero_le _, by simp, by simp⟩⟩
theorem rd_news {w w' : World} {B b o : Nat} {xs : List Value} (hr : Rd w B (some ⟨b, o, none⟩) xs) (hb : Below B w w') : ∀ j u, xs[j]? = some u → w'.cell? ((⟨b, o, none⟩ : Addr).add j) = some u := by
  intro j u hj
  obtain ⟨b', o', e, hlt, hc⟩ := hr (by have := (List.getElem?_eq_some_iff.1 hj).1; omega)
  cases e
  rw [add_plain]
  exact (hb.cell (p := ⟨b, o + j, none⟩) hlt).trans (hc j u hj)
theorem Own.set_far {w : World} {A : Option Addr} {t : TypeId} {xs : List Value} (h : Own w A t xs) (p : Addr) (u : Value) (hne : ∀ a, A = some a → p.block ≠ a.block) : Own (w.setCell p u) A t xs := fun hx => by
  obtain ⟨g, rest, rfl, hw⟩ := h hx
  exact ⟨g, rest, rfl, hw.set_far p u (hne _ rfl)⟩
theorem Clone_any (b o cap : Nat) (l : List (Int × Int)) (w : World) (hn : l.length ≤ 1048576) (hr : Rd w w.heap.size (some ⟨b, o, none⟩) (flat l)) :
    Calls Tryz.prog 67 #[.slice (some ⟨b, o, none⟩) l.length cap] w (PostC w l) := by
  obtain ⟨i0, hi, hz0, hz1, hz2⟩ := info_parts cellInfo
  have hnil := fun (w : World) => Lib.run_eql_slice_some_nil (P := Tryz.prog) w (⟨b, o, none⟩ : Addr) l.length cap Tryz.underlying32
  go_enter Tryz.func67, Tryz.ntmps67
  go_wp2_with (first | (at_builtin; refine wpList_append_own _ rfl (.tmp 5) (.tmp 6) 32 rfl w.heap.size 95 i0 _ 2 16 Tryz.underlying32 hi hz0 hz1 hz2 rfl (by omega) _ 0 [] rfl (row_empty w _ _) ⟨b, o, none⟩ l.length cap (flat l) rfl (by rw [flat_length]; omega) (rd_news hr ((Below.refl _ _).alloc (Nat.le_refl _) _)) (flat_one l) (by unfold maxLen; omega) (by omega) (by simp) ?_; intro v1 w1 hown1 hg1 _) | fail)
  have hb1 : Below w.heap.size w w1 := row_below (row_empty w _ 2) ((Below.refl _ _).alloc (Nat.le_refl _) _) (by simp) hg1
  rw [Nat.zero_add, List.nil_append] at hown1
  obtain ⟨A', cap', rfl⟩ := slice_of_row hown1
  have ho := own_of_row hown1
  clear hg1 hown1
  go_wp2
  go_returns
  exact PostC.mk ho.1 ho.2 hb1
theorem spec_boOwn (R C : Int) (b o cap : Nat) (l : List (Int × Int)) (w : World) (hpos : 0 < l.length) (hn : l.length ≤ 1048576) (hr : Rd w w.heap.size (some ⟨b, o, none⟩) (flat l)) :
    Calls Tryz.prog 47 #[.agg #[.int .i64 R, .int .i64 C, .slice (some ⟨b, o, none⟩) l.length cap]] w (PostD w R C l) := by
  obtain ⟨i0, hi, hz0, hz1, hz2⟩ := info_parts cellInfo
  go_enter Tryz.func47, Tryz.ntmps47
  go_wp2_with fail
  have b0 : Below w.heap.size w ((w.alloc (.cells #[.int .i64 R, .int .i64 C, .slice (some ⟨b, o, none⟩) l.length cap] 34)).alloc (.cells #[.int .i64 0, .int .i64 0, .slice none 0 0] 34)) := by (repeat' (first | (with_reducible exact Below.refl _ _) | (with_reducible assumption) | (with_reducible refine Below.alloc ?_ ?_ _) | (with_reducible refine Below.setCell ?_ ?_ _) | (with_reducible refine Below.drew ?_) | (with_reducible refine below_drewN ?_ _) | (with_reducible refine Below.trans ?_ (Below.mono (by assumption) ?_)) | (with_reducible exact Nat.le_refl _) | (simp; done) | omega | (simp at *; omega)))
  have x0 : Whole ((w.alloc (.cells #[.int .i64 R, .int .i64 C, .slice (some ⟨b, o, none⟩) l.length cap] 34)).alloc (.cells #[.int .i64 0, .int .i64 0, .slice none 0 0] 34)) w.heap.size 34 [.int .i64 R, .int .i64 C, .slice (some ⟨b, o, none⟩) l.length cap] := Whole.alloc (heap_alloc_new w _) _
  have x1 : Whole ((w.alloc (.cells #[.int .i64 R, .int .i64 C, .slice (some ⟨b, o, none⟩) l.length cap] 34)).alloc (.cells #[.int .i64 0, .int .i64 0, .slice none 0 0] 34)) (w.heap.size + 1) 34 [.int .i64 0, .int .i64 0, .slice none 0 0] := by
    have h := heap_alloc_new (w.alloc (.cells #[.int .i64 R, .int .i64 C, .slice (some ⟨b, o, none⟩) l.length cap] 34)) (.cells #[.int .i64 0, .int .i64 0, .slice none 0 0] 34)
    rw [World.size_alloc] at h
    exact h
  have hz : w.heap.size + 1 < ((w.alloc (.cells #[.int .i64 R, .int .i64 C, .slice (some ⟨b, o, none⟩) l.length cap] 34)).alloc (.cells #[.int .i64 0, .int .i64 0, .slice none 0 0] 34)).heap.size := x1.lt
  have hb0 := b0.size
  generalize (w.alloc (.cells #[.int .i64 R, .int .i64 C, .slice (some ⟨b, o, none⟩) l.length cap] 34)).alloc (.cells #[.int .i64 0, .int .i64 0, .slice none 0 0] 34) = v0 at *
  have hz0' : w.heap.size < v0.heap.size := by omega
  have k0 : v0.cell? ⟨w.heap.size, 0, none⟩ = some (.int .i64 R) := (x0.cell 0).trans rfl
  have k1 : v0.cell? ⟨w.heap.size, 1, none⟩ = some (.int .i64 C) := (x0.cell 1).trans rfl
  have k2 : v0.cell? ⟨w.heap.size, 2, none⟩ = some (.slice (some ⟨b, o, none⟩) l.length cap) := (x0.cell 2).trans rfl
  have KS := Lib.hid (fun (w' : World) (h : Below (w.heap.size + 1) v0 w') => (⟨(h.cell (p := ⟨w.heap.size, 0, none⟩) (Nat.lt_succ_self _)).trans k0, (h.cell (p := ⟨w.heap.size, 1, none⟩) (Nat.lt_succ_self _)).trans k1, (h.cell (p := ⟨w.heap.size, 2, none⟩) (Nat.lt_succ_self _)).trans k2⟩ : w'.cell? ⟨w.heap.size, 0, none⟩ = some (.int .i64 R) ∧ w'.cell? ⟨w.heap.size, 1, none⟩ = some (.int .i64 C) ∧ w'.cell? ⟨w.heap.size, 2, none⟩ = some (.slice (some ⟨b, o, none⟩) l.length cap)))
  go_region_held3 (fun w' => w'.cell? ⟨w.heap.size, 0, none⟩ = some (.int .i64 R) ∧ w'.cell? ⟨w.heap.size, 1, none⟩ = some (.int .i64 C) ∧ w'.cell? ⟨w.heap.size, 2, none⟩ = some (.slice (some ⟨b, o, none⟩) l.length cap))
    (first | exact KS.out _ (by (repeat' (first | (with_reducible exact Below.refl _ _) | (with_reducible assumption) | (with_reducible refine Below.alloc ?_ ?_ _) | (with_reducible refine Below.setCell ?_ ?_ _) | (with_reducible refine Below.drew ?_) | (with_reducible refine below_drewN ?_ _) | (with_reducible refine Below.trans ?_ (Below.mono (by assumption) ?_)) | (with_reducible exact Nat.le_refl _) | (simp; done) | omega | (simp at *; omega)))))
    ((first | (refine step_append_lies _ (by rfl) _ _ _ (by rfl) v0.heap.size 95 i0 _ 2 16 Tryz.underlying32 hi hz0 hz1 hz2 rfl (by omega) _ 0 [] (by rfl) (row_empty v0.drew _ _) ⟨b, o, none⟩ l.length cap (flat l) (by rfl) (by rw [flat_length]; omega) (rd_news hr (by (repeat' (first | (with_reducible exact Below.refl _ _) | (with_reducible assumption) | (with_reducible refine Below.alloc ?_ ?_ _) | (with_reducible refine Below.setCell ?_ ?_ _) | (with_reducible refine Below.drew ?_) | (with_reducible refine below_drewN ?_ _) | (with_reducible refine Below.trans ?_ (Below.mono (by assumption) ?_)) | (with_reducible exact Nat.le_refl _) | (simp; done) | omega | (simp at *; omega))))) (flat_one l) hpos (by unfold maxLen; omega) (by omega) (by simp) (v0.heap.size + 1) (by simp) ?_; intro gg cap1 w1 hown1 hg1 hat1 hlt1; have hb1 : Below v0.heap.size v0 w1 := row_below (row_empty v0.drew _ 2) (((Below.refl _ _).drew).alloc (Nat.le_refl _) _) (by simp) hg1; have x2 := x1.below hb1 hz; have q0 : w1.cell? ⟨w.heap.size + 1, 0, none⟩ = some (.int .i64 0) := (x2.cell 0).trans rfl; have q1 : w1.cell? ⟨w.heap.size + 1, 1, none⟩ = some (.int .i64 0) := (x2.cell 1).trans rfl; have q2 : w1.cell? ⟨w.heap.size + 1, 2, none⟩ = some (.slice none 0 0) := (x2.cell 2).trans rfl; have qf0 := x2.frozen 0; have qf1 := x2.frozen 1; have qf2 := x2.frozen 2)))
  rw [Nat.zero_add, List.nil_append] at hown1
  have ho := own_of_row hown1
  have B1 : Below w.heap.size w w1 := b0.trans (hb1.mono hb0)
  clear hat1 hg1 hown1 hb1 x2 x1 x0 k0 k1 k2 KS
  go_wp2
  refine bodyPost_ret (v := .agg #[.int .i64 R, .int .i64 C, .slice (some ⟨gg, 0, none⟩) l.length cap1]) ?_ rfl ?_; (focus (simp [results, Tryz.results47, go_sem, *]; done))
  refine PostD.mk (((ho.1.set_far _ _ ?_).set_far _ _ ?_).set_far _ _ ?_) (fun a ha => by have := ho.2 a ha; omega) (by (repeat' (first | (with_reducible exact Below.refl _ _) | (with_reducible assumption) | (with_reducible refine Below.alloc ?_ ?_ _) | (with_reducible refine Below.setCell ?_ ?_ _) | (with_reducible refine Below.drew ?_) | (with_reducible refine below_drewN ?_ _) | (with_reducible refine Below.trans ?_ (Below.mono (by assumption) ?_)) | (with_reducible exact Nat.le_refl _) | (simp; done) | omega | (simp at *; omega))))
  all_goals (intro a ha; have h1 := ho.2 a ha; show w.heap.size + 1 ≠ a.block; omega)
theorem flat_set (l : List (Int × Int)) (n : Nat) (x y : Int) (h : n < l.length) (rest : List Value) : ((flat l ++ rest).set (n * 2) (.int .i64 x)).set (n * 2 + 1) (.int .i64 y) = flat (l.set n (x, y)) ++ rest := by
  have hl := flat_length l
  rw [List.set_append_left _ _ (by omega), List.set_append_left _ _ (by rw [List.length_set]; omega)]
  congr 1
  clear hl
  induction l generalizing n with
  | nil => simp at h
  | cons c l ih =>
    cases n with
    | zero => rfl
    | succ n =>
      have := ih n (by simpa using h)
      rw [show (n + 1) * 2 = n * 2 + 1 + 1 by omega]
      show ((Value.int .i64 c.1 :: Value.int .i64 c.2 :: flat l).set (n * 2 + 1 + 1) (Value.int .i64 x)).set (n * 2 + 1 + 1 + 1) (Value.int .i64 y) = Value.int .i64 c.1 :: Value.int .i64 c.2 :: flat (l.set n (x, y))
      rw [← this]
      rfl
def okPut (R C : Int) (l : List (Int × Int)) (i j x y : Int) : Bool := hasB R C l i j && good x y
def putL (R C : Int) (l : List (Int × Int)) (i j x y : Int) : List (Int × Int) := if okPut R C l i j x y then l.set (atI C i j) (x, y) else []
theorem putL_len (R C : Int) (l : List (Int × Int)) (i j x y : Int) (h : l.length ≤ 1048576) : (putL R C l i j x y).length ≤ 1048576 := by
  unfold putL
  split
  · rw [List.length_set]; exact h
  · simp
theorem putB_post {w w' : World} {R C : Int} {l : List (Int × Int)} {i j x y : Int} {e : Ending} {ok : Bool} (h : okPut R C l i j x y = ok) (hp : if ok then PostB w R C (l.set (atI C i j) (x, y)) true e w' else PostB w 0 0 [] false e w') :
    PostB w (selI (okPut R C l i j x y) R) (selI (okPut R C l i j x y) C) (putL R C l i j x y) (okPut R C l i j x y) e w' := by
  unfold putL
  rw [h]
  cases ok
  · exact hp
  · exact hp
end Go.Proofs.YtlambflmabecfaaGreat
namespace Go.Proofs.YtlambflmabecfaaGreat
open Go.ChangeShapes Go.WideShapes Go.ChangeAt Go.RowKit Go.Joins Go.Deep
set_option linter.unusedSimpArgs false
set_option linter.unusedVariables false
set_option maxRecDepth 100000
set_option maxHeartbeats 1000000
/-- The value v is a list of numbers whose memory lies from block base on and is the call's own. -/
def IRow (w : World) (base : Nat) (v : Value) (l : List Int) : Prop := w.ownsRow base 3 1 v l.length (ints l)
theorem IRow.nil {w : World} {base : Nat} : IRow w base (.slice none 0 0) [] := World.ownsRow_nil _ _ _ _
theorem IRow.keep {w w' : World} {base : Nat} {v : Value} {l : List Int} (h : IRow w base v l) (hb : Below w.heap.size w w') : IRow w' base v l := row_keep h hb
theorem IRow.alloc {w : World} {base : Nat} {v : Value} {l : List Int} (h : IRow w base v l) (o : Obj) : IRow (w.alloc o) base v l := World.ownsRow.alloc h o
theorem IRow.grown {w w' : World} {base : Nat} {v : Value} {l : List Int} {row : Option Nat} (h : IRow w base v l) (hg : w.grownBy w' row) (hne : v.ownBlock = none ∨ v.ownBlock ≠ row) : IRow w' base v l := World.ownsRow.kept h hg hne
theorem IRow.shape {w : World} {base : Nat} {v : Value} {l : List Int} (h : IRow w base v l) : ∃ A cap, v = .slice A l.length cap ∧ Own w A 3 (ints l) ∧ ∀ a, A = some a → base ≤ a.block := by
  have h' : w.ownsRow base 3 1 v l.length (ints l) := h
  obtain ⟨A, cap, rfl⟩ := slice_of_row h'
  exact ⟨A, cap, rfl, (own_of_row h').1, (own_of_row h').2⟩
theorem PostI.of_irow {w w' : World} {l : List Int} {v : Value} {base : Nat} (h : IRow w' base v l) (hbase : w.heap.size ≤ base) (hb : Below w.heap.size w w') : PostI w l (.returned v) w' := by
  obtain ⟨A', cap', rfl, ho, hn⟩ := h.shape
  exact PostI.mk ho (fun a ha => Nat.le_trans hbase (hn a ha)) hb
/-- 'l = append(l, x)': the literal slice of x is the heap's last block. -/
theorem wpList_push {w : World} {ops : Array Oper} {rest : List Oper} {o : Oper} {a : Act} {Q : Exit → Act → World → Prop} {base : Nat} {v : Value} {l : List Int} {x0 : Int} (hrow : IRow w base v l) (hn : l.length ≤ 1048576) (hbase : base ≤ w.heap.size)
    (hgd : o.guard = none) (s x : Operand) (ho : o.op = .call { callee := .builtin .append, args := #[s, x], argTypes := #[73, 73] })
    (hs : a.eval s = v) (hx : a.eval x = .slice (some ⟨w.heap.size, 0, none⟩) 1 1)
    (h : ∀ v' w', IRow w' base v' (l ++ [x0]) → (w.alloc (.cells #[.int .i64 x0] 3)).grownBy w' v.ownBlock → Below base w w' → (v'.ownBlock = v.ownBlock ∨ v'.ownBlock = some (w.heap.size + 1)) → wpList Tryz.prog ops Q rest (a.put o.dst v') w') :
    wpList Tryz.prog ops Q (o :: rest) a (w.alloc (.cells #[.int .i64 x0] 3)) := by
  obtain ⟨i0, hi, hz0, hz1, hz2⟩ := info_parts intInfo
  refine wpList_append_own_at _ hgd s x 73 ho base 3 i0 _ 1 8 Tryz.underlying73 hi hz0 hz1 hz2 rfl (by omega) v l.length (ints l) hs (World.ownsRow.alloc hrow _) ⟨w.heap.size, 0, none⟩ 1 1 [.int .i64 x0] hx rfl one_cellI one_oneI (by unfold maxLen; omega) (by omega) (by simp; omega) ?_
  intro v' w' h1 h2 _ h4
  refine h v' w' ?_ h2 ?_ (by simpa using h4)
  · unfold IRow
    rw [List.length_append, List.length_singleton]
    simpa [ints] using h1
  · exact row_below (World.ownsRow.alloc hrow _) ((Below.refl base w).alloc hbase _) (by simp; omega) h2
end Go.Proofs.YtlambflmabecfaaGreat
namespace Go.Proofs.YtlambflmabecfaaGreat
open Go.ChangeShapes Go.WideShapes Go.ChangeAt Go.RowKit Go.Joins Go.Deep
set_option linter.unusedSimpArgs false
set_option linter.unusedVariables false
set_option maxRecDepth 100000
set_option maxHeartbeats 400000
def nearL (c n i : Nat) : List Nat :=
  (if c ≤ i then [i - c] else []) ++ (if 0 < i % c then [i - 1] else []) ++ (if i % c + 1 < c then [i + 1] else []) ++ (if i + c < n then [i + c] else [])
theorem mem_one {P : Prop} [Decidable P] {a y : Nat} : (y ∈ if P then [a] else []) ↔ P ∧ y = a := by
  by_cases h : P <;> simp [h]
theorem mem_near {c n i y : Nat} : y ∈ nearL c n i ↔ (c ≤ i ∧ y = i - c) ∨ (0 < i % c ∧ y = i - 1) ∨ (i % c + 1 < c ∧ y = i + 1) ∨ (i + c < n ∧ y = i + c) := by
  unfold nearL
  rw [List.mem_append, List.mem_append, List.mem_append, mem_one, mem_one, mem_one, mem_one, or_assoc, or_assoc]
theorem mod_down {c i : Nat} (h : 0 < i % c) : (i - 1) % c = i % c - 1 := by
  have e := Nat.div_add_mod i c
  rcases Nat.eq_zero_or_pos c with h0 | hc
  · subst h0
    rw [Nat.mod_zero, Nat.mod_zero]
  have hl := Nat.mod_lt i hc
  have e2 : i - 1 = c * (i / c) + (i % c - 1) := by omega
  rw [e2, Nat.mul_add_mod, Nat.mod_eq_of_lt (by omega)]
theorem mod_up {c i : Nat} (h : i % c + 1 < c) : (i + 1) % c = i % c + 1 := by
  have e := Nat.div_add_mod i c
  have e2 : i + 1 = c * (i / c) + (i % c + 1) := by omega
  rw [e2, Nat.mul_add_mod, Nat.mod_eq_of_lt h]
theorem row_end {c r i : Nat} (h : i % c + 1 < c) (hi : i < r * c) : i + 1 < r * c := by
  have e := Nat.div_add_mod i c
  have hc : 0 < c := by omega
  have h1 : i / c < r := (Nat.div_lt_iff_lt_mul hc).2 hi
  have h2 : c * (i / c + 1) ≤ c * r := Nat.mul_le_mul_left c h1
  rw [Nat.mul_succ, Nat.mul_comm c r] at h2
  omega
theorem near_lt {c r i y : Nat} (hi : i < r * c) (h : y ∈ nearL c (r * c) i) : y < r * c := by
  rcases mem_near.1 h with ⟨_, rfl⟩ | ⟨_, rfl⟩ | ⟨h1, rfl⟩ | ⟨h1, rfl⟩
  · omega
  · omega
  · exact row_end h1 hi
  · exact h1
theorem near_sym {c r i y : Nat} (hi : i < r * c) (h : y ∈ nearL c (r * c) i) : i ∈ nearL c (r * c) y := by
  refine mem_near.2 ?_
  rcases mem_near.1 h with ⟨h1, rfl⟩ | ⟨h1, rfl⟩ | ⟨h1, rfl⟩ | ⟨h1, rfl⟩
  · exact .inr (.inr (.inr ⟨by omega, by omega⟩))
  · refine .inr (.inr (.inl ⟨?_, ?_⟩))
    · rw [mod_down h1]
      have hc : 0 < c := by
        rcases Nat.eq_zero_or_pos c with h0 | h0
        · subst h0; simp at hi
        · exact h0
      have := Nat.mod_lt i hc
      omega
    · have := Nat.mod_le i c
      omega
  · refine .inr (.inl ⟨?_, by omega⟩)
    rw [mod_up h1]
    omega
  · exact .inl ⟨by omega, by omega⟩
theorem near_len (c n i : Nat) : (nearL c n i).length ≤ 4 := by
  unfold nearL
  repeat' split
  all_goals simp
/-! ### groups are closed, apart, and those of each of their cells -/
section
variable {J : Nat → Bool} {near : Nat → List Nat} {n : Nat}
structure Groups (J : Nat → Bool) (near : Nat → List Nat) (n k : Nat) (G : List (List Nat)) : Prop where
  cells : ∀ g ∈ G, ∀ x ∈ g, x < n ∧ J x = true
  closed : ∀ g ∈ G, ∀ x ∈ g, ∀ y ∈ near x, J y = true → y ∈ g
  nodup : ∀ g ∈ G, g.Nodup
  each : ∀ g ∈ G, ∀ x ∈ g, ∀ y, y ∈ brs J near [] [x] n ↔ y ∈ g
  some_ : ∀ g ∈ G, g ≠ []
  few : ∀ g ∈ G, g.length ≤ n
  apart : G.flatten.Nodup
  all : ∀ i, i < k → J i = true → i ∈ G.flatten
theorem flatten_snoc (G : List (List Nat)) (q : List Nat) : (G ++ [q]).flatten = G.flatten ++ q := by simp
theorem groups_step (hn : ∀ x, x < n → ∀ y ∈ near x, y < n) (hs : ∀ x, x < n → ∀ y ∈ near x, x ∈ near y) {k : Nat} {G : List (List Nat)} (h : Groups J near n k G) (hk : k < n) : Groups J near n (k + 1) (gst J near n G k) := by
  unfold gst
  by_cases ho : opn J G.flatten [] k = true
  · rw [if_pos ho]
    obtain ⟨hJ, hv, _⟩ := opn_iff.1 ho
    have hf := brs_few (J := J) (near := near) (v := G.flatten) (q := [k]) (n := n) hn (by simpa using hk) (few_one hk ho) n
    have hj := brs_joins (J := J) (near := near) (v := G.flatten) (q := [k]) (fun x hx => by rw [List.mem_singleton] at hx; subst hx; exact ⟨hJ, hv⟩) n
    have hd := brs_nodup (J := J) (near := near) (v := G.flatten) (q := [k]) (by simp) n
    have hc : ∀ x ∈ grp J near n G k, ∀ y ∈ near x, J y = true → y ∈ grp J near n G k := by
      intro x hx y hy hJy
      refine brs_closed (few_len hf.1) x hx y hy hJy ?_
      intro hyv
      obtain ⟨g, hg, hyg⟩ := List.mem_flatten.1 hyv
      have := h.closed g hg y hyg x (hs x (hf.2 x hx) y hy) (hj x hx).1
      exact (hj x hx).2 (List.mem_flatten.2 ⟨g, hg, this⟩)
    have hk0 : k ∈ grp J near n G k := brs_le (by simp) n
    have hsub : ∀ x ∈ grp J near n G k, ∀ y, y ∈ brs J near [] [x] n → y ∈ grp J near n G k := by
      intro x hx
      exact brs_inside (S := fun y => y ∈ grp J near n G k) (fun a ha y hy hJy _ => hc a ha y hy hJy) (by simpa using hx) n
    have heach : ∀ x ∈ grp J near n G k, ∀ y, y ∈ brs J near [] [x] n ↔ y ∈ grp J near n G k := by
      intro x hx y
      refine ⟨hsub x hx y, ?_⟩
      have hxo : opn J [] [] x = true := opn_iff.2 ⟨(hj x hx).1, by simp, by simp⟩
      have hf1 := brs_few (J := J) (near := near) (v := []) (q := [x]) (n := n) hn (by simpa using hf.2 x hx) (few_one (hf.2 x hx) hxo) n
      have hj1 := brs_joins (J := J) (near := near) (v := []) (q := [x]) (fun y hy => by rw [List.mem_singleton] at hy; rw [hy]; exact ⟨(hj x hx).1, List.not_mem_nil⟩) n
      have hc1 : ∀ a ∈ brs J near [] [x] n, ∀ y ∈ near a, J y = true → y ∈ brs J near [] [x] n := fun a ha y hy hJy => brs_closed (few_len hf1.1) a ha y hy hJy (by simp)
      have hx1 : x ∈ brs J near [] [x] n := brs_le (by simp) n
      have hk1 : k ∈ brs J near [] [x] n := by
        refine Classical.byContradiction fun hno => ?_
        have hin := brs_inside (J := J) (near := near) (v := G.flatten) (q := [k]) (S := fun z => z ∉ brs J near [] [x] n ∧ J z = true ∧ z < n)
          (fun z hz y hy hJy _ => ⟨fun hy1 => hz.1 (hc1 y hy1 z (hs z hz.2.2 y hy) hz.2.1), hJy, hn z hz.2.2 y hy⟩) (by simpa using ⟨hno, hJ, hk⟩) n
        exact (hin x hx).1 hx1
      exact brs_inside (J := J) (near := near) (v := G.flatten) (q := [k]) (S := fun z => z ∈ brs J near [] [x] n) (fun z hz y hy hJy _ => hc1 z hz y hy hJy) (by simpa using hk1) n y
    refine ⟨?_, ?_, ?_, ?_, ?_, ?_, ?_, ?_⟩
    · intro g hg x hx
      rcases List.mem_append.1 hg with hg | hg
      · exact h.cells g hg x hx
      · rw [List.mem_singleton] at hg; subst hg; exact ⟨hf.2 x hx, (hj x hx).1⟩
    · intro g hg
      rcases List.mem_append.1 hg with hg | hg
      · exact h.closed g hg
      · rw [List.mem_singleton] at hg; subst hg; exact hc
    · intro g hg
      rcases List.mem_append.1 hg with hg | hg
      · exact h.nodup g hg
      · rw [List.mem_singleton] at hg; subst hg; exact hd
    · intro g hg
      rcases List.mem_append.1 hg with hg | hg
      · exact h.each g hg
      · rw [List.mem_singleton] at hg; subst hg; exact heach
    · intro g hg
      rcases List.mem_append.1 hg with hg | hg
      · exact h.some_ g hg
      · rw [List.mem_singleton] at hg; subst hg; exact fun e => by rw [e] at hk0; exact absurd hk0 (List.not_mem_nil)
    · intro g hg
      rcases List.mem_append.1 hg with hg | hg
      · exact h.few g hg
      · rw [List.mem_singleton] at hg; subst hg; exact few_len hf.1
    · rw [flatten_snoc, List.nodup_append]
      refine ⟨h.apart, hd, ?_⟩
      intro a ha b hb e
      subst e
      exact (hj a hb).2 ha
    · intro i hi hJi
      rw [flatten_snoc, List.mem_append]
      rcases Nat.lt_or_ge i k with h1 | h1
      · exact .inl (h.all i h1 hJi)
      · obtain rfl : i = k := by omega
        exact .inr hk0
  · rw [if_neg ho]
    refine ⟨h.cells, h.closed, h.nodup, h.each, h.some_, h.few, h.apart, ?_⟩
    intro i hi hJi
    rcases Nat.lt_or_ge i k with h1 | h1
    · exact h.all i h1 hJi
    · obtain rfl : i = k := by omega
      refine Classical.byContradiction fun hno => ho (opn_iff.2 ⟨hJi, hno, by simp⟩)
theorem groups_at (hn : ∀ x, x < n → ∀ y ∈ near x, y < n) (hs : ∀ x, x < n → ∀ y ∈ near x, x ∈ near y) : ∀ k, k ≤ n → Groups J near n k (gat J near n k)
  | 0, _ => ⟨fun g hg => absurd hg List.not_mem_nil, fun g hg => absurd hg List.not_mem_nil, fun g hg => absurd hg List.not_mem_nil, fun g hg => absurd hg List.not_mem_nil, fun g hg => absurd hg List.not_mem_nil, fun g hg => absurd hg List.not_mem_nil, List.nodup_nil, fun i hi => absurd hi (Nat.not_lt_zero i)⟩
  | k + 1, hk => groups_step hn hs (groups_at hn hs k (by omega)) (by omega)
end
theorem num_is {j : Nat} {g : List Nat} : ∀ (G : List (List Nat)) (c k : Nat), G.flatten.Nodup → G[k]? = some g → (num G c j = ((c + k : Nat) : Int) ↔ j ∈ g)
  | [], c, k, _, h => by simp at h
  | a :: G, c, 0, hd, h => by
    rw [List.getElem?_cons_zero] at h
    cases h
    unfold num
    by_cases hj : j ∈ g
    · simp [hj]
    · simp only [List.contains_iff_mem, hj, if_false, iff_false]
      intro e
      rcases num_from (j := j) G (c + 1) with h1 | h1 <;> omega
  | a :: G, c, k + 1, hd, h => by
    rw [List.getElem?_cons_succ] at h
    rw [List.flatten_cons, List.nodup_append] at hd
    unfold num
    have ih := num_is (j := j) G (c + 1) k hd.2.1 h
    by_cases hj : j ∈ a
    · simp only [List.contains_iff_mem, hj, if_true]
      constructor
      · intro e; omega
      · intro hg
        exact absurd rfl (hd.2.2 j hj j (List.mem_flatten.2 ⟨g, List.mem_of_getElem? h, hg⟩))
    · simp only [List.contains_iff_mem, hj, if_false]
      rw [← ih]
      constructor <;> intro e <;> omega
/-- The numbers below n in a list, in order. -/
def sortN (n : Nat) (q : List Nat) : List Nat := (List.range n).filter fun j => q.contains j
theorem sortN_congr {n : Nat} {p q : List Nat} (h : ∀ y, y ∈ p ↔ y ∈ q) : sortN n p = sortN n q := by
  unfold sortN
  refine List.filter_congr fun x _ => ?_
  rw [Bool.eq_iff_iff, List.contains_iff_mem, List.contains_iff_mem]
  exact h x
theorem mem_sortN {n x : Nat} {q : List Nat} : x ∈ sortN n q ↔ x < n ∧ x ∈ q := by
  unfold sortN
  rw [List.mem_filter, List.mem_range, List.contains_iff_mem]
theorem sortN_sorted (n : Nat) (q : List Nat) : (sortN n q).Pairwise (· < ·) := List.pairwise_lt_range.filter _
/-- Two rising lists of the same numbers are one. -/
theorem rising_eq : ∀ {a b : List Nat}, a.Pairwise (· < ·) → b.Pairwise (· < ·) → (∀ x, x ∈ a ↔ x ∈ b) → a = b
  | [], [], _, _, _ => rfl
  | [], y :: b, _, _, h => absurd ((h y).2 (List.mem_cons_self ..)) (List.not_mem_nil)
  | x :: a, [], _, _, h => absurd ((h x).1 (List.mem_cons_self ..)) (List.not_mem_nil)
  | x :: a, y :: b, ha, hb, h => by
    rw [List.pairwise_cons] at ha hb
    have e : x = y := by
      rcases List.mem_cons.1 ((h x).1 (List.mem_cons_self ..)) with e | e
      · exact e
      · rcases List.mem_cons.1 ((h y).2 (List.mem_cons_self ..)) with e' | e'
        · exact e'.symm
        · have := hb.1 x e
          have := ha.1 y e'
          omega
    subst e
    rw [rising_eq ha.2 hb.2 (fun z => ?_)]
    constructor
    · intro hz
      rcases List.mem_cons.1 ((h z).1 (List.mem_cons_of_mem _ hz)) with e | e
      · have := ha.1 z hz; omega
      · exact e
    · intro hz
      rcases List.mem_cons.1 ((h z).2 (List.mem_cons_of_mem _ hz)) with e | e
      · have := hb.1 z hz; omega
      · exact e
theorem sortN_of_perm {n : Nat} {q r : List Nat} (hp : r.Perm q) (hr : r.Pairwise (· ≤ ·)) (hd : q.Nodup) (hl : ∀ x ∈ q, x < n) : r = sortN n q := by
  have hd' : r.Nodup := hp.nodup_iff.2 hd
  refine rising_eq ?_ (sortN_sorted n q) (fun x => ?_)
  · refine (hr.and hd').imp ?_
    intro a b h
    omega
  · rw [mem_sortN, hp.mem_iff]
    exact ⟨fun h => ⟨hl x h, h⟩, fun h => h.2⟩
theorem sortN_length {n : Nat} (q : List Nat) : (sortN n q).length ≤ n := by
  have := List.length_filter_le (fun j => q.contains j) (List.range n)
  rw [List.length_range] at this
  exact this
end Go.Proofs.YtlambflmabecfaaGreat
namespace Go.Proofs.YtlambflmabecfaaGreat
open Go.ChangeShapes Go.WideShapes Go.ChangeAt Go.RowKit Go.Joins Go.Deep
set_option linter.unusedSimpArgs false
set_option linter.unusedVariables false
set_option maxRecDepth 100000
set_option maxHeartbeats 1000000
def joins (k : Int) : Bool := decide (k = 6) || decide (k = 7)
theorem spec_ggGear (a b : Int) (w : World) :
    Calls Tryz.prog 73 #[.agg #[.int .i64 a, .int .i64 b]] w fun e w' => e = .returned (.bool (joins a)) ∧ Below w.heap.size w w' := by
  go_enter Tryz.func73, Tryz.ntmps73
  go_wp2
  all_goals go_returns
  all_goals refine ⟨ret_bool (by unfold joins; (first | rfl | (refine Bool.eq_iff_iff.2 ?_; simp only [Bool.and_eq_true, Bool.or_eq_true, Bool.not_eq_true', decide_eq_true_eq, decide_eq_false_iff_not, beq_iff_eq, bne_iff_ne, ne_eq, true_iff, iff_true, false_iff, iff_false, Bool.false_eq_true, Bool.true_eq_false] <;> omega) | (simp; omega))), by (repeat' (first | (with_reducible exact Below.refl _ _) | (with_reducible assumption) | (with_reducible refine Below.alloc ?_ ?_ _) | (with_reducible refine Below.setCell ?_ ?_ _) | (with_reducible refine Below.drew ?_) | (with_reducible refine below_drewN ?_ _) | (with_reducible refine Below.trans ?_ (Below.mono (by assumption) ?_)) | (with_reducible exact Nat.le_refl _) | (simp; done) | omega | (simp at *; omega)))⟩
theorem impl_isJoining (a b : Int) (w : World) :
    Calls Tryz.prog 94 #[.agg #[.int .i64 a, .int .i64 b]] w fun e w' => e = .returned (.bool (joins a)) ∧ Below w.heap.size w w' := by
  go_enter Tryz.func94, Tryz.ntmps94
  go_wp2
  all_goals go_returns
  all_goals refine ⟨ret_bool (by unfold joins; (first | rfl | (refine Bool.eq_iff_iff.2 ?_; simp only [Bool.and_eq_true, Bool.or_eq_true, Bool.not_eq_true', decide_eq_true_eq, decide_eq_false_iff_not, beq_iff_eq, bne_iff_ne, ne_eq, true_iff, iff_true, false_iff, iff_false, Bool.false_eq_true, Bool.true_eq_false] <;> omega) | (simp; omega))), by (repeat' (first | (with_reducible exact Below.refl _ _) | (with_reducible assumption) | (with_reducible refine Below.alloc ?_ ?_ _) | (with_reducible refine Below.setCell ?_ ?_ _) | (with_reducible refine Below.drew ?_) | (with_reducible refine below_drewN ?_ _) | (with_reducible refine Below.trans ?_ (Below.mono (by assumption) ?_)) | (with_reducible exact Nat.le_refl _) | (simp; done) | omega | (simp at *; omega)))⟩
def nI (l : List Nat) : List Int := l.map fun k : Nat => (k : Int)
theorem nI_length (l : List Nat) : (nI l).length = l.length := by simp [nI]
theorem nI_append (l m : List Nat) : nI (l ++ m) = nI l ++ nI m := by simp [nI]
theorem nI_at (l : List Nat) (k : Nat) (h : k < l.length) : (ints (nI l))[k]? = some (.int .i64 (l[k] : Int)) := by simp [ints, nI, h]
theorem wrap_nat {x : Int} (h0 : 0 ≤ x) (h1 : x ≤ 1048576) : IntKind.i64.wrap x = x := IntWalk.i64_in x (by omega)
theorem div_facts {c r n i : Nat} (hc : 1 ≤ c) (hn : n = r * c) (hi : i < n) : (0 < i / c ↔ c ≤ i) ∧ (i / c + 1 < r ↔ i + c < n) ∧ i / c ≤ i ∧ i % c < c := by
  subst hn
  refine ⟨Nat.div_pos_iff.trans ⟨fun h => h.2, fun h => ⟨by omega, h⟩⟩, ?_, Nat.div_le_self .., Nat.mod_lt _ (by omega)⟩
  rw [← Nat.add_div_right i (show 0 < c by omega)]
  exact Nat.div_lt_iff_lt_mul (by omega)
theorem near_eq {c r n i : Nat} (hc : 1 ≤ c) (hn : n = r * c) (hi : i < n) : nearL c n i = (if 0 < i / c then [i - c] else []) ++ (if 0 < i % c then [i - 1] else []) ++ (if i % c + 1 < c then [i + 1] else []) ++ (if i / c + 1 < r then [i + c] else []) := by
  obtain ⟨h1, h2, _⟩ := div_facts hc hn hi
  unfold nearL
  simp only [h1, h2]
theorem spec_ggNear (r c i : Nat) (A : Option Addr) (n cap : Nat) (w : World) (hr1 : 1 ≤ r) (hr2 : r ≤ 10) (hc1 : 1 ≤ c) (hc2 : c ≤ 9) (hn : n = r * c) (hi : i < n) (hn2 : n ≤ 90) :
    Calls Tryz.prog 74 #[.agg #[.int .i64 (r : Int), .int .i64 (c : Int), .slice A n cap], .int .i64 (i : Int)] w (PostI w (nI (nearL c n i))) := by
  obtain ⟨i0, hi', hz0, hz1, hz2⟩ := info_parts intInfo
  have hcz : ¬ ((c : Nat) : Int) = 0 := by omega
  rw [near_eq hc1 hn hi]
  obtain ⟨d1, d2, d3, d4⟩ := div_facts hc1 hn hi
  have e1 : wrap64 ((i : Int) / (c : Int)) = ((i / c : Nat) : Int) := by
    rw [show (i : Int) / (c : Int) = ((i / c : Nat) : Int) from rfl]
    have h1 : i / c ≤ i := d3
    generalize i / c = q at h1
    unfold wrap64
    omega
  have e2 : (i : Int) % (c : Int) = ((i % c : Nat) : Int) := rfl
  go_enter Tryz.func74, Tryz.ntmps74
  obtain ⟨v0, hv0⟩ : ∃ v, v = w.alloc (.cells #[.int .i64 (r : Int), .int .i64 (c : Int), .slice A n cap] 34) := ⟨_, rfl⟩
  have X0 : Whole v0 w.heap.size 34 [.int .i64 (r : Int), .int .i64 (c : Int), .slice A n cap] := by rw [hv0]; exact heap_alloc_new w _
  have hb : Below w.heap.size w v0 := by rw [hv0]; exact (Below.refl _ _).alloc (Nat.le_refl _) _
  have HV := Lib.hid hv0.symm
  clear hv0 hn
  have E1 := Lib.hid e1
  have E2 := Lib.hid e2
  clear e1 e2
  go_upto_region 1 with (fail)
  rewrite [HV.out]
  clear HV
  have X0k0 : v0.cell? ⟨w.heap.size, 0, none⟩ = some (.int .i64 (r : Int)) := (X0.cell 0).trans rfl; have X0k1 : v0.cell? ⟨w.heap.size, 1, none⟩ = some (.int .i64 (c : Int)) := (X0.cell 1).trans rfl; have X0k2 : v0.cell? ⟨w.heap.size, 2, none⟩ = some (.slice A n cap) := (X0.cell 2).trans rfl
  go_quiet (fail)
  rewrite [E1.out, E2.out]
  clear E1 E2 X0k0 X0k1 X0k2
  have bd : Below v0.heap.size v0 (v0.drewN nq) := below_drewN (Below.refl _ _) _
  replace X0 := X0.below bd X0.lt
  replace hb := hb.trans (bd.mono hb.size)
  clear bd
  generalize v0.drewN nq = w' at *
  have hs : w'.heap.size ≤ w'.heap.size := Nat.le_refl _
  have hlb := X0.lt
  have hbl := hb.size
  have hrow : IRow w' w'.heap.size (.slice none 0 0) [] := IRow.nil
  generalize hB : w'.heap.size = B at hrow hs hlb hbl
  have hs' : B ≤ w'.heap.size := by omega
  clear hB hs
  have hs := hs'
  clear hs'
  have d5 : i % c ≤ i := Nat.mod_le ..
  generalize i / c = q at *
  generalize i % c = m at *
  have e3 : c ≤ i → ((i - c : Nat) : Int) = (i : Int) - (c : Int) := by omega
  have e4 : 0 < m → ((i - 1 : Nat) : Int) = (i : Int) - 1 := by omega
  have E3 := Lib.hid e3
  have E4 := Lib.hid e4
  clear e3 e4
  have X0k0 : w'.cell? ⟨w.heap.size, 0, none⟩ = some (.int .i64 (r : Int)) := (X0.cell 0).trans rfl; have X0k1 : w'.cell? ⟨w.heap.size, 1, none⟩ = some (.int .i64 (c : Int)) := (X0.cell 1).trans rfl; have X0k2 : w'.cell? ⟨w.heap.size, 2, none⟩ = some (.slice A n cap) := (X0.cell 2).trans rfl
  all_goals (go_wp2_with (first | (at_builtin; refine wpList_push hrow (by simp) hs rfl _ _ rfl rfl rfl ?_; intro v' w' hrow' hg' hb' _; have hs' := Nat.le_trans hs hb'.size; clear hg' X0k0 X0k1 X0k2 hrow hs; replace X0 := X0.below hb' hlb; replace hb := hb.trans (hb'.mono hbl); have hrow := hrow'; have hs := hs'; clear hrow' hb' hs'; have X0k0 : w'.cell? ⟨w.heap.size, 0, none⟩ = some (.int .i64 (r : Int)) := (X0.cell 0).trans rfl; have X0k1 : w'.cell? ⟨w.heap.size, 1, none⟩ = some (.int .i64 (c : Int)) := (X0.cell 1).trans rfl; have X0k2 : w'.cell? ⟨w.heap.size, 2, none⟩ = some (.slice A n cap) := (X0.cell 2).trans rfl) | fail))
  all_goals go_returns
  all_goals (have e3 := E3.out; have e4 := E4.out; clear E3 E4; have hx := PostI.of_irow hrow hbl hb; clear X0 X0k0 X0k1 X0k2 hrow hb hs hlb hbl hcz; simp_all [nI])
theorem impl_indicesBeside (r c i : Nat) (A : Option Addr) (n cap : Nat) (w : World) (hr1 : 1 ≤ r) (hr2 : r ≤ 10) (hc1 : 1 ≤ c) (hc2 : c ≤ 9) (hn : n = r * c) (hi : i < n) (hn2 : n ≤ 90) :
    Calls Tryz.prog 98 #[.agg #[.int .i64 (r : Int), .int .i64 (c : Int), .slice A n cap], .int .i64 (i : Int)] w (PostI w (nI (nearL c n i))) := by
  have hcz : ¬ ((c : Nat) : Int) = 0 := by omega
  obtain ⟨d1, d2, d3, d4⟩ := div_facts hc1 hn hi
  have d5 : i % c ≤ i := Nat.mod_le ..
  have hm : (i : Int) % (c : Int) = ((i % c : Nat) : Int) := rfl
  have hN : nearL c n i = (if c ≤ i then [i - c] else []) ++ (if 0 < i % c then [i - 1] else []) ++ (if i % c + 1 < c then [i + 1] else []) ++ (if i + c < n then [i + c] else []) := rfl
  rw [hN]
  clear d1 d2 d3 hn hN
  generalize i % c = m at *
  go_enter Tryz.func98, Tryz.ntmps98
  obtain ⟨v0, hv0⟩ : ∃ v, v = w.alloc (.cells #[.int .i64 (r : Int), .int .i64 (c : Int), .slice A n cap] 34) := ⟨_, rfl⟩
  have X0 : Whole v0 w.heap.size 34 [.int .i64 (r : Int), .int .i64 (c : Int), .slice A n cap] := by rw [hv0]; exact heap_alloc_new w _
  have hb : Below w.heap.size w v0 := by rw [hv0]; exact (Below.refl _ _).alloc (Nat.le_refl _) _
  have HV := Lib.hid hv0.symm
  clear hv0
  go_upto_region 1 with (fail)
  rewrite [HV.out]
  clear HV
  generalize v0 = w' at *
  have X0k0 : w'.cell? ⟨w.heap.size, 0, none⟩ = some (.int .i64 (r : Int)) := (X0.cell 0).trans rfl; have X0k1 : w'.cell? ⟨w.heap.size, 1, none⟩ = some (.int .i64 (c : Int)) := (X0.cell 1).trans rfl; have X0k2 : w'.cell? ⟨w.heap.size, 2, none⟩ = some (.slice A n cap) := (X0.cell 2).trans rfl
  have hs : w'.heap.size ≤ w'.heap.size := Nat.le_refl _
  have hlb := X0.lt
  have hbl := hb.size
  have hrow : IRow w' w'.heap.size (.slice none 0 0) [] := IRow.nil
  generalize hB : w'.heap.size = B at hrow hs hlb hbl
  have hs' : B ≤ w'.heap.size := by omega
  clear hB hs
  have hs := hs'
  clear hs'
  have e3 : c ≤ i → ((i - c : Nat) : Int) = (i : Int) - (c : Int) := by omega
  have e4 : 0 < m → ((i - 1 : Nat) : Int) = (i : Int) - 1 := by omega
  have E3 := Lib.hid e3
  have E4 := Lib.hid e4
  clear e3 e4
  go_upto_region 6 with (first | (at_builtin; refine wpList_push hrow (by simp) hs rfl _ _ rfl rfl rfl ?_; intro v' w' hrow' hg' hb' _; have hs' := Nat.le_trans hs hb'.size; clear hg' X0k0 X0k1 X0k2 hrow hs; replace X0 := X0.below hb' hlb; replace hb := hb.trans (hb'.mono hbl); have hrow := hrow'; have hs := hs'; clear hrow' hb' hs'; have X0k0 : w'.cell? ⟨w.heap.size, 0, none⟩ = some (.int .i64 (r : Int)) := (X0.cell 0).trans rfl; have X0k1 : w'.cell? ⟨w.heap.size, 1, none⟩ = some (.int .i64 (c : Int)) := (X0.cell 1).trans rfl; have X0k2 : w'.cell? ⟨w.heap.size, 2, none⟩ = some (.slice A n cap) := (X0.cell 2).trans rfl) | fail)
  all_goals go_quiet (fail)
  all_goals (clear X0k0 X0k1 X0k2; have bd : Below w'.heap.size w' (w'.drewN nq) := below_drewN (Below.refl _ _) _; replace X0 := X0.below bd X0.lt; replace hb := hb.trans (bd.mono hb.size); replace hrow := hrow.keep bd; replace hs := Nat.le_trans hs bd.size; clear bd; generalize w'.drewN nq = w' at *; have X0k0 : w'.cell? ⟨w.heap.size, 0, none⟩ = some (.int .i64 (r : Int)) := (X0.cell 0).trans rfl; have X0k1 : w'.cell? ⟨w.heap.size, 1, none⟩ = some (.int .i64 (c : Int)) := (X0.cell 1).trans rfl; have X0k2 : w'.cell? ⟨w.heap.size, 2, none⟩ = some (.slice A n cap) := (X0.cell 2).trans rfl)
  all_goals (go_wp2_with (first | (at_builtin; refine wpList_push hrow (by simp) hs rfl _ _ rfl rfl rfl ?_; intro v' w' hrow' hg' hb' _; have hs' := Nat.le_trans hs hb'.size; clear hg' X0k0 X0k1 X0k2 hrow hs; replace X0 := X0.below hb' hlb; replace hb := hb.trans (hb'.mono hbl); have hrow := hrow'; have hs := hs'; clear hrow' hb' hs'; have X0k0 : w'.cell? ⟨w.heap.size, 0, none⟩ = some (.int .i64 (r : Int)) := (X0.cell 0).trans rfl; have X0k1 : w'.cell? ⟨w.heap.size, 1, none⟩ = some (.int .i64 (c : Int)) := (X0.cell 1).trans rfl; have X0k2 : w'.cell? ⟨w.heap.size, 2, none⟩ = some (.slice A n cap) := (X0.cell 2).trans rfl) | fail))
  all_goals go_returns
  all_goals (have e3 := E3.out; have e4 := E4.out; clear E3 E4; have hx := PostI.of_irow hrow hbl hb; clear X0 X0k0 X0k1 X0k2 hrow hb hs hlb hbl hcz; simp_all [nI])
end Go.Proofs.YtlambflmabecfaaGreat
namespace Go.Proofs.YtlambflmabecfaaGreat
open Go.ChangeShapes Go.WideShapes Go.ChangeAt Go.RowKit Go.Joins Go.Deep
set_option linter.unusedSimpArgs false
set_option linter.unusedVariables false
set_option maxRecDepth 100000
set_option maxHeartbeats 2000000
open Go.Maps
def J (l : List (Int × Int)) (i : Nat) : Bool := joins (l.getD i (0, 0)).1
theorem J_at {l : List (Int × Int)} {k : Nat} (h : k < l.length) : J l k = joins l[k].1 := by unfold J; rw [List.getD_eq_getElem?_getD, List.getElem?_eq_getElem h]; rfl
theorem J_lt {l : List (Int × Int)} {k : Nat} (h : J l k = true) : k < l.length := by
  refine Classical.byContradiction fun hno => ?_
  unfold J at h
  rw [List.getD_eq_getElem?_getD, List.getElem?_eq_none (by omega)] at h
  simp [joins] at h
/-- A board's measures. -/
structure Geo (r c n : Nat) : Prop where
  r1 : 1 ≤ r
  r2 : r ≤ 10
  c1 : 1 ≤ c
  c2 : c ≤ 9
  cells : n = r * c
theorem Geo.n90 {r c n : Nat} (h : Geo r c n) : n ≤ 90 := by
  obtain ⟨_, h2, _, h4, h5⟩ := h
  have := Nat.mul_le_mul h2 h4
  omega
theorem Geo.near {r c n : Nat} (h : Geo r c n) : ∀ x, x < n → ∀ y ∈ nearL c n x, y < n := by
  intro x hx y hy
  have e := h.cells
  subst e
  exact near_lt hx hy
theorem Geo.sym {r c n : Nat} (h : Geo r c n) : ∀ x, x < n → ∀ y ∈ nearL c n x, x ∈ nearL c n y := by
  intro x hx y hy
  have e := h.cells
  subst e
  exact near_sym hx hy
/-- Cells that a map's turn leaves as they were. -/
theorem Keys.cells {w w' : World} {B nB : Nat} {o : Nat → Bool} (hk : Keys w B nB o) (hg : w.grownBy w' (some B)) {b j : Nat} {u : Value} (hc : w.cell? ⟨b, j, none⟩ = some u) : w'.cell? ⟨b, j, none⟩ = some u := by
  have hlt : b < w.heap.size := lt_of_cell (a := ⟨b, j, none⟩) hc
  have hne : some b ≠ some B := by
    obtain ⟨D, ⟨es, clock, hb, _⟩, _⟩ := hk
    intro e
    cases e
    simp [World.cell?, hb] at hc
  have := hg.block b hlt hne
  simpa [World.cell?, this] using hc
theorem impl_openCells (R C : Int) (A : Option Addr) (cap : Nat) (l : List (Int × Int)) (w : World) (hn : l.length ≤ 1048576) (hr : Rd w w.heap.size A (flat l)) :
    Calls Tryz.prog 93 #[.agg #[.int .i64 R, .int .i64 C, .slice A l.length cap], .func (.func 94) #[] #[]] w
      fun e w' => ∃ B, e = .returned (.map (some B)) ∧ w.heap.size ≤ B ∧ Keys w' B l.length (J l) ∧ Below w.heap.size w w' := by
  have hmm := @run_makeMap Tryz.prog
  go_enter Tryz.func93, Tryz.ntmps93
  go_wp2
  go_loopw [12] (fun i wr => ∃ k : Nat, k ≤ l.length ∧ i = .int .i64 k ∧ Keys wr (w.heap.size + 1) k (fun j => J l j && decide (j < k)) ∧ Below w.heap.size w wr) (fun i _ => l.length - (intOf i).toNat)
  case atStart =>
    have h0 := Keys.made (w.alloc (.cells #[.int .i64 R, .int .i64 C, .slice A l.length cap] 34))
    rw [World.size_alloc] at h0
    exact ⟨0, Nat.zero_le _, rfl, h0.congr (fun i _ => by simp), by (repeat' (first | (with_reducible exact Below.refl _ _) | (with_reducible assumption) | (with_reducible refine Below.alloc ?_ ?_ _) | (with_reducible refine Below.setCell ?_ ?_ _) | (with_reducible refine Below.drew ?_) | (with_reducible refine below_drewN ?_ _) | (with_reducible refine Below.trans ?_ (Below.mono (by assumption) ?_)) | (with_reducible exact Nat.le_refl _) | (simp; done) | omega | (simp at *; omega)))⟩
  case round =>
    obtain ⟨k, hk, rfl, hK, hb⟩ := hrel
    by_cases hlt : k < l.length
    · obtain ⟨b, o, rfl, hbl, hc⟩ := hr (by rw [flat_length]; omega)
      obtain ⟨hc0, hc1⟩ := cell_at2 hb hbl hc hlt
      have hJ := J_at hlt
      have hs := hb.size
      have hB := hK.lt
      clear hr hc
      generalize l[k].1 = x at *
      generalize l[k].2 = y at *
      go_wp2_with fail
      rcases Bool.eq_false_or_eq_true (joins x) with hj | hj
      · refine (impl_isJoining _ _ _).mono ?_; rintro e w1 ⟨rfl, b1⟩
        rewrite [hj]
        rewrite [hj] at hJ
        have hK1 := (hK.alloc (.cells #[.int .i64 x, .int .i64 y] 95)).below b1
        have hb1 : Below w.heap.size w w1 := (hb.alloc hs _).trans (b1.mono (by simp; omega))
        clear hK hb b1 hc0 hc1 hB hs hj
        go_wp2_with (first | (at_mapUpdate; refine wpList_put_keys rfl _ _ _ rfl (w.heap.size + 1) k _ rfl hK1 (by unfold maxLen; omega) k rfl rfl (by omega) ?_; intro w2 hK2 g2) | fail)
        have hs1 := hb1.size
        have hb2 : Below w.heap.size w w2 := hb1.grown g2 hs1 (fun j hj => by cases hj; omega)
        clear g2 hK1 hb1
        go_roundw
        case rel =>
          refine ⟨k + 1, by omega, by go_num, hK2.congr (fun i _ => ?_), hb2⟩
          by_cases e : i = k
          · subst e; simp [hJ]
          · have e1 : decide (i < k + 1) = decide (i < k) := by rw [decide_eq_decide]; omega
            simp [e, e1]
        case measure => simp [intOf]; omega
      · refine (impl_isJoining _ _ _).mono ?_; rintro e w1 ⟨rfl, b1⟩
        rewrite [hj]
        rewrite [hj] at hJ
        have hK1 := (hK.alloc (.cells #[.int .i64 x, .int .i64 y] 95)).below b1
        have hb1 : Below w.heap.size w w1 := (hb.alloc hs _).trans (b1.mono (by simp; omega))
        clear hK hb b1 hc0 hc1 hB hs hj
        go_wp2
        go_roundw
        case rel =>
          refine ⟨k + 1, by omega, by go_num, (hK1.mono (Nat.le_succ k)).congr (fun i _ => ?_), hb1⟩
          by_cases e : i = k
          · subst e; simp [hJ]
          · have e1 : decide (i < k + 1) = decide (i < k) := by rw [decide_eq_decide]; omega
            rw [e1]
        case measure => simp [intOf]; omega
    · obtain rfl : k = l.length := by omega
      go_wp2
      go_returns
      refine ⟨w.heap.size + 1, rfl, by omega, hK.congr (fun i _ => ?_), hb⟩
      by_cases e : i < l.length
      · simp [e]
      · have : J l i = false := by
          rcases Bool.eq_false_or_eq_true (J l i) with h | h
          · exact absurd (J_lt h) e
          · exact h
        rw [this]; rfl
theorem Clone_ints (b o cap : Nat) (l : List Int) (w : World) (hn : l.length ≤ 1048576) (hr : Rd w w.heap.size (some ⟨b, o, none⟩) (ints l)) (hp : 0 < l.length) (base : Nat) (hbase : base ≤ w.heap.size) :
    Calls Tryz.prog 97 #[.slice (some ⟨b, o, none⟩) l.length cap] w fun e w' => ∃ A' cap', e = .returned (.slice A' l.length cap') ∧ IRow w' base (.slice A' l.length cap') l ∧ Below w.heap.size w w' := by
  obtain ⟨i0, hi, hz0, hz1, hz2⟩ := info_parts intInfo
  have hnil := fun (w : World) => Lib.run_eql_slice_some_nil (P := Tryz.prog) w (⟨b, o, none⟩ : Addr) l.length cap Tryz.underlying73
  go_enter Tryz.func97, Tryz.ntmps97
  go_wp2_with (first | (at_builtin; refine wpList_append_own _ rfl (.tmp 5) (.tmp 6) 73 rfl w.heap.size 3 i0 _ 1 8 Tryz.underlying73 hi hz0 hz1 hz2 rfl (by omega) _ 0 [] rfl (row_empty w _ _) ⟨b, o, none⟩ l.length cap (ints l) rfl (by rw [ints_length]; omega) (rd_news hr ((Below.refl _ _).alloc (Nat.le_refl _) _)) (by intro u hu; simp [ints] at hu; obtain ⟨a, _, rfl⟩ := hu; rfl) (by unfold maxLen; omega) (by omega) (by simp) ?_; intro v1 w1 hown1 hg1 _) | fail)
  have hb1 : Below w.heap.size w w1 := row_below (row_empty w _ 1) ((Below.refl _ _).alloc (Nat.le_refl _) _) (by simp) hg1
  rw [Nat.zero_add, List.nil_append] at hown1
  obtain ⟨A', cap', rfl⟩ := slice_of_row hown1
  clear hg1
  go_wp2
  go_returns
  refine ⟨A', cap', rfl, ?_, hb1⟩
  have h1 := hown1.1
  refine ⟨h1, ?_⟩
  rcases hown1.2 with h2 | ⟨g, cap2, cur, e2, h3, h4⟩
  · exact .inl h2
  · exact .inr ⟨g, cap2, cur, e2, Nat.le_trans hbase h3, h4⟩
end Go.Proofs.YtlambflmabecfaaGreat
namespace Go.Proofs.YtlambflmabecfaaGreat
open Go.ChangeShapes Go.WideShapes Go.ChangeAt Go.RowKit Go.Joins Go.Deep
set_option linter.unusedSimpArgs false
set_option linter.unusedVariables false
set_option maxRecDepth 100000
set_option maxHeartbeats 1000000
def SpS (w : World) (bx : List Value) (B nB : Nat) (o : Nat → Bool) (v : Value) (q : List Nat) (wr : World) : Prop :=
  Whole wr w.heap.size 34 bx ∧ IRow wr (w.heap.size + 1) v (nI q) ∧ Keys wr B nB o ∧ w.grownBy wr (some B)
/-- A list of numbers that lies apart from a row. -/
def NrS (base : Nat) (v : Value) (A : Option Addr) (nl : List Nat) (wr : World) : Prop :=
  Own wr A 3 (ints (nI nl)) ∧ (0 < nl.length → ∀ a, A = some a → base ≤ a.block ∧ v.ownBlock ≠ some a.block)
theorem grown_below {w wr w2 : World} {row : Option Nat} {B : Nat} (h : w.grownBy wr row) (hb : Below B wr w2) (hB : w.heap.size ≤ B) : w.grownBy w2 row :=
  ⟨h.os ▸ hb.os, hb.tape.trans h.tape, hb.output.trans h.output, Nat.le_trans h.size hb.size, fun i hi hne => (hb.block i (Nat.lt_of_lt_of_le hi hB)).trans (h.block i hi hne)⟩
variable {w wr w2 : World} {bx : List Value} {B nB : Nat} {o o' : Nat → Bool} {v v2 : Value} {q nl : List Nat} {A : Option Addr}
theorem SpS.below (h : SpS w bx B nB o v q wr) (hb : Below wr.heap.size wr w2) : SpS w bx B nB o v q w2 :=
  ⟨h.1.below hb h.1.lt, h.2.1.keep hb, h.2.2.1.below hb, grown_below h.2.2.2 hb h.2.2.2.size⟩
theorem SpS.del (h : SpS w bx B nB o v q wr) (hk : Keys w2 B nB o') (hg : wr.grownBy w2 (some B)) : SpS w bx B nB o' v q w2 := by
  refine ⟨h.1.grown hg (fun e => h.2.2.1.whole h.1 (by cases e; rfl)), ?_, hk, h.2.2.2.trans hg⟩
  refine h.2.1.grown hg (.inr fun e => h.2.2.1.row h.2.1 e.symm)
theorem SpS.congr (h : SpS w bx B nB o v q wr) (he : ∀ i, i ≤ 1048576 → o i = o' i) : SpS w bx B nB o' v q wr := ⟨h.1, h.2.1, h.2.2.1.congr he, h.2.2.2⟩
theorem SpS.push {x : Int} {y : Nat} (h : SpS w bx B nB o v q wr) (hrow : IRow w2 (w.heap.size + 1) v2 (nI q ++ [x])) (hx : x = (y : Int)) (hg : (wr.alloc (.cells #[.int .i64 x] 3)).grownBy w2 v.ownBlock) (hb : Below (w.heap.size + 1) wr w2) : SpS w bx B nB o v2 (q ++ [y]) w2 := by
  refine ⟨h.1.below hb (Nat.lt_succ_self _), ?_, ?_, grown_below h.2.2.2 hb (Nat.le_succ _)⟩
  · rw [nI_append]; subst hx; exact hrow
  · exact (h.2.2.1.alloc _).kept hg (h.2.2.1.row h.2.1)
theorem NrS.below {base : Nat} (h : NrS base v A nl wr) (hb : Below wr.heap.size wr w2) : NrS base v A nl w2 := ⟨h.1.keep hb, h.2⟩
theorem NrS.del {base : Nat} (h : NrS base v A nl wr) (hk : Keys wr B nB o) (hg : wr.grownBy w2 (some B)) : NrS base v A nl w2 := by
  refine ⟨fun hx => ?_, h.2⟩
  obtain ⟨g, rest, e, hw⟩ := h.1 hx
  exact ⟨g, rest, e, hw.grown hg (fun e' => hk.whole hw (by cases e'; rfl))⟩
theorem NrS.push {base : Nat} {x : Int} (h : NrS base v A nl wr) (hg : (wr.alloc (.cells #[.int .i64 x] 3)).grownBy w2 v.ownBlock) (hl : v2.ownBlock = v.ownBlock ∨ v2.ownBlock = some (wr.heap.size + 1)) : NrS base v2 A nl w2 := by
  refine ⟨fun hx => ?_, fun hx a ha => ?_⟩
  · obtain ⟨g, rest, e, hw⟩ := h.1 hx
    have hx' : 0 < nl.length := by simpa [ints, nI] using hx
    exact ⟨g, rest, e, (hw.alloc _).grown hg (fun e' => (h.2 hx' _ e).2 e'.symm)⟩
  · obtain ⟨h1, h2⟩ := h.2 hx a ha
    refine ⟨h1, ?_⟩
    obtain ⟨g, rest, e, hw⟩ := h.1 (by simpa [ints, nI] using hx)
    have hlt := hw.lt
    rw [e] at ha
    cases ha
    rcases hl with e1 | e1
    · rw [e1]; exact h2
    · rw [e1]
      intro e2
      cases e2
      simp at hlt
      omega
theorem SpS.shape (h : SpS w bx B nB o v q wr) (hp : 0 < q.length) : ∃ g cap rest, v = .slice (some ⟨g, 0, none⟩) q.length cap ∧ Whole wr g 3 (ints (nI q) ++ rest) := by
  obtain ⟨A, cap, rfl, ho, _⟩ := h.2.1.shape
  obtain ⟨g, rest, rfl, hw⟩ := ho (by rw [ints_length, nI_length]; exact hp)
  exact ⟨g, cap, rest, by rw [nI_length], hw⟩
theorem NrS.shape {base : Nat} (h : NrS base v A nl wr) (hp : 0 < nl.length) : ∃ g rest, A = some ⟨g, 0, none⟩ ∧ Whole wr g 3 (ints (nI nl) ++ rest) := by
  obtain ⟨g, rest, e, hw⟩ := h.1 (by rw [ints_length, nI_length]; exact hp)
  exact ⟨g, rest, e, hw⟩
theorem row_num {g : Nat} {q : List Nat} {rest : List Value} (h : Whole wr g 3 (ints (nI q) ++ rest)) {k : Nat} (hk : k < q.length) : wr.cell? ⟨g, k, none⟩ = some (.int .i64 (q[k] : Int)) := by
  rw [h.cell k, List.getElem?_append_left (by rw [ints_length, nI_length]; exact hk), nI_at q k hk]
end Go.Proofs.YtlambflmabecfaaGreat
namespace Go.Proofs.YtlambflmabecfaaGreat
open Go.ChangeShapes Go.WideShapes Go.ChangeAt Go.RowKit Go.Joins Go.Deep
set_option linter.unusedSimpArgs false
set_option linter.unusedVariables false
set_option maxRecDepth 100000
set_option maxHeartbeats 4000000
theorem impl_spread (r c : Nat) (A : Option Addr) (cap : Nat) (l : List (Int × Int)) (B nB b0 i : Nat) (vs : List Nat) (w : World) (hG : Geo r c l.length) (hr : Rd w w.heap.size A (flat l)) (hi : i < l.length)
    (hk0 : Keys w B nB (opn (J l) vs [])) (ho : opn (J l) vs [] i = true) (hf : Rd w w.heap.size (some ⟨b0, 0, none⟩) [.int .i64 (i : Int)]) :
    Calls Tryz.prog 95 #[.agg #[.int .i64 (r : Int), .int .i64 (c : Int), .slice A l.length cap], .map (some B), .slice (some ⟨b0, 0, none⟩) 1 1] w
      fun e w' => ∃ v, e = .returned (.tuple #[v, .slice none 0 0]) ∧ IRow w' (w.heap.size + 1) v (nI (brs (J l) (nearL c l.length) vs [i] l.length)) ∧ Keys w' B nB (opn (J l) vs (brs (J l) (nearL c l.length) vs [i] l.length)) ∧ w.grownBy w' (some B) := by
  obtain ⟨b, o, rfl, hbl, hc⟩ := hr (by rw [flat_length]; omega)
  have n90 := hG.n90
  have HQ := Lib.hid (brs_few (J := J l) (near := nearL c l.length) (v := vs) (q := [i]) (n := l.length) hG.near (by simpa using hi) (few_one hi ho))
  obtain ⟨b0', q0, e0, hb0, hfc⟩ := hf (by simp)
  cases e0
  have hf0 : w.cell? ⟨b0, 0, none⟩ = some (.int .i64 (i : Int)) := by simpa using hfc 0 _ rfl
  have hB := hk0.lt
  clear hfc hr
  go_enter Tryz.func95, Tryz.ntmps95
  obtain ⟨v0, hv0⟩ : ∃ v, v = w.alloc (.cells #[.int .i64 (r : Int), .int .i64 (c : Int), .slice (some ⟨b, o, none⟩) l.length cap] 34) := ⟨_, rfl⟩
  have X0 : Whole v0 w.heap.size 34 [.int .i64 (r : Int), .int .i64 (c : Int), .slice (some ⟨b, o, none⟩) l.length cap] := by rw [hv0]; exact heap_alloc_new w _
  have hb : Below w.heap.size w v0 := by rw [hv0]; exact (Below.refl _ _).alloc (Nat.le_refl _) _
  have hK : Keys v0 B nB (opn (J l) vs []) := by rw [hv0]; exact hk0.alloc _
  have HV := Lib.hid hv0.symm
  clear hv0
  go_upto_region 2 with (fail)
  rewrite [HV.out]
  clear HV
  have hf1 : v0.cell? ⟨b0, 0, none⟩ = some (.int .i64 (i : Int)) := (hb.cell (p := ⟨b0, 0, none⟩) hb0).trans hf0
  go_loopw [17, 9] (fun j _ wr => (j = .int .i64 0 ∧ wr = v0) ∨ (j = .int .i64 1 ∧ Whole wr w.heap.size 34 [.int .i64 (r : Int), .int .i64 (c : Int), .slice (some ⟨b, o, none⟩) l.length cap] ∧ Keys wr B nB (opn (J l) vs [i]) ∧ w.grownBy wr (some B))) (fun j _ _ => 2 - (intOf j).toNat)
  case atStart => exact .inl ⟨rfl, rfl⟩
  case round =>
    rcases hrel with ⟨rfl, rfl⟩ | ⟨rfl, h0, hK1, hg1⟩
    · go_wp2_with (first | (at_delete; refine wpList_del_keys rfl _ _ rfl B nB _ rfl hK i rfl (by omega) ?_; intro w2 hK2 hg2) | fail)
      refine ⟨.inr ⟨rfl, X0.grown hg2 (fun e => hK.whole X0 (by cases e; rfl)), hK2.congr (fun j _ => ?_), (grown_below (World.grownBy.refl w _) hb (Nat.le_refl _)).trans hg2⟩, by simp [intOf]⟩
      rw [← List.nil_append [i], opn_snoc]
    · have hf2 : wr.cell? ⟨b0, 0, none⟩ = some (.int .i64 (i : Int)) := hk0.cells hg1 hf0
      clear X0 hK hb hf1
      go_wp2_with fail
      have hcl := Clone_ints b0 0 1 [(i : Int)] wr (by simp) (fun _ => ⟨b0, 0, rfl, Nat.lt_of_lt_of_le hb0 hg1.size, fun j u hu => by
        have hj := (List.getElem?_eq_some_iff.1 hu).1
        rw [ints_length, List.length_singleton] at hj
        obtain rfl : j = 0 := by omega
        simp [ints] at hu
        subst hu
        simpa using hf2⟩) (by simp) (w.heap.size + 1) h0.lt
      refine hcl.mono ?_; rintro e w1 ⟨A1, c1, rfl, hrow1, b1⟩
      clear hcl hf2
      have hS : SpS w [.int .i64 (r : Int), .int .i64 (c : Int), .slice (some ⟨b, o, none⟩) l.length cap] B nB (opn (J l) vs [i]) (.slice A1 [(i : Int)].length c1) [i] w1 := ⟨h0.below b1 h0.lt, hrow1, hK1.below b1, grown_below hg1 b1 hg1.size⟩
      clear h0 hK1 hg1 b1 hrow1
      generalize Value.slice A1 [(i : Int)].length c1 = v1 at *
      go_wp2_with fail
      go_loopw [10, 11, 12] (fun v bd k wr => ∃ k' : Nat, bd = .slice none 0 0 ∧ k = .int .i64 k' ∧ k' ≤ (brs (J l) (nearL c l.length) vs [i] k').length ∧ SpS w [.int .i64 (r : Int), .int .i64 (c : Int), .slice (some ⟨b, o, none⟩) l.length cap] B nB (opn (J l) vs (brs (J l) (nearL c l.length) vs [i] k')) v (brs (J l) (nearL c l.length) vs [i] k') wr) (fun _ _ k _ => l.length + 1 - (intOf k).toNat)
      case atStart => exact ⟨0, rfl, rfl, Nat.zero_le _, hS⟩
      case round =>
        clear hS
        obtain ⟨k, rfl, rfl, hkl, hS⟩ := hrel
        have hq := HQ.out k
        have hqn := few_len hq.1
        by_cases hlt : k < (brs (J l) (nearL c l.length) vs [i] k).length
        · have HS1 := Lib.hid (brs_at (J l) (nearL c l.length) vs [i] k hlt)
          have hxn := hq.2 _ (List.getElem_mem hlt)
          have HX := Lib.hid (hG.near _ hxn)
          generalize hQ : brs (J l) (nearL c l.length) vs [i] k = q at *
          obtain ⟨g, cap2, rest, rfl, hw⟩ := hS.shape (by omega)
          have hqk := row_num hw hlt
          have h0 := hS.1
          have hz0 := h0.lt
          have hzg := hw.lt
          generalize q[k] = x at *
          have h0k0 : wr.cell? ⟨w.heap.size, 0, none⟩ = some (.int .i64 (r : Int)) := (h0.cell 0).trans rfl; have h0k1 : wr.cell? ⟨w.heap.size, 1, none⟩ = some (.int .i64 (c : Int)) := (h0.cell 1).trans rfl; have h0k2 : wr.cell? ⟨w.heap.size, 2, none⟩ = some (.slice (some ⟨b, o, none⟩) l.length cap) := (h0.cell 2).trans rfl
          go_upto_region 11 with (fail)
          have KS := Lib.hid (fun (w' : World) (h : Below wr.heap.size wr w') => (⟨(h.cell (p := ⟨w.heap.size, 0, none⟩) hz0).trans h0k0, (h.cell (p := ⟨w.heap.size, 1, none⟩) hz0).trans h0k1, (h.cell (p := ⟨w.heap.size, 2, none⟩) hz0).trans h0k2, (h.cell (p := ⟨g, k, none⟩) hzg).trans hqk⟩ : w'.cell? ⟨w.heap.size, 0, none⟩ = some (.int .i64 (r : Int)) ∧ w'.cell? ⟨w.heap.size, 1, none⟩ = some (.int .i64 (c : Int)) ∧ w'.cell? ⟨w.heap.size, 2, none⟩ = some (.slice (some ⟨b, o, none⟩) l.length cap) ∧ w'.cell? ⟨g, k, none⟩ = some (.int .i64 (x : Int))))
          go_region_held3 (fun w' => w'.cell? ⟨w.heap.size, 0, none⟩ = some (.int .i64 (r : Int)) ∧ w'.cell? ⟨w.heap.size, 1, none⟩ = some (.int .i64 (c : Int)) ∧ w'.cell? ⟨w.heap.size, 2, none⟩ = some (.slice (some ⟨b, o, none⟩) l.length cap) ∧ w'.cell? ⟨g, k, none⟩ = some (.int .i64 (x : Int)))
            (exact KS.out _ (by (repeat' (first | (with_reducible exact Below.refl _ _) | (with_reducible assumption) | (with_reducible refine Below.alloc ?_ ?_ _) | (with_reducible refine Below.setCell ?_ ?_ _) | (with_reducible refine Below.drew ?_) | (with_reducible refine below_drewN ?_ _) | (with_reducible refine Below.trans ?_ (Below.mono (by assumption) ?_)) | go_size))))
            ((first | (go_at_call 98; (with_reducible refine (impl_indicesBeside r c x (some ⟨b, o, none⟩) l.length cap _ hG.r1 hG.r2 hG.c1 hG.c2 hG.cells hxn n90).mono ?_); rintro e w3 ⟨A3, c3, rfl, o3, n3, b3⟩) | fail))
          have bb : Below wr.heap.size wr w3 := by (repeat' (first | (with_reducible exact Below.refl _ _) | (with_reducible assumption) | (with_reducible refine Below.alloc ?_ ?_ _) | (with_reducible refine Below.setCell ?_ ?_ _) | (with_reducible refine Below.drew ?_) | (with_reducible refine below_drewN ?_ _) | (with_reducible refine Below.trans ?_ (Below.mono (by assumption) ?_)) | go_size))
          have n3' : New wr A3 := n3.mono (by (repeat' (first | (with_reducible exact Below.refl _ _) | (with_reducible assumption) | (with_reducible refine Below.alloc ?_ ?_ _) | (with_reducible refine Below.setCell ?_ ?_ _) | (with_reducible refine Below.drew ?_) | (with_reducible refine below_drewN ?_ _) | (with_reducible refine Below.trans ?_ (Below.mono (by assumption) ?_)) | go_size)) : Below wr.heap.size wr _).size
          rewrite [nI_length]
          have hS3 := hS.below bb
          have hN3 : NrS (w.heap.size + 1) (.slice (some ⟨g, 0, none⟩) q.length cap2) A3 (nearL c l.length x) w3 := ⟨o3, fun _ a ha => by
            have h1 := n3' a ha
            refine ⟨by omega, fun e => ?_⟩
            simp [Value.ownBlock] at e
            omega⟩
          have hne := near_len c l.length x
          clear KS b3 n3 n3' o3 bb hS h0 hz0 hzg hqk h0k0 h0k1 h0k2 hw rest
          generalize Value.slice (some (⟨g, 0, none⟩ : Addr)) q.length cap2 = v3 at *
          generalize hNL : nearL c l.length x = nl at *
          go_wp2_with fail
          go_loopw [10, 11, 39] (fun v bd j wr => ∃ m : Nat, bd = .slice none 0 0 ∧ j = .int .i64 m ∧ m ≤ nl.length ∧ SpS w [.int .i64 (r : Int), .int .i64 (c : Int), .slice (some ⟨b, o, none⟩) l.length cap] B nB (opn (J l) vs (brn (J l) vs q (nl.take m))) v (brn (J l) vs q (nl.take m)) wr ∧ NrS (w.heap.size + 1) v A3 nl wr) (fun _ _ j _ => nl.length - (intOf j).toNat)
          case atStart => exact ⟨0, rfl, rfl, Nat.zero_le _, hS3, hN3⟩
          case round =>
            clear hS3 hN3
            obtain ⟨m, rfl, rfl, hm, hS, hN⟩ := hrel
            have hfew := few_len (few_brn (nl.take m) q (fun y hy => HX.out y (List.mem_of_mem_take hy)) hq.1)
            by_cases hml : m < nl.length
            · have HB := Lib.hid (brn_take (J l) vs q nl m hml)
              have hyn := HX.out _ (List.getElem_mem hml)
              obtain ⟨g3, rest3, rfl, hw3⟩ := hN.shape (by omega)
              have hy := row_num hw3 hml
              generalize nl[m] = y at *
              generalize brn (J l) vs q (nl.take m) = qm at *
              rcases Bool.eq_false_or_eq_true (opn (J l) vs qm y) with hop | hop
              · go_wp2_with (first | (at_lookup; refine wpList_look_keys rfl _ _ rfl B nB _ rfl hS.2.2.1 y rfl (by omega) ?_; rewrite [hop]) | (at_delete; refine wpList_del_keys rfl _ _ rfl B nB _ rfl hS.2.2.1 y rfl (by omega) ?_; intro w4 hK4 hg4; have hS4 := hS.del hK4 hg4; have hN4 := hN.del hS.2.2.1 hg4; have h0 := hS4.1; (have h0k0 : w4.cell? ⟨w.heap.size, 0, none⟩ = some (.int .i64 (r : Int)) := (h0.cell 0).trans rfl; have h0k1 : w4.cell? ⟨w.heap.size, 1, none⟩ = some (.int .i64 (c : Int)) := (h0.cell 1).trans rfl; have h0k2 : w4.cell? ⟨w.heap.size, 2, none⟩ = some (.slice (some ⟨b, o, none⟩) l.length cap) := (h0.cell 2).trans rfl); have hc0 := hk0.cells hS4.2.2.2 (cell_two hc hyn).1; have hc1 := hk0.cells hS4.2.2.2 (cell_two hc hyn).2) | fail)
                have hjt : joins l[y].1 = true := (J_at hyn).symm.trans (opn_iff.1 hop).1
                have hbst : bst (J l) vs qm y = qm ++ [y] := by unfold bst; rw [hop]; rfl
                rewrite [hbst] at HB
                clear hbst
                refine (impl_isJoining _ _ _).mono ?_; rintro e w5 ⟨rfl, b5⟩
                rewrite [hjt]
                have hS5 := hS4.below b5
                have hN5 := hN4.below b5
                have hz5 : w.heap.size + 1 ≤ w5.heap.size := hS5.1.lt
                clear hS hN hS4 hN4 hK4 hg4 h0 h0k0 h0k1 h0k2 hc0 hc1 b5 hjt hw3 hy
                go_wp2_with (first | (at_builtin; refine wpList_push (x0 := (y : Int)) hS5.2.1 (by rw [nI_length]; omega) hz5 rfl _ _ rfl rfl rfl ?_; intro v6 w6 hrow6 hg6 hb6 hl6; have hS6 := hS5.push hrow6 rfl hg6 hb6; have hN6 := hN5.push hg6 hl6) | fail)
                clear hS5 hN5 hrow6 hg6 hb6 hl6
                go_roundw
                case rel => exact ⟨m + 1, rfl, by go_num, by omega, by rw [HB.out]; exact hS6.congr (fun j _ => by rw [opn_snoc]), hN6⟩
                case measure => simp [intOf]; omega
              · have hbst : bst (J l) vs qm y = qm := by unfold bst; rw [hop]; rfl
                rewrite [hbst] at HB
                go_wp2_with (first | (at_lookup; refine wpList_look_keys rfl _ _ rfl B nB _ rfl hS.2.2.1 y rfl (by omega) ?_; rewrite [hop]) | fail)
                go_roundw
                case rel => exact ⟨m + 1, rfl, by go_num, by omega, by rw [HB.out]; exact hS, hN⟩
                case measure => simp [intOf]; omega
            · obtain rfl : m = nl.length := by omega
              rw [List.take_length, ← HS1.out] at hS
              have hlen : k + 1 ≤ (brs (J l) (nearL c l.length) vs [i] (k + 1)).length := by
                rw [HS1.out]
                have := (brn_prefix (J := J l) (v := vs) nl q).length_le
                omega
              clear HS1 HX
              go_wp2
              go_roundw
              case rel => exact ⟨k + 1, rfl, by go_num, hlen, hS⟩
              case measure => simp [intOf]; omega
        · have hend := brs_end (J := J l) (near := nearL c l.length) (v := vs) (q := [i]) (k := k) (n := l.length) (by omega) (by omega)
          rw [hend] at hS hkl hlt
          clear hend
          obtain ⟨g, cap2, rest, rfl, hw⟩ := hS.shape (List.length_pos_of_mem (brs_le (x := i) (by simp) _))
          have hlt' : ¬ (k : Int) < ((brs (J l) (nearL c l.length) vs [i] l.length).length : Int) := by omega
          go_wp2
          go_returns
          exact ⟨_, rfl, hS.2.1, hS.2.2.1, hS.2.2.2⟩
end Go.Proofs.YtlambflmabecfaaGreat
namespace Go.Proofs.YtlambflmabecfaaGreat
open Go.ChangeShapes Go.WideShapes Go.ChangeAt Go.RowKit Go.Joins Go.Deep
set_option linter.unusedSimpArgs false
set_option linter.unusedVariables false
set_option maxRecDepth 100000
set_option maxHeartbeats 1000000
theorem IRow.form {w : World} {base : Nat} {v : Value} {l : List Int} (h : IRow w base v l) (hp : 0 < l.length) : ∃ g cap, v = .slice (some ⟨g, 0, none⟩) l.length cap ∧ base ≤ g := by
  rcases h.2 with ⟨_, h0⟩ | ⟨g, cap, cur, e, h1, _⟩
  · omega
  · exact ⟨g, cap, e, h1⟩
theorem IRow.mono {w : World} {base base' : Nat} {v : Value} {l : List Int} (h : IRow w base v l) (hb : base' ≤ base) : IRow w base' v l := by
  refine ⟨h.1, ?_⟩
  rcases h.2 with h2 | ⟨g, cap, cur, e, h1, h3⟩
  · exact .inl h2
  · exact .inr ⟨g, cap, cur, e, Nat.le_trans hb h1, h3⟩
theorem nI_toNat (q : List Nat) : (nI q).map Int.toNat = q := by
  unfold nI
  rw [List.map_map]
  exact (List.map_congr_left (fun x _ => by simp)).trans (List.map_id q)
theorem sorted_nI {n : Nat} {q : List Nat} (hd : q.Nodup) (hl : ∀ x ∈ q, x < n) : ((nI q).mergeSort fun x y => decide (x ≤ y)) = nI (sortN n q) := by
  have hp := List.mergeSort_perm (nI q) (fun x y => decide (x ≤ y))
  have hs := List.pairwise_mergeSort (le := fun x y : Int => decide (x ≤ y)) (fun a b c h1 h2 => by simp at *; omega) (fun a b => by simp; omega) (nI q)
  generalize hr : ((nI q).mergeSort fun x y => decide (x ≤ y)) = r at *
  have h0 : ∀ x ∈ r, 0 ≤ x := by
    intro x hx
    have := hp.mem_iff.1 hx
    unfold nI at this
    obtain ⟨k, _, rfl⟩ := List.mem_map.1 this
    omega
  have e : r.map Int.toNat = sortN n q := by
    refine sortN_of_perm ((hp.map _).trans (by rw [nI_toNat])) ?_ hd hl
    rw [List.pairwise_map]
    exact hs.imp (fun h => by simp at h; omega)
  rw [← e]
  unfold nI
  rw [List.map_map]
  exact ((List.map_congr_left (fun x hx => by have := h0 x hx; simp; omega)).trans (List.map_id r)).symm
theorem sort_row {w : World} {base g cap n : Nat} {q : List Nat} (hrow : IRow w base (.slice (some ⟨g, 0, none⟩) q.length cap) (nI q)) (hd : q.Nodup) (hl : ∀ x ∈ q, x < n) (hp : 0 < q.length) (hq : q.length ≤ 1048576) :
    Calls Tryz.prog 96 #[.slice (some ⟨g, 0, none⟩) q.length cap] w fun e w' => e = .returned (.tuple #[]) ∧ IRow w' base (.slice (some ⟨g, 0, none⟩) q.length cap) (nI (sortN n q)) ∧ w.grownBy w' (some g) := by
  rcases hrow.2 with ⟨h0, _⟩ | ⟨g', cap', cur, e, hbase, hb, h1, h2, h3, h4⟩
  · cases h0
  rw [nI_length] at e
  cases e
  rw [nI_length] at h1
  have hH : Sort.Holds (Value.int .i64) w g 0 (nI q).toArray := holds_of_blockI hb (by rw [nI_length]; rw [nI_length, Nat.mul_one] at h4; exact h4)
  have hc := Tryz.slices_Sort_int g 0 cap (nI q) w hH (Array.getElem?_eq_some_iff.1 hb).1 (by rw [nI_length]; omega)
  rw [sorted_nI hd hl, nI_length] at hc
  refine hc.mono ?_
  rintro e w' ⟨rfl, nn, os, rfl⟩
  have hlen : (nI (sortN n q)).length = (nI q).length := by
    rw [← sorted_nI hd hl, List.length_mergeSort]
  refine ⟨rfl, ?_, grownBy_sortedI _⟩
  have h := ownsRow_sortedI (n := nn) (os := os) hlen hbase hb (by rw [nI_length]; exact h1) h2 h3
  unfold IRow
  rw [hlen]
  rw [nI_length] at h ⊢
  exact h
end Go.Proofs.YtlambflmabecfaaGreat
namespace Go.Proofs.YtlambflmabecfaaGreat
open Go.ChangeShapes Go.WideShapes Go.ChangeAt Go.RowKit Go.Joins Go.Deep
set_option linter.unusedSimpArgs false
set_option linter.unusedVariables false
set_option maxRecDepth 100000
set_option maxHeartbeats 2000000
theorem impl_takeGroup (r c : Nat) (A : Option Addr) (cap : Nat) (l : List (Int × Int)) (B nB i : Nat) (vs : List Nat) (w : World) (hG : Geo r c l.length) (hr : Rd w w.heap.size A (flat l)) (hi : i < l.length)
    (hk0 : Keys w B nB (opn (J l) vs [])) (ho : opn (J l) vs [] i = true) :
    Calls Tryz.prog 92 #[.agg #[.int .i64 (r : Int), .int .i64 (c : Int), .slice A l.length cap], .map (some B), .int .i64 (i : Int)] w
      fun e w' => ∃ v, e = .returned v ∧ IRow w' (w.heap.size + 1) v (nI (sortN l.length (brs (J l) (nearL c l.length) vs [i] l.length))) ∧ Keys w' B nB (opn (J l) vs (brs (J l) (nearL c l.length) vs [i] l.length)) ∧ w.grownBy w' (some B) := by
  have hfew := brs_few (J := J l) (near := nearL c l.length) (v := vs) (q := [i]) (n := l.length) hG.near (by simpa using hi) (few_one hi ho) l.length
  have hnd := brs_nodup (J := J l) (near := nearL c l.length) (v := vs) (q := [i]) (by simp) l.length
  have hpos : 0 < (brs (J l) (nearL c l.length) vs [i] l.length).length := List.length_pos_of_mem (brs_le (x := i) (by simp) _)
  have HQ := Lib.hid hfew
  have HD := Lib.hid hnd
  have n90 := hG.n90
  have hqn := few_len hfew.1
  clear hfew hnd
  go_enter Tryz.func92, Tryz.ntmps92
  obtain ⟨v0, hv0, X0, X1, B0, hz0⟩ := two_boxes w [.int .i64 (r : Int), .int .i64 (c : Int), .slice A l.length cap] 34 [.int .i64 (i : Int)] 3; have HV := Lib.hid hv0; have hz : w.heap.size + 1 < v0.heap.size := (by omega); have hy : w.heap.size < v0.heap.size := (by omega); have hb0 := B0.size; clear hv0 hz0; go_wp2_with fail; rewrite [show (w.alloc (.cells ([.int .i64 (r : Int), .int .i64 (c : Int), .slice A l.length cap] : List Value).toArray 34)).alloc (.cells ([.int .i64 (i : Int)] : List Value).toArray 3) = v0 from HV.out]; clear HV
  refine (impl_spread r c A cap l B nB (w.heap.size + 1) i vs v0 hG ((hr.below B0).mono B0.size) hi (hk0.below B0) ho (X1.rd hz)).mono ?_
  rintro e w1 ⟨v, rfl, hrow, hK, hg⟩
  obtain ⟨g, cap2, rfl, hgb⟩ := hrow.form (by rw [nI_length]; exact hpos)
  rw [nI_length] at hrow
  rewrite [nI_length]
  have hg0 : w.grownBy w1 (some B) := (grown_below (World.grownBy.refl w _) B0 (Nat.le_refl _)).trans hg
  have hrow' := hrow.mono (base' := w.heap.size + 1) (by omega)
  clear hrow X0 X1 B0
  generalize hq : brs (J l) (nearL c l.length) vs [i] l.length = q at *
  go_wp2_with (first | (go_at_call 96; refine (sort_row (n := l.length) hrow' HD.out HQ.out.2 hpos (by omega)).mono ?_; rintro e w2 ⟨rfl, hrow2, hg2⟩) | fail)
  go_returns
  subst hq
  refine ⟨.slice (some ⟨g, 0, none⟩) _ cap2, rfl, hrow2, hK.kept hg2 (hK.row hrow'), ?_⟩
  refine ⟨hg2.os ▸ hg0.os, hg2.tape.trans hg0.tape, hg2.output.trans hg0.output, Nat.le_trans hg0.size hg2.size, fun j hj hne => ?_⟩
  rw [hg2.block j (Nat.lt_of_lt_of_le hj hg0.size) (by intro e; cases e; omega)]
  exact hg0.block j hj hne
theorem grown_new {w w' : World} {B0 B : Nat} (hg : w.grownBy w' (some B)) (h0 : B0 ≤ w.heap.size) (hB : B0 ≤ B) : Below B0 w w' := (Below.refl B0 w).grown hg h0 (fun k hk => by cases hk; exact hB)
theorem J_opn (l : List (Int × Int)) (i : Nat) : J l i = opn (J l) [] [] i := by simp [opn]
theorem impl_groupWith (r c : Nat) (A : Option Addr) (cap : Nat) (l : List (Int × Int)) (i : Nat) (w : World) (hG : Geo r c l.length) (hr : Rd w w.heap.size A (flat l)) (hi : i < l.length) (hJ : J l i = true) :
    Calls Tryz.prog 91 #[.agg #[.int .i64 (r : Int), .int .i64 (c : Int), .slice A l.length cap], .int .i64 (i : Int)] w (PostI w (nI (sortN l.length (brs (J l) (nearL c l.length) [] [i] l.length)))) := by
  have n90 := hG.n90
  have HO := Lib.hid (show opn (J l) [] [] i = true by rw [← J_opn]; exact hJ)
  clear hJ
  go_enter Tryz.func91, Tryz.ntmps91
  obtain ⟨v0, hv0⟩ : ∃ v, v = w.alloc (.cells #[.int .i64 (r : Int), .int .i64 (c : Int), .slice A l.length cap] 34) := ⟨_, rfl⟩
  have X0 : Whole v0 w.heap.size 34 [.int .i64 (r : Int), .int .i64 (c : Int), .slice A l.length cap] := by rw [hv0]; exact heap_alloc_new w _
  have hb : Below w.heap.size w v0 := by rw [hv0]; exact (Below.refl _ _).alloc (Nat.le_refl _) _
  have HV := Lib.hid hv0.symm
  clear hv0
  go_upto_region 1 with (fail)
  rewrite [HV.out]
  clear HV
  have hz0 := X0.lt
  have X0k0 : v0.cell? ⟨w.heap.size, 0, none⟩ = some (.int .i64 (r : Int)) := (X0.cell 0).trans rfl; have X0k1 : v0.cell? ⟨w.heap.size, 1, none⟩ = some (.int .i64 (c : Int)) := (X0.cell 1).trans rfl; have X0k2 : v0.cell? ⟨w.heap.size, 2, none⟩ = some (.slice A l.length cap) := (X0.cell 2).trans rfl
  have hr0 := (hr.below hb).mono hb.size
  have KS := Lib.hid (fun (w' : World) (h : Below v0.heap.size v0 w') => (⟨(h.cell (p := ⟨w.heap.size, 0, none⟩) hz0).trans X0k0, (h.cell (p := ⟨w.heap.size, 1, none⟩) hz0).trans X0k1, (h.cell (p := ⟨w.heap.size, 2, none⟩) hz0).trans X0k2⟩ : w'.cell? ⟨w.heap.size, 0, none⟩ = some (.int .i64 (r : Int)) ∧ w'.cell? ⟨w.heap.size, 1, none⟩ = some (.int .i64 (c : Int)) ∧ w'.cell? ⟨w.heap.size, 2, none⟩ = some (.slice A l.length cap)))
  go_region_held3 (fun w' => w'.cell? ⟨w.heap.size, 0, none⟩ = some (.int .i64 (r : Int)) ∧ w'.cell? ⟨w.heap.size, 1, none⟩ = some (.int .i64 (c : Int)) ∧ w'.cell? ⟨w.heap.size, 2, none⟩ = some (.slice A l.length cap))
    (exact KS.out _ (by (repeat' (first | (with_reducible exact Below.refl _ _) | (with_reducible assumption) | (with_reducible refine Below.alloc ?_ ?_ _) | (with_reducible refine Below.setCell ?_ ?_ _) | (with_reducible refine Below.drew ?_) | (with_reducible refine below_drewN ?_ _) | (with_reducible refine Below.trans ?_ (Below.mono (by assumption) ?_)) | go_size))))
    ((first
      | (go_at_call 93; (with_reducible refine (impl_openCells (r : Int) (c : Int) A cap l _ (by omega) ?_).mono ?_); (focus exact (hr0.below (by (repeat' (first | (with_reducible exact Below.refl _ _) | (with_reducible assumption) | (with_reducible refine Below.alloc ?_ ?_ _) | (with_reducible refine Below.setCell ?_ ?_ _) | (with_reducible refine Below.drew ?_) | (with_reducible refine below_drewN ?_ _) | (with_reducible refine Below.trans ?_ (Below.mono (by assumption) ?_)) | go_size)))).mono (by (repeat' (first | (with_reducible exact Below.refl _ _) | (with_reducible assumption) | (with_reducible refine Below.alloc ?_ ?_ _) | (with_reducible refine Below.setCell ?_ ?_ _) | (with_reducible refine Below.drew ?_) | (with_reducible refine below_drewN ?_ _) | (with_reducible refine Below.trans ?_ (Below.mono (by assumption) ?_)) | go_size)) : Below v0.heap.size v0 _).size); rintro e w3 ⟨B, rfl, hB3, hK3, b3⟩; have bb3 : Below v0.heap.size v0 w3 := (by (repeat' (first | (with_reducible exact Below.refl _ _) | (with_reducible assumption) | (with_reducible refine Below.alloc ?_ ?_ _) | (with_reducible refine Below.setCell ?_ ?_ _) | (with_reducible refine Below.drew ?_) | (with_reducible refine below_drewN ?_ _) | (with_reducible refine Below.trans ?_ (Below.mono (by assumption) ?_)) | go_size))); have hB0 : v0.heap.size ≤ B := Nat.le_trans (by (repeat' (first | (with_reducible exact Below.refl _ _) | (with_reducible assumption) | (with_reducible refine Below.alloc ?_ ?_ _) | (with_reducible refine Below.setCell ?_ ?_ _) | (with_reducible refine Below.drew ?_) | (with_reducible refine below_drewN ?_ _) | (with_reducible refine Below.trans ?_ (Below.mono (by assumption) ?_)) | go_size)) : Below v0.heap.size v0 _).size hB3)
      | (go_at_call 92; (with_reducible refine (impl_takeGroup r c A cap l B l.length i [] _ hG ?_ hi ?_ HO.out).mono ?_); (focus exact (hr0.below (by (repeat' (first | (with_reducible exact Below.refl _ _) | (with_reducible assumption) | (with_reducible refine Below.alloc ?_ ?_ _) | (with_reducible refine Below.setCell ?_ ?_ _) | (with_reducible refine Below.drew ?_) | (with_reducible refine below_drewN ?_ _) | (with_reducible refine Below.trans ?_ (Below.mono (by assumption) ?_)) | go_size)))).mono (by (repeat' (first | (with_reducible exact Below.refl _ _) | (with_reducible assumption) | (with_reducible refine Below.alloc ?_ ?_ _) | (with_reducible refine Below.setCell ?_ ?_ _) | (with_reducible refine Below.drew ?_) | (with_reducible refine below_drewN ?_ _) | (with_reducible refine Below.trans ?_ (Below.mono (by assumption) ?_)) | go_size)) : Below v0.heap.size v0 _).size); (focus exact (hK3.below (by (repeat' (first | (with_reducible exact Below.refl _ _) | (with_reducible assumption) | (with_reducible refine Below.alloc ?_ ?_ _) | (with_reducible refine Below.setCell ?_ ?_ _) | (with_reducible refine Below.drew ?_) | (with_reducible refine below_drewN ?_ _) | (with_reducible refine Below.trans ?_ (Below.mono (by assumption) ?_)) | go_size)))).congr (fun j _ => J_opn l j)); rintro e w4 ⟨v4, rfl, hrow4, hK4, hg4⟩; have hd4 := (fun {W : World} (_ : W.grownBy w4 (some B)) (b : Below v0.heap.size v0 W) => b) hg4 (by (repeat' (first | (with_reducible exact Below.refl _ _) | (with_reducible assumption) | (with_reducible refine Below.alloc ?_ ?_ _) | (with_reducible refine Below.setCell ?_ ?_ _) | (with_reducible refine Below.drew ?_) | (with_reducible refine below_drewN ?_ _) | (with_reducible refine Below.trans ?_ (Below.mono (by assumption) ?_)) | go_size))); have bb4 : Below v0.heap.size v0 w4 := hd4.trans (grown_new hg4 hd4.size hB0); have hrow4' := hrow4.mono (base' := w.heap.size) (by have := hd4.size; have := hb.size; omega); clear hd4 hg4 hrow4)
      | fail))
  go_wp2
  go_returns
  exact PostI.of_irow hrow4' (Nat.le_refl _) (hb.trans (bb4.mono hb.size))
end Go.Proofs.YtlambflmabecfaaGreat
