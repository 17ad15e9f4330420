/- Neighbours of a cell; groups are closed, apart, and those of each of their cells. -/
import Derived.Test.YtdpgbgniejlilaaGraph
namespace Go.Proofs.Ytdpgbgniejlilaa
open Go.ChangeShapes Go.WideShapes Go.ChangeAt Go.RowKit Go.Joins Go.Deep
set_option linter.unusedSimpArgs false
set_option linter.unusedVariables false
set_option maxRecDepth 100000
set_option maxHeartbeats 400000
def nearL (c n i : Nat) : List Nat :=
  (if c ≤ i then [i - c] else []) ++ (if 0 < i % c then [i - 1] else []) ++ (if i % c + 1 < c then [i + 1] else []) ++ (if i + c < n then [i + c] else [])
theorem mem_one {P : Prop} [Decidable P] {a y : Nat} : (y ∈ if P then [a] else []) ↔ P ∧ y = a := by
  by_cases h : P <;> simp [h]
theorem mem_near {c n i y : Nat} : y ∈ nearL c n i ↔ (c ≤ i ∧ y = i - c) ∨ (0 < i % c ∧ y = i - 1) ∨ (i % c + 1 < c ∧ y = i + 1) ∨ (i + c < n ∧ y = i + c) := by
  unfold nearL
  rw [List.mem_append, List.mem_append, List.mem_append, mem_one, mem_one, mem_one, mem_one, or_assoc, or_assoc]
theorem mod_down {c i : Nat} (h : 0 < i % c) : (i - 1) % c = i % c - 1 := by
  have e := Nat.div_add_mod i c
  rcases Nat.eq_zero_or_pos c with h0 | hc
  · subst h0
    rw [Nat.mod_zero, Nat.mod_zero]
  have hl := Nat.mod_lt i hc
  have e2 : i - 1 = c * (i / c) + (i % c - 1) := by omega
  rw [e2, Nat.mul_add_mod, Nat.mod_eq_of_lt (by omega)]
theorem mod_up {c i : Nat} (h : i % c + 1 < c) : (i + 1) % c = i % c + 1 := by
  have e := Nat.div_add_mod i c
  have e2 : i + 1 = c * (i / c) + (i % c + 1) := by omega
  rw [e2, Nat.mul_add_mod, Nat.mod_eq_of_lt h]
theorem row_end {c r i : Nat} (h : i % c + 1 < c) (hi : i < r * c) : i + 1 < r * c := by
  have e := Nat.div_add_mod i c
  have hc : 0 < c := by omega
  have h1 : i / c < r := (Nat.div_lt_iff_lt_mul hc).2 hi
  have h2 : c * (i / c + 1) ≤ c * r := Nat.mul_le_mul_left c h1
  rw [Nat.mul_succ, Nat.mul_comm c r] at h2
  omega
theorem near_lt {c r i y : Nat} (hi : i < r * c) (h : y ∈ nearL c (r * c) i) : y < r * c := by
  rcases mem_near.1 h with ⟨_, rfl⟩ | ⟨_, rfl⟩ | ⟨h1, rfl⟩ | ⟨h1, rfl⟩
  · omega
  · omega
  · exact row_end h1 hi
  · exact h1
theorem near_sym {c r i y : Nat} (hi : i < r * c) (h : y ∈ nearL c (r * c) i) : i ∈ nearL c (r * c) y := by
  refine mem_near.2 ?_
  rcases mem_near.1 h with ⟨h1, rfl⟩ | ⟨h1, rfl⟩ | ⟨h1, rfl⟩ | ⟨h1, rfl⟩
  · exact .inr (.inr (.inr ⟨by omega, by omega⟩))
  · refine .inr (.inr (.inl ⟨?_, ?_⟩))
    · rw [mod_down h1]
      have hc : 0 < c := by
        rcases Nat.eq_zero_or_pos c with h0 | h0
        · subst h0; simp at hi
        · exact h0
      have := Nat.mod_lt i hc
      omega
    · have := Nat.mod_le i c
      omega
  · refine .inr (.inl ⟨?_, by omega⟩)
    rw [mod_up h1]
    omega
  · exact .inl ⟨by omega, by omega⟩
theorem near_len (c n i : Nat) : (nearL c n i).length ≤ 4 := by
  unfold nearL
  repeat' split
  all_goals simp
/-! ### groups are closed, apart, and those of each of their cells -/
section
variable {J : Nat → Bool} {near : Nat → List Nat} {n : Nat}
structure Groups (J : Nat → Bool) (near : Nat → List Nat) (n k : Nat) (G : List (List Nat)) : Prop where
  cells : ∀ g ∈ G, ∀ x ∈ g, x < n ∧ J x = true
  closed : ∀ g ∈ G, ∀ x ∈ g, ∀ y ∈ near x, J y = true → y ∈ g
  nodup : ∀ g ∈ G, g.Nodup
  each : ∀ g ∈ G, ∀ x ∈ g, ∀ y, y ∈ brs J near [] [x] n ↔ y ∈ g
  some_ : ∀ g ∈ G, g ≠ []
  few : ∀ g ∈ G, g.length ≤ n
  apart : G.flatten.Nodup
  all : ∀ i, i < k → J i = true → i ∈ G.flatten
theorem flatten_snoc (G : List (List Nat)) (q : List Nat) : (G ++ [q]).flatten = G.flatten ++ q := by simp
theorem groups_step (hn : ∀ x, x < n → ∀ y ∈ near x, y < n) (hs : ∀ x, x < n → ∀ y ∈ near x, x ∈ near y) {k : Nat} {G : List (List Nat)} (h : Groups J near n k G) (hk : k < n) : Groups J near n (k + 1) (gst J near n G k) := by
  unfold gst
  by_cases ho : opn J G.flatten [] k = true
  · rw [if_pos ho]
    obtain ⟨hJ, hv, _⟩ := opn_iff.1 ho
    have hf := brs_few (J := J) (near := near) (v := G.flatten) (q := [k]) (n := n) hn (by simpa using hk) (few_one hk ho) n
    have hj := brs_joins (J := J) (near := near) (v := G.flatten) (q := [k]) (fun x hx => by rw [List.mem_singleton] at hx; subst hx; exact ⟨hJ, hv⟩) n
    have hd := brs_nodup (J := J) (near := near) (v := G.flatten) (q := [k]) (by simp) n
    have hc : ∀ x ∈ grp J near n G k, ∀ y ∈ near x, J y = true → y ∈ grp J near n G k := by
      intro x hx y hy hJy
      refine brs_closed (few_len hf.1) x hx y hy hJy ?_
      intro hyv
      obtain ⟨g, hg, hyg⟩ := List.mem_flatten.1 hyv
      have := h.closed g hg y hyg x (hs x (hf.2 x hx) y hy) (hj x hx).1
      exact (hj x hx).2 (List.mem_flatten.2 ⟨g, hg, this⟩)
    have hk0 : k ∈ grp J near n G k := brs_le (by simp) n
    have hsub : ∀ x ∈ grp J near n G k, ∀ y, y ∈ brs J near [] [x] n → y ∈ grp J near n G k := by
      intro x hx
      exact brs_inside (S := fun y => y ∈ grp J near n G k) (fun a ha y hy hJy _ => hc a ha y hy hJy) (by simpa using hx) n
    have heach : ∀ x ∈ grp J near n G k, ∀ y, y ∈ brs J near [] [x] n ↔ y ∈ grp J near n G k := by
      intro x hx y
      refine ⟨hsub x hx y, ?_⟩
      have hxo : opn J [] [] x = true := opn_iff.2 ⟨(hj x hx).1, by simp, by simp⟩
      have hf1 := brs_few (J := J) (near := near) (v := []) (q := [x]) (n := n) hn (by simpa using hf.2 x hx) (few_one (hf.2 x hx) hxo) n
      have hj1 := brs_joins (J := J) (near := near) (v := []) (q := [x]) (fun y hy => by rw [List.mem_singleton] at hy; rw [hy]; exact ⟨(hj x hx).1, List.not_mem_nil⟩) n
      have hc1 : ∀ a ∈ brs J near [] [x] n, ∀ y ∈ near a, J y = true → y ∈ brs J near [] [x] n := fun a ha y hy hJy => brs_closed (few_len hf1.1) a ha y hy hJy (by simp)
      have hx1 : x ∈ brs J near [] [x] n := brs_le (by simp) n
      have hk1 : k ∈ brs J near [] [x] n := by
        refine Classical.byContradiction fun hno => ?_
        have hin := brs_inside (J := J) (near := near) (v := G.flatten) (q := [k]) (S := fun z => z ∉ brs J near [] [x] n ∧ J z = true ∧ z < n)
          (fun z hz y hy hJy _ => ⟨fun hy1 => hz.1 (hc1 y hy1 z (hs z hz.2.2 y hy) hz.2.1), hJy, hn z hz.2.2 y hy⟩) (by simpa using ⟨hno, hJ, hk⟩) n
        exact (hin x hx).1 hx1
      exact brs_inside (J := J) (near := near) (v := G.flatten) (q := [k]) (S := fun z => z ∈ brs J near [] [x] n) (fun z hz y hy hJy _ => hc1 z hz y hy hJy) (by simpa using hk1) n y
    refine ⟨?_, ?_, ?_, ?_, ?_, ?_, ?_, ?_⟩
    · intro g hg x hx
      rcases List.mem_append.1 hg with hg | hg
      · exact h.cells g hg x hx
      · rw [List.mem_singleton] at hg; subst hg; exact ⟨hf.2 x hx, (hj x hx).1⟩
    · intro g hg
      rcases List.mem_append.1 hg with hg | hg
      · exact h.closed g hg
      · rw [List.mem_singleton] at hg; subst hg; exact hc
    · intro g hg
      rcases List.mem_append.1 hg with hg | hg
      · exact h.nodup g hg
      · rw [List.mem_singleton] at hg; subst hg; exact hd
    · intro g hg
      rcases List.mem_append.1 hg with hg | hg
      · exact h.each g hg
      · rw [List.mem_singleton] at hg; subst hg; exact heach
    · intro g hg
      rcases List.mem_append.1 hg with hg | hg
      · exact h.some_ g hg
      · rw [List.mem_singleton] at hg; subst hg; exact fun e => by rw [e] at hk0; exact absurd hk0 (List.not_mem_nil)
    · intro g hg
      rcases List.mem_append.1 hg with hg | hg
      · exact h.few g hg
      · rw [List.mem_singleton] at hg; subst hg; exact few_len hf.1
    · rw [flatten_snoc, List.nodup_append]
      refine ⟨h.apart, hd, ?_⟩
      intro a ha b hb e
      subst e
      exact (hj a hb).2 ha
    · intro i hi hJi
      rw [flatten_snoc, List.mem_append]
      rcases Nat.lt_or_ge i k with h1 | h1
      · exact .inl (h.all i h1 hJi)
      · obtain rfl : i = k := by omega
        exact .inr hk0
  · rw [if_neg ho]
    refine ⟨h.cells, h.closed, h.nodup, h.each, h.some_, h.few, h.apart, ?_⟩
    intro i hi hJi
    rcases Nat.lt_or_ge i k with h1 | h1
    · exact h.all i h1 hJi
    · obtain rfl : i = k := by omega
      refine Classical.byContradiction fun hno => ho (opn_iff.2 ⟨hJi, hno, by simp⟩)
theorem groups_at (hn : ∀ x, x < n → ∀ y ∈ near x, y < n) (hs : ∀ x, x < n → ∀ y ∈ near x, x ∈ near y) : ∀ k, k ≤ n → Groups J near n k (gat J near n k)
  | 0, _ => ⟨fun g hg => absurd hg List.not_mem_nil, fun g hg => absurd hg List.not_mem_nil, fun g hg => absurd hg List.not_mem_nil, fun g hg => absurd hg List.not_mem_nil, fun g hg => absurd hg List.not_mem_nil, fun g hg => absurd hg List.not_mem_nil, List.nodup_nil, fun i hi => absurd hi (Nat.not_lt_zero i)⟩
  | k + 1, hk => groups_step hn hs (groups_at hn hs k (by omega)) (by omega)
end
theorem num_is {j : Nat} {g : List Nat} : ∀ (G : List (List Nat)) (c k : Nat), G.flatten.Nodup → G[k]? = some g → (num G c j = ((c + k : Nat) : Int) ↔ j ∈ g)
  | [], c, k, _, h => by simp at h
  | a :: G, c, 0, hd, h => by
    rw [List.getElem?_cons_zero] at h
    cases h
    unfold num
    by_cases hj : j ∈ g
    · simp [hj]
    · simp only [List.contains_iff_mem, hj, if_false, iff_false]
      intro e
      rcases num_from (j := j) G (c + 1) with h1 | h1 <;> omega
  | a :: G, c, k + 1, hd, h => by
    rw [List.getElem?_cons_succ] at h
    rw [List.flatten_cons, List.nodup_append] at hd
    unfold num
    have ih := num_is (j := j) G (c + 1) k hd.2.1 h
    by_cases hj : j ∈ a
    · simp only [List.contains_iff_mem, hj, if_true]
      constructor
      · intro e; omega
      · intro hg
        exact absurd rfl (hd.2.2 j hj j (List.mem_flatten.2 ⟨g, List.mem_of_getElem? h, hg⟩))
    · simp only [List.contains_iff_mem, hj, if_false]
      rw [← ih]
      constructor <;> intro e <;> omega
/-- The numbers below n in a list, in order. -/
def sortN (n : Nat) (q : List Nat) : List Nat := (List.range n).filter fun j => q.contains j
theorem sortN_congr {n : Nat} {p q : List Nat} (h : ∀ y, y ∈ p ↔ y ∈ q) : sortN n p = sortN n q := by
  unfold sortN
  refine List.filter_congr fun x _ => ?_
  rw [Bool.eq_iff_iff, List.contains_iff_mem, List.contains_iff_mem]
  exact h x
theorem mem_sortN {n x : Nat} {q : List Nat} : x ∈ sortN n q ↔ x < n ∧ x ∈ q := by
  unfold sortN
  rw [List.mem_filter, List.mem_range, List.contains_iff_mem]
theorem sortN_sorted (n : Nat) (q : List Nat) : (sortN n q).Pairwise (· < ·) := List.pairwise_lt_range.filter _
/-- Two rising lists of the same numbers are one. -/
theorem rising_eq : ∀ {a b : List Nat}, a.Pairwise (· < ·) → b.Pairwise (· < ·) → (∀ x, x ∈ a ↔ x ∈ b) → a = b
  | [], [], _, _, _ => rfl
  | [], y :: b, _, _, h => absurd ((h y).2 (List.mem_cons_self ..)) (List.not_mem_nil)
  | x :: a, [], _, _, h => absurd ((h x).1 (List.mem_cons_self ..)) (List.not_mem_nil)
  | x :: a, y :: b, ha, hb, h => by
    rw [List.pairwise_cons] at ha hb
    have e : x = y := by
      rcases List.mem_cons.1 ((h x).1 (List.mem_cons_self ..)) with e | e
      · exact e
      · rcases List.mem_cons.1 ((h y).2 (List.mem_cons_self ..)) with e' | e'
        · exact e'.symm
        · have := hb.1 x e
          have := ha.1 y e'
          omega
    subst e
    rw [rising_eq ha.2 hb.2 (fun z => ?_)]
    constructor
    · intro hz
      rcases List.mem_cons.1 ((h z).1 (List.mem_cons_of_mem _ hz)) with e | e
      · have := ha.1 z hz; omega
      · exact e
    · intro hz
      rcases List.mem_cons.1 ((h z).2 (List.mem_cons_of_mem _ hz)) with e | e
      · have := hb.1 z hz; omega
      · exact e
theorem sortN_of_perm {n : Nat} {q r : List Nat} (hp : r.Perm q) (hr : r.Pairwise (· ≤ ·)) (hd : q.Nodup) (hl : ∀ x ∈ q, x < n) : r = sortN n q := by
  have hd' : r.Nodup := hp.nodup_iff.2 hd
  refine rising_eq ?_ (sortN_sorted n q) (fun x => ?_)
  · refine (hr.and hd').imp ?_
    intro a b h
    omega
  · rw [mem_sortN, hp.mem_iff]
    exact ⟨fun h => ⟨hl x h, h⟩, fun h => h.2⟩
theorem sortN_length {n : Nat} (q : List Nat) : (sortN n q).length ≤ n := by
  have := List.length_filter_le (fun j => q.contains j) (List.range n)
  rw [List.length_range] at this
  exact this
end Go.Proofs.Ytdpgbgniejlilaa
