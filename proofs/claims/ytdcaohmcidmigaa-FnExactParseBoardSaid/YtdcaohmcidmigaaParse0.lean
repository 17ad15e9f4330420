/- Texts of boards: rows of letters, each ended by a newline; what a text must be. -/
import Derived.Lib.Bytealg
import Derived.Test.YtdcaohmcidmigaaRowOf
import Derived.Test.YtdcaohmcidmigaaBText
import Derived.Test.YtdcaohmcidmigaaReadCells2
namespace Go.Proofs.Ytdcaohmcidmigaa
open Go.ChangeShapes Go.WideShapes Go.ChangeAt Go.RowKit Go.Joins Go.Deep
set_option linter.unusedSimpArgs false
set_option linter.unusedVariables false
set_option maxRecDepth 100000
set_option maxHeartbeats 1000000
def glue (rows : List (List UInt8)) : List UInt8 := rows.flatMap (· ++ [10])
structure GoodRows (c : Nat) (rows : List (List UInt8)) : Prop where
  r1 : 1 ≤ rows.length
  r2 : rows.length ≤ 10
  c1 : 1 ≤ c
  c2 : c ≤ 9
  row : ∀ r ∈ rows, r.length = c ∧ r.all okB = true
theorem okB_ten : okB 10 = false := by decide +kernel
theorem okB_ne {b : UInt8} (h : okB b = true) : b ≠ 10 := fun e => by rw [e, okB_ten] at h; cases h
theorem okB_cell {b : UInt8} (h : okB b = true) : good (cellB b).1 (cellB b).2 = true ∧ letB (cellB b).1 (cellB b).2 = b := by
  unfold okB at h
  unfold cellB
  obtain ⟨c, hc⟩ := Option.isSome_iff_exists.1 h
  rw [hc]
  have h1 := List.mem_of_find?_eq_some hc
  have h2 := List.find?_some hc
  simp only [isR, beq_iff_eq] at h2
  exact ⟨allTo_good c h1, UInt8.toNat_inj.1 (by show (letB c.1 c.2).toNat = _; omega)⟩
theorem glue_cons (r : List UInt8) (rows : List (List UInt8)) : glue (r :: rows) = r ++ 10 :: glue rows := by unfold glue; simp
theorem count_row {r : List UInt8} (h : r.all okB = true) : r.count 10 = 0 := by
  rw [List.count_eq_zero]
  intro hm
  exact okB_ne (List.all_eq_true.1 h _ hm) rfl
theorem glue_count : ∀ {rows : List (List UInt8)}, (∀ r ∈ rows, r.all okB = true) → (glue rows).count 10 = rows.length
  | [], _ => rfl
  | r :: rows, h => by
    rw [glue_cons, List.count_append, count_row (h r List.mem_cons_self), List.count_cons_self, glue_count (fun x hx => h x (List.mem_cons_of_mem _ hx)), List.length_cons]
    omega
theorem index_row : ∀ {r : List UInt8} (rest : List UInt8), r.all okB = true → Lib.indexByte (r ++ 10 :: rest) 10 = r.length
  | [], rest, _ => by simp [Lib.indexByte]
  | b :: r, rest, h => by
    rw [List.all_cons, Bool.and_eq_true] at h
    have ih := index_row (r := r) rest h.2
    have hb : (b == (10 : UInt8)) = false := by have := okB_ne h.1; simpa using this
    show (if b == 10 then (0 : Int) else if Lib.indexByte (r ++ 10 :: rest) 10 == -1 then -1 else Lib.indexByte (r ++ 10 :: rest) 10 + 1) = _
    rw [hb, ih]
    have hn : ((r.length : Int) == -1) = false := by first | (simp; done) | (simp; omega)
    rw [hn]
    simp
theorem glue_len {c : Nat} : ∀ {rows : List (List UInt8)}, (∀ r ∈ rows, r.length = c) → (glue rows).length = rows.length * (c + 1)
  | [], _ => by simp [glue]
  | r :: rows, h => by
    rw [glue_cons, List.length_append, List.length_cons, h r List.mem_cons_self, glue_len (fun x hx => h x (List.mem_cons_of_mem _ hx)), List.length_cons, Nat.succ_mul]
    omega
theorem glue_filter : ∀ {rows : List (List UInt8)}, (∀ r ∈ rows, r.all okB = true) → (glue rows).filter (· != 10) = rows.flatten
  | [], _ => rfl
  | r :: rows, h => by
    have h1 : r.filter (· != 10) = r := List.filter_eq_self.2 (fun b hb => by have := okB_ne (List.all_eq_true.1 (h r List.mem_cons_self) b hb); simpa using this)
    rw [glue_cons, List.filter_append, h1, List.filter_cons_of_neg (by simp), glue_filter (fun x hx => h x (List.mem_cons_of_mem _ hx)), List.flatten_cons]
/-- Each place holds a newline at a line's end, or a letter. -/
def PlacesOk (c : Nat) (L : List UInt8) : Prop := ∀ i, i < L.length → (L.getD i 0 = 10 ∧ i % (c + 1) = c) ∨ okB (L.getD i 0) = true
theorem getD_mid {r rest : List UInt8} {i : Nat} (h : r.length < i) : (r ++ 10 :: rest).getD i 0 = rest.getD (i - (r.length + 1)) 0 := by
  rw [List.getD_eq_getElem?_getD, List.getD_eq_getElem?_getD, List.getElem?_append_right (by omega), show i - r.length = (i - (r.length + 1)) + 1 by omega, List.getElem?_cons_succ]
theorem glue_places {c : Nat} : ∀ {rows : List (List UInt8)}, (∀ r ∈ rows, r.length = c ∧ r.all okB = true) → PlacesOk c (glue rows)
  | [], _ => fun i h => absurd h (by simp [glue])
  | r :: rows, h => fun i hi => by
    obtain ⟨h1, h2⟩ := h r List.mem_cons_self
    rw [glue_cons] at hi ⊢
    rcases Nat.lt_trichotomy i c with hlt | rfl | hgt
    · right
      rw [List.getD_eq_getElem?_getD, List.getElem?_append_left (by omega), List.getElem?_eq_getElem (by omega)]
      exact List.all_eq_true.1 h2 _ (List.getElem_mem _)
    · left
      refine ⟨?_, Nat.mod_eq_of_lt (by omega)⟩
      rw [List.getD_eq_getElem?_getD, List.getElem?_append_right (by omega), h1, Nat.sub_self]
      rfl
    · rw [List.length_append, List.length_cons] at hi
      have ih := glue_places (fun x hx => h x (List.mem_cons_of_mem _ hx)) (i - (c + 1)) (by omega)
      rw [getD_mid (by omega), h1, Nat.mod_eq_sub_mod (by omega)]
      exact ih
theorem rows_of {c : Nat} : ∀ (r : Nat) (L : List UInt8), L.length = r * (c + 1) → (∀ i, i < L.length → if i % (c + 1) = c then L.getD i 0 = 10 else okB (L.getD i 0) = true) →
    ∃ rows : List (List UInt8), rows.length = r ∧ (∀ x ∈ rows, x.length = c ∧ x.all okB = true) ∧ L = glue rows
  | 0, L, h, _ => by
    rw [Nat.zero_mul] at h
    exact ⟨[], rfl, fun x hx => absurd hx List.not_mem_nil, by rw [List.eq_nil_of_length_eq_zero h]; rfl⟩
  | r + 1, L, h, hp => by
    rw [Nat.succ_mul] at h
    have hlen : (L.drop (c + 1)).length = r * (c + 1) := by rw [List.length_drop]; omega
    have hd : ∀ i, (L.drop (c + 1)).getD i 0 = L.getD (i + (c + 1)) 0 := fun i => by
      rw [List.getD_eq_getElem?_getD, List.getD_eq_getElem?_getD, List.getElem?_drop, Nat.add_comm]
    obtain ⟨rows, h1, h2, h3⟩ := rows_of r (L.drop (c + 1)) hlen (fun i hi => by
      have := hp (i + (c + 1)) (by rw [List.length_drop] at hi; omega)
      rw [hd i]
      rw [Nat.add_mod_right] at this
      exact this)
    have hc : L.getD c 0 = 10 := by
      have := hp c (by omega)
      rwa [if_pos (Nat.mod_eq_of_lt (by omega))] at this
    have hcl : c < L.length := by omega
    refine ⟨L.take c :: rows, by rw [List.length_cons, h1], fun x hx => ?_, ?_⟩
    · rcases List.mem_cons.1 hx with rfl | hx
      · refine ⟨by rw [List.length_take]; omega, List.all_eq_true.2 fun b hb => ?_⟩
        obtain ⟨i, hi, rfl⟩ := List.mem_iff_getElem.1 hb
        rw [List.length_take] at hi
        have := hp i (by omega)
        rw [if_neg (by rw [Nat.mod_eq_of_lt (by omega)]; omega), List.getD_eq_getElem?_getD, List.getElem?_eq_getElem (by omega)] at this
        rw [List.getElem_take]
        exact this
      · exact h2 x hx
    · rw [glue_cons, ← h3]
      have e1 : L.drop c = L[c] :: L.drop (c + 1) := List.drop_eq_getElem_cons hcl
      have e2 : L[c] = 10 := by rw [List.getD_eq_getElem?_getD, List.getElem?_eq_getElem hcl] at hc; exact hc
      rw [← e2, ← e1, List.take_append_drop]
theorem take_count {c : Nat} {L : List UInt8} (hp : PlacesOk c L) : ∀ p, p ≤ L.length → (L.take p).count 10 ≤ p / (c + 1) ∧ ((L.take p).count 10 = p / (c + 1) → ∀ i, i < p → i % (c + 1) = c → L.getD i 0 = 10)
  | 0, _ => ⟨by simp, fun _ i hi => absurd hi (Nat.not_lt_zero i)⟩
  | p + 1, h => by
    obtain ⟨h1, h2⟩ := take_count hp p (by omega)
    have hlt : p < L.length := by omega
    have e : L.getD p 0 = L[p] := by rw [List.getD_eq_getElem?_getD, List.getElem?_eq_getElem hlt]; rfl
    have hdiv : (p + 1) / (c + 1) = p / (c + 1) + if p % (c + 1) = c then 1 else 0 := by
      have hq := Nat.div_add_mod p (c + 1)
      have hr := Nat.mod_lt p (show 0 < c + 1 by omega)
      split
      · next hm =>
        rw [show p + 1 = (c + 1) * (p / (c + 1) + 1) by rw [Nat.mul_add, Nat.mul_one]; omega, Nat.mul_div_cancel_left _ (by omega)]
      · next hm =>
        have h3 : (p + 1) / (c + 1) = p / (c + 1) := Nat.div_eq_of_lt_le (by rw [Nat.mul_comm]; omega) (by rw [Nat.succ_mul, Nat.mul_comm]; omega)
        omega
    rw [List.take_succ_eq_append_getElem hlt, List.count_append, hdiv]
    have hpl := hp p hlt
    rw [e] at hpl
    by_cases hm : p % (c + 1) = c
    · rw [if_pos hm]
      by_cases ht : L[p] = 10
      · rw [ht, show List.count (10 : UInt8) [10] = 1 from by decide]
        refine ⟨by omega, fun he i hi hmi => ?_⟩
        rcases Nat.lt_or_eq_of_le (Nat.lt_succ_iff.1 hi) with h3 | rfl
        · exact h2 (by omega) i h3 hmi
        · rw [e, ht]
      · rw [show List.count (10 : UInt8) [L[p]] = 0 from by rw [List.count_eq_zero]; simpa using fun h => ht h.symm]
        exact ⟨by omega, fun he => absurd he (by omega)⟩
    · rw [if_neg hm]
      have hok : okB L[p] = true := by rcases hpl with ⟨_, h3⟩ | h3; exact absurd h3 hm; exact h3
      have hne := okB_ne hok
      rw [show List.count (10 : UInt8) [L[p]] = 0 from by rw [List.count_eq_zero]; simpa using fun h => hne h.symm]
      refine ⟨by omega, fun he i hi hmi => ?_⟩
      rcases Nat.lt_or_eq_of_le (Nat.lt_succ_iff.1 hi) with h3 | rfl
      · exact h2 (by omega) i h3 hmi
      · exact absurd hmi hm
theorem places_rows {c r : Nat} {L : List UInt8} (hp : PlacesOk c L) (hl : L.length = r * (c + 1)) (hcnt : L.count 10 = r) : ∃ rows : List (List UInt8), rows.length = r ∧ (∀ x ∈ rows, x.length = c ∧ x.all okB = true) ∧ L = glue rows := by
  obtain ⟨_, h2⟩ := take_count hp L.length (Nat.le_refl _)
  rw [List.take_length, hcnt, hl, Nat.mul_div_cancel _ (by omega)] at h2
  refine rows_of r L hl fun i hi => ?_
  split
  · next hm => exact h2 rfl i (by omega) hm
  · next hm =>
    rcases hp i hi with ⟨_, h3⟩ | h3
    · exact absurd h3 hm
    · exact h3
end Go.Proofs.Ytdcaohmcidmigaa
