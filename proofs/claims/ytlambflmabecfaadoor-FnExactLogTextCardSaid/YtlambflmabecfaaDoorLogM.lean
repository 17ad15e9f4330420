/- Logs: what they are, how far two agree, periods, changes of colours, the longest stretch (mathematics). -/
import Derived.Test.YtlambflmabecfaaDoorLog
namespace Go.Proofs.YtlambflmabecfaaDoor
open Go.ChangeShapes Go.WideShapes Go.ChangeAt Go.RowKit Go.Joins Go.Deep
set_option linter.unusedSimpArgs false
set_option linter.unusedVariables false
set_option maxRecDepth 100000
set_option maxHeartbeats 1000000
abbrev LE := Int × Int × Int × Int
def inL (lo hi n : Int) : Bool := decide (lo ≤ n) && decide (n ≤ hi)
def okE1 (e : LE) : Bool := inL 0 1 e.1 && inL 1 3 e.2.1 && inL 0 10 e.2.2.1 && inL (-1) 9 e.2.2.2
def okLog (l : List LE) : Bool := l.all okE1 && decide (l.length ≤ 60)
theorem all_take_succ {l : List LE} {k : Nat} (h : k < l.length) : (l.take (k + 1)).all okE1 = ((l.take k).all okE1 && okE1 (l[k].1, l[k].2.1, l[k].2.2.1, l[k].2.2.2)) := by
  rw [List.take_succ_eq_append_getElem h, List.all_append]
  simp
theorem okLog_bad {l : List LE} {k : Nat} (h : k < l.length) (hb : okE1 (l[k].1, l[k].2.1, l[k].2.2.1, l[k].2.2.2) = false) : okLog l = false := by
  unfold okLog
  rw [Bool.and_eq_false_iff]
  left
  rw [List.all_eq_false]
  exact ⟨l[k], List.getElem_mem h, by rw [show okE1 l[k] = false from hb]; simp⟩
theorem okLog_all {l : List LE} (h : (l.take l.length).all okE1 = true) : okLog l = decide (l.length ≤ 60) := by
  rw [List.take_length] at h
  unfold okLog
  rw [h, Bool.true_and]
theorem okLog_long {l : List LE} (h : 60 < l.length) : okLog l = false := by
  unfold okLog
  rw [decide_eq_false (by omega), Bool.and_false]
theorem okLog_parts {l : List LE} (h : okLog l = true) : l.length ≤ 60 ∧ ∀ e ∈ l, okE1 e = true := by
  unfold okLog at h
  rw [Bool.and_eq_true, decide_eq_true_eq, List.all_eq_true] at h
  exact ⟨h.2, h.1⟩
theorem okE1_parts {e : LE} (h : okE1 e = true) : (0 ≤ e.1 ∧ e.1 ≤ 1) ∧ (1 ≤ e.2.1 ∧ e.2.1 ≤ 3) ∧ (0 ≤ e.2.2.1 ∧ e.2.2.1 ≤ 10) ∧ (-1 ≤ e.2.2.2 ∧ e.2.2.2 ≤ 9) := by
  unfold okE1 inL at h
  simp only [Bool.and_eq_true, decide_eq_true_eq] at h
  exact ⟨h.1.1.1, h.1.1.2, h.1.2, h.2⟩
/-- How many entries at the beginning are the same. -/
def agreeL : List LE → List LE → Nat
  | a :: xs, b :: ys => if a = b then agreeL xs ys + 1 else 0
  | _, _ => 0
theorem agree_nil (b : List LE) : agreeL [] b = 0 := by cases b <;> rfl
theorem agree_nil' (a : List LE) : agreeL a [] = 0 := by cases a <;> rfl
theorem agree_stop : ∀ (n : Nat) (a b : List LE), n ≤ a.length → n ≤ b.length → a.take n = b.take n → (∀ (h : n < a.length) (h' : n < b.length), a[n] ≠ b[n]) → agreeL a b = n
  | 0, [], b, _, _, _, _ => agree_nil b
  | 0, _ :: _, [], _, _, _, _ => rfl
  | 0, a :: xs, b :: ys, _, _, _, h => by
    have h1 : a ≠ b := h (Nat.zero_lt_succ _) (Nat.zero_lt_succ _)
    unfold agreeL
    rw [if_neg h1]
  | n + 1, [], _, h, _, _, _ => absurd h (by simp)
  | n + 1, _ :: _, [], _, h, _, _ => absurd h (by simp)
  | n + 1, a :: xs, b :: ys, h1, h2, h3, h4 => by
    rw [List.take_succ_cons, List.take_succ_cons] at h3
    injection h3 with h5 h6
    unfold agreeL
    rw [if_pos h5, agree_stop n xs ys (by simpa using h1) (by simpa using h2) h6 (fun h h' => h4 (Nat.succ_lt_succ h) (Nat.succ_lt_succ h'))]
theorem agree_le : ∀ (a b : List LE), agreeL a b ≤ a.length ∧ agreeL a b ≤ b.length
  | [], b => by rw [agree_nil]; exact ⟨Nat.zero_le _, Nat.zero_le _⟩
  | _ :: _, [] => ⟨Nat.zero_le _, Nat.zero_le _⟩
  | a :: xs, b :: ys => by
    unfold agreeL
    have := agree_le xs ys
    split
    · simp; exact this
    · exact ⟨Nat.zero_le _, Nat.zero_le _⟩
theorem agree_comm : ∀ (a b : List LE), agreeL a b = agreeL b a
  | [], b => by rw [agree_nil, agree_nil']
  | _ :: _, [] => rfl
  | a :: xs, b :: ys => by
    unfold agreeL
    by_cases h : a = b
    · rw [if_pos h, if_pos h.symm, agree_comm xs ys]
    · rw [if_neg h, if_neg (fun e => h e.symm)]
theorem agree_take : ∀ (n : Nat) (L l : List LE), l.length ≤ n → agreeL (L.take n) l = agreeL L l
  | n, [], l, _ => by rw [List.take_nil]
  | n, _ :: _, [], _ => by rw [agree_nil', agree_nil']
  | 0, _ :: _, _ :: _, h => absurd h (by simp)
  | n + 1, a :: xs, b :: ys, h => by
    rw [List.take_succ_cons]
    unfold agreeL
    rw [agree_take n xs ys (by simpa using h)]
/-- The least period from p on, n further numbers tried. -/
def perF (l : List LE) : Nat → Nat → Nat
  | p, 0 => p
  | p, n + 1 => if agreeL (l.drop p) l = l.length - p then p else perF l (p + 1) n
def perL (l : List LE) : Nat := perF l 1 (l.length - 1)
theorem perF_yes {l : List LE} {p n : Nat} (h : agreeL (l.drop p) l = l.length - p) : perF l p n = p := by
  cases n with
  | zero => rfl
  | succ n => rw [perF, if_pos h]
theorem perF_no {l : List LE} {p n : Nat} (h : agreeL (l.drop p) l ≠ l.length - p) : perF l p (n + 1) = perF l (p + 1) n := by rw [perF, if_neg h]
def okPer (l : List LE) : Bool := okLog l && decide (0 < l.length)
/-- The indices below k at which the colour changes. -/
def chg (l : List LE) (k : Nat) : Bool := decide (0 < k) && decide ((l.getD k (0, 0, 0, 0)).1 ≠ (l.getD (k - 1) (0, 0, 0, 0)).1)
def chgK (l : List LE) (k : Nat) : List Int := ((List.range k).filter (chg l)).map (fun i : Nat => (i : Int))
def chgL (l : List LE) : List Int := chgK l l.length
theorem chgK_yes {l : List LE} {k : Nat} (h : chg l k = true) : chgK l (k + 1) = chgK l k ++ [(k : Int)] := by
  unfold chgK
  rw [List.range_succ, List.filter_append, List.map_append, List.filter_cons_of_pos h]
  rfl
theorem chgK_no {l : List LE} {k : Nat} (h : chg l k = false) : chgK l (k + 1) = chgK l k := by
  unfold chgK
  rw [List.range_succ, List.filter_append, List.map_append, List.filter_cons_of_neg (by rw [h]; simp)]
  simp
theorem chgK_one (l : List LE) : chgK l 1 = [] := chgK_no (k := 0) (by unfold chg; rfl)
theorem chgK_len (l : List LE) (k : Nat) : (chgK l k).length ≤ k := by
  unfold chgK
  rw [List.length_map]
  exact Nat.le_trans (List.length_filter_le _ _) (by rw [List.length_range]; exact Nat.le_refl _)
theorem chg_at {l : List LE} {k : Nat} (h : k < l.length) (h0 : 0 < k) : chg l k = decide (l[k].1 ≠ (l[k - 1]'(by omega)).1) := by
  unfold chg
  rw [decide_eq_true h0, Bool.true_and, List.getD_eq_getElem?_getD, List.getD_eq_getElem?_getD, List.getElem?_eq_getElem h, List.getElem?_eq_getElem (by omega)]
  rfl
def chO (l : List LE) : List Int := if okLog l then chgL l else []
theorem chO_len (l : List LE) : (chO l).length ≤ l.length := by
  unfold chO
  split
  · exact chgK_len _ _
  · exact Nat.zero_le _
/-- Another end of a stretch: the longest one, its length, where the next one begins. -/
def upd (s : Int × Int × Int) (e : Int) : Int × Int × Int := (if s.2.1 < e - s.2.2 then s.2.2 else s.1, if s.2.1 < e - s.2.2 then e - s.2.2 else s.2.1, e)
def stT (l : List LE) (k : Nat) : Int × Int × Int := (chgK l k).foldl upd (0, 0, 0)
def lonT (l : List LE) : Int × Int × Int := upd (stT l l.length) l.length
theorem stT_yes {l : List LE} {k : Nat} (h : chg l k = true) : stT l (k + 1) = upd (stT l k) k := by
  unfold stT
  rw [chgK_yes h, List.foldl_append]
  rfl
theorem stT_no {l : List LE} {k : Nat} (h : chg l k = false) : stT l (k + 1) = stT l k := by
  unfold stT
  rw [chgK_no h]
theorem lonT_fold (l : List LE) : (chgL l ++ [(l.length : Int)]).foldl upd (0, 0, 0) = lonT l := by
  rw [List.foldl_append]
  rfl
/-- What the model knows behind k entries: where the longest stretch begins, its length, where the last one begins. -/
structure LonK (l : List LE) (k : Nat) (best most : Int) (start : Nat) : Prop where
  bg : (stT l k).2.2 = (start : Int)
  b : best = (upd (stT l k) k).1
  m : most = (upd (stT l k) k).2.1
  in_ : start < k ∨ k = 0 ∧ start = 0
  same : ∀ j (hj : j < l.length) (hs : start < l.length), start ≤ j → j < k → l[j].1 = l[start].1
theorem LonK.zero (l : List LE) : LonK l 0 0 0 0 := ⟨rfl, rfl, rfl, .inr ⟨rfl, rfl⟩, fun j _ _ _ h => absurd h (by omega)⟩
theorem LonK.no {l : List LE} {k start : Nat} {best most : Int} (h : LonK l k best most start) (hk : k < l.length) (hs : start < l.length) (he : l[k].1 = l[start].1) :
    LonK l (k + 1) (if most < (k : Int) + 1 - start then start else best) (if most < (k : Int) + 1 - start then (k : Int) + 1 - start else most) start := by
  have hc : chg l k = false := by
    rcases Nat.eq_zero_or_pos k with h0 | h0
    · subst h0; rfl
    · rw [chg_at hk h0, decide_eq_false]
      intro hne
      refine hne (he.trans (h.same (k - 1) (by omega) hs ?_ (by omega)).symm)
      have := h.in_
      omega
  obtain ⟨h1, h2, h3, h4, h5⟩ := h
  have e := stT_no hc
  generalize stT l k = s at *
  obtain ⟨s0, s1, s2⟩ := s
  unfold upd at h2 h3
  dsimp only at h1 h2 h3
  subst h1 h2 h3
  refine ⟨by rw [e], ?_, ?_, .inl (by omega), fun j hj hs' h6 h7 => ?_⟩
  · rw [e]
    unfold upd
    dsimp only
    push_cast
    (repeat' split) <;> omega
  · rw [e]
    unfold upd
    dsimp only
    push_cast
    (repeat' split) <;> omega
  · rcases Nat.lt_or_ge j k with h8 | h8
    · exact h5 j hj hs' h6 h8
    · obtain rfl : j = k := by omega
      exact he
theorem LonK.yes {l : List LE} {k start : Nat} {best most : Int} (h : LonK l k best most start) (hk : k < l.length) (hs : start < l.length) (he : l[k].1 ≠ l[start].1) :
    LonK l (k + 1) best most k ∧ ¬ most < (k : Int) + 1 - k := by
  have h0 : 0 < k := by
    rcases Nat.eq_zero_or_pos k with h0 | h0
    · subst h0
      have := h.in_
      obtain rfl : start = 0 := by omega
      exact absurd rfl he
    · exact h0
  have hc : chg l k = true := by
    rw [chg_at hk h0, decide_eq_true]
    intro hne
    refine he (hne.trans (h.same (k - 1) (by omega) hs ?_ (by omega)))
    have := h.in_
    omega
  obtain ⟨h1, h2, h3, h4, h5⟩ := h
  have e := stT_yes hc
  generalize stT l k = s at *
  obtain ⟨s0, s1, s2⟩ := s
  unfold upd at h2 h3
  dsimp only at h1 h2 h3
  subst h1 h2 h3
  have hm : ¬ (if s1 < (k : Int) - start then (k : Int) - start else s1) < (k : Int) + 1 - k := by split <;> omega
  refine ⟨⟨by rw [e]; rfl, ?_, ?_, .inl (by omega), fun j hj hs' h6 h7 => ?_⟩, hm⟩
  · rw [e]
    unfold upd
    dsimp only
    push_cast
    (repeat' split) <;> omega
  · rw [e]
    unfold upd
    dsimp only
    push_cast
    (repeat' split) <;> omega
  · obtain rfl : j = k := by omega
    rfl
theorem LonK.end_ {l : List LE} {best most : Int} {start : Nat} (h : LonK l l.length best most start) : best = (lonT l).1 ∧ most = (lonT l).2.1 := ⟨h.b, h.m⟩
end Go.Proofs.YtlambflmabecfaaDoor
