/- The mathematics of the law on parts of boards. -/
import Derived.Test.YtpfjbecpfdgnpaaBeside3
import Derived.Test.YtpfjbecpfdgnpaaPutI
import Derived.Test.YtpfjbecpfdgnpaaDiffer
import Derived.Test.YtpfjbecpfdgnpaaStack
namespace Go.Proofs.Ytpfjbecpfdgnpaa
open Go.ChangeShapes Go.WideShapes Go.ChangeAt Go.RowKit Go.Joins Go.Deep
set_option linter.unusedSimpArgs false
set_option linter.unusedVariables false
set_option maxRecDepth 100000
set_option maxHeartbeats 1000000
theorem diffTo_mem (l m : List (Int × Int)) (n k : Nat) : (k : Int) ∈ diffTo l m n ↔ k < n ∧ l.getD k (0, 0) ≠ m.getD k (0, 0) := by
  induction n with
  | zero => simp [diffTo]
  | succ n ih =>
    show (k : Int) ∈ (if l.getD n (0, 0) = m.getD n (0, 0) then diffTo l m n else diffTo l m n ++ [(n : Int)]) ↔ _
    split
    · rename_i h
      rw [ih]
      refine ⟨fun h' => ⟨by omega, h'.2⟩, fun h' => ⟨?_, h'.2⟩⟩
      rcases Nat.lt_succ_iff_lt_or_eq.1 h'.1 with h1 | h1
      · exact h1
      · subst h1; exact absurd h h'.2
    · rename_i h
      rw [List.mem_append, ih, List.mem_singleton]
      constructor
      · rintro (h' | h')
        · exact ⟨by omega, h'.2⟩
        · have : k = n := by omega
          subst this
          exact ⟨by omega, h⟩
      · intro h'
        rcases Nat.lt_succ_iff_lt_or_eq.1 h'.1 with h1 | h1
        · exact .inl ⟨h1, h'.2⟩
        · exact .inr (by omega)
theorem getD_set_ne {l : List (Int × Int)} {j k : Nat} {c : Int × Int} (h : j ≠ k) : (l.set j c).getD k (0, 0) = l.getD k (0, 0) := by
  rw [List.getD_eq_getElem?_getD, List.getD_eq_getElem?_getD, List.getElem?_set_ne h]
theorem diffTo_set_lo (l : List (Int × Int)) (j : Nat) (c : Int × Int) (n : Nat) (h : n ≤ j) : diffTo l (l.set j c) n = [] := by
  induction n with
  | zero => rfl
  | succ n ih =>
    show (if l.getD n (0, 0) = (l.set j c).getD n (0, 0) then diffTo l (l.set j c) n else _) = _
    rw [getD_set_ne (by omega), if_pos rfl, ih (by omega)]
theorem diffTo_set (l : List (Int × Int)) (j : Nat) (c : Int × Int) (n : Nat) : diffTo l (l.set j c) n = [] ∨ diffTo l (l.set j c) n = [(j : Int)] := by
  induction n with
  | zero => exact .inl rfl
  | succ n ih =>
    show (if l.getD n (0, 0) = (l.set j c).getD n (0, 0) then diffTo l (l.set j c) n else diffTo l (l.set j c) n ++ [(n : Int)]) = [] ∨ (if l.getD n (0, 0) = (l.set j c).getD n (0, 0) then diffTo l (l.set j c) n else diffTo l (l.set j c) n ++ [(n : Int)]) = _
    by_cases hj : j = n
    · subst hj
      rw [diffTo_set_lo l j c j (Nat.le_refl _)]
      split
      · exact .inl rfl
      · exact .inr rfl
    · rw [getD_set_ne hj, if_pos rfl]
      exact ih
theorem good_put {R C : Int} {l : List (Int × Int)} {j : Nat} {x y : Int} (h : goodB R C l = true) (hg : good x y = true) : goodB R C (l.set j (x, y)) = true := by
  obtain ⟨a, b, c⟩ := goodB_iff.1 h
  refine goodB_iff.2 ⟨a, by rw [List.length_set]; exact b, fun d hd => ?_⟩
  rcases List.mem_or_eq_of_mem_set hd with h1 | h1
  · exact c d h1
  · rw [h1]; exact hg
theorem put_facts {R C : Int} {l : List (Int × Int)} {i j x y : Int} (h : okPut R C l i j x y = true) :
    hasB (selI (okPut R C l i j x y) R) (selI (okPut R C l i j x y) C) (putL R C l i j x y) i j = true ∧
    cellK (selI (okPut R C l i j x y) R) (selI (okPut R C l i j x y) C) (putL R C l i j x y) i j = x ∧
    cellS (selI (okPut R C l i j x y) R) (selI (okPut R C l i j x y) C) (putL R C l i j x y) i j = y ∧
    sameB R C l (selI (okPut R C l i j x y) R) (selI (okPut R C l i j x y) C) (putL R C l i j x y) = true ∧
    (diffB R C l (selI (okPut R C l i j x y) R) (selI (okPut R C l i j x y) C) (putL R C l i j x y) = [] ∨
     diffB R C l (selI (okPut R C l i j x y) R) (selI (okPut R C l i j x y) C) (putL R C l i j x y) = [i * C + j]) ∧ 0 ≤ i * C ∧ i * C ≤ 90 ∧ 0 ≤ j ∧ j ≤ 10 := by
  have hput : putL R C l i j x y = l.set (atI C i j) (x, y) := by unfold putL; rw [h, if_pos rfl]
  rw [hput, h]
  show hasB R C _ i j = true ∧ cellK R C _ i j = x ∧ cellS R C _ i j = y ∧ sameB R C l R C _ = true ∧ (diffB R C l R C _ = [] ∨ diffB R C l R C _ = [i * C + j]) ∧ _
  unfold okPut at h
  rw [Bool.and_eq_true] at h
  obtain ⟨hg, hi⟩ := hasB_and h.1
  have hg2 : goodB R C (l.set (atI C i j) (x, y)) = true := good_put hg h.2
  obtain ⟨b1, b2, b3, b4⟩ := at_bound hg hi
  have hh : hasB R C (l.set (atI C i j) (x, y)) i j = true := by unfold hasB; rw [hg2, hi]; rfl
  have hgd : (l.set (atI C i j) (x, y)).getD (atI C i j) (0, 0) = (x, y) := by
    rw [List.getD_eq_getElem?_getD, List.getElem?_set_self b3]; rfl
  have hs : sameB R C l R C (l.set (atI C i j) (x, y)) = true := sameB_iff.2 ⟨hg, hg2, rfl, rfl⟩
  obtain ⟨i1, i2, i3, i4⟩ := inB_iff.1 hi
  obtain ⟨s1, s2, s3, s4⟩ := sizeB_iff.1 (goodB_iff.1 hg).1
  refine ⟨hh, ?_, ?_, hs, ?_, b1.1, b1.2, i3, by omega⟩
  · unfold cellK; rw [hh, hgd]; rfl
  · unfold cellS; rw [hh, hgd]; rfl
  · unfold diffB
    rw [hs, if_pos rfl, b2]
    exact diffTo_set _ _ _ _
theorem piece_left (l m : List (Int × Int)) : piece (l ++ m) 0 l.length = l := by unfold piece; simp
theorem piece_right (l m : List (Int × Int)) : piece (l ++ m) l.length (l.length + m.length) = m := by unfold piece; simp
theorem stack_facts {R C : Int} {l : List (Int × Int)} {R' C' : Int} {m : List (Int × Int)} (h : okStack R C l R' C' m = true) :
    goodB (selI (okStack R C l R' C' m) (R + R')) (selI (okStack R C l R' C' m) C) (stackL R C l R' C' m) = true ∧
    okCut (selI (okStack R C l R' C' m) (R + R')) (selI (okStack R C l R' C' m) C) (stackL R C l R' C' m) 0 R = true ∧
    cutL (selI (okStack R C l R' C' m) (R + R')) (selI (okStack R C l R' C' m) C) (stackL R C l R' C' m) 0 R = l ∧
    okCut (selI (okStack R C l R' C' m) (R + R')) (selI (okStack R C l R' C' m) C) (stackL R C l R' C' m) R (R + R') = true ∧
    cutL (selI (okStack R C l R' C' m) (R + R')) (selI (okStack R C l R' C' m) C) (stackL R C l R' C' m) R (R + R') = m ∧
    selI (okStack R C l R' C' m) C = C ∧ C = C' ∧ 1 ≤ R ∧ 1 ≤ R' ∧ R + R' ≤ 10 := by
  have hst : stackL R C l R' C' m = l ++ m := by unfold stackL; rw [h, if_pos rfl]
  rw [hst, h]
  show goodB (R + R') C (l ++ m) = true ∧ okCut (R + R') C (l ++ m) 0 R = true ∧ cutL (R + R') C (l ++ m) 0 R = l ∧ okCut (R + R') C (l ++ m) R (R + R') = true ∧ cutL (R + R') C (l ++ m) R (R + R') = m ∧ C = C ∧ _
  unfold okStack at h
  simp only [Bool.and_eq_true, decide_eq_true_eq] at h
  obtain ⟨⟨h1, h2⟩, rfl, h3⟩ := h
  have hg := good_stack h1 h2 h3
  obtain ⟨s1, s2, _⟩ := goodB_iff.1 h1
  obtain ⟨t1, t2, _⟩ := goodB_iff.1 h2
  obtain ⟨a1, a2, a3, a4⟩ := sizeB_iff.1 s1
  obtain ⟨b1, b2, b3, b4⟩ := sizeB_iff.1 t1
  have c1 : okCut (R + R') C (l ++ m) 0 R = true := by unfold okCut cutIn; rw [hg]; simp; omega
  have c2 : okCut (R + R') C (l ++ m) R (R + R') = true := by unfold okCut cutIn; rw [hg]; simp; omega
  have e1 : (R * C).toNat = l.length := by omega
  have e2 : ((R + R') * C).toNat = l.length + m.length := by rw [Int.add_mul]; omega
  refine ⟨hg, c1, ?_, c2, ?_, rfl, rfl, by omega, by omega, h3⟩
  · unfold cutL
    rw [c1, if_pos rfl, e1, Int.zero_mul]
    exact piece_left l m
  · unfold cutL
    rw [c2, if_pos rfl, e1, e2]
    exact piece_right l m
theorem piece_at {l : List (Int × Int)} {p q k : Nat} (hk : k < q - p) : (piece l p q)[k]? = l[p + k]? := by
  unfold piece
  rw [List.getElem?_take_of_lt hk, List.getElem?_drop]
theorem rowsB_at {R C C' : Int} {l m : List (Int × Int)} (hg : goodB R C l = true) (hg' : goodB R C' m = true) {n : Nat} (hn : (n : Int) ≤ R) {i j : Nat} (hi : i < n) (hj : j < C.toNat + C'.toNat) :
    (rowsB C l C' m n)[i * (C.toNat + C'.toNat) + j]? = if j < C.toNat then l[i * C.toNat + j]? else m[i * C'.toNat + (j - C.toNat)]? := by
  induction n with
  | zero => omega
  | succ n ih =>
    have hn' : (n : Int) < R := by omega
    have hl := rowsB_len hg hg' (k := n) (by omega)
    have e1 := rowL_len hg hn'
    have e2 := rowL_len hg' hn'
    rw [rowsB_succ, List.append_assoc]
    by_cases h : i < n
    · have h1 : i * (C.toNat + C'.toNat) + j < n * (C.toNat + C'.toNat) := by
        have h2 : (i + 1) * (C.toNat + C'.toNat) ≤ n * (C.toNat + C'.toNat) := Nat.mul_le_mul_right _ (by omega)
        rw [Nat.succ_mul] at h2
        omega
      rw [List.getElem?_append_left (by omega)]
      exact ih (by omega) h
    · obtain rfl : i = n := by omega
      rw [List.getElem?_append_right (by omega), hl, Nat.add_sub_cancel_left]
      split
      · rename_i hc
        rw [List.getElem?_append_left (by omega)]
        unfold rowL
        rw [piece_at (by rw [Nat.succ_mul]; omega)]
      · rename_i hc
        rw [List.getElem?_append_right (by omega), e1]
        unfold rowL
        rw [piece_at (by rw [Nat.succ_mul]; omega)]
theorem beside_facts {R C : Int} {l : List (Int × Int)} {R' C' : Int} {m : List (Int × Int)} (h : okBeside R C l R' C' m = true) :
    ∃ r c c' : Nat, R = (r : Int) ∧ C = (c : Int) ∧ C' = (c' : Int) ∧ selI (okBeside R C l R' C' m) (C + C') = ((c + c' : Nat) : Int) ∧ r ≤ 10 ∧ c + c' ≤ 9 ∧ l.length = r * c ∧ m.length = r * c' ∧ (besideL R C l R' C' m).length = r * (c + c') ∧
      ∀ i j, i < r → j < c + c' → (besideL R C l R' C' m)[i * (c + c') + j]? = if j < c then l[i * c + j]? else m[i * c' + (j - c)]? := by
  have hst : besideL R C l R' C' m = rowsB C l C' m R.toNat := by unfold besideL; rw [h, if_pos rfl]
  rw [hst, h]
  unfold okBeside at h
  simp only [Bool.and_eq_true, decide_eq_true_eq] at h
  obtain ⟨⟨h1, h2⟩, rfl, h3⟩ := h
  obtain ⟨s1, s2, _⟩ := goodB_iff.1 h1
  obtain ⟨t1, t2, _⟩ := goodB_iff.1 h2
  obtain ⟨a1, a2, a3, a4⟩ := sizeB_iff.1 s1
  obtain ⟨b1, b2, b3, b4⟩ := sizeB_iff.1 t1
  obtain ⟨r, rfl⟩ := Int.eq_ofNat_of_zero_le (show 0 ≤ R by omega)
  obtain ⟨c, rfl⟩ := Int.eq_ofNat_of_zero_le (show 0 ≤ C by omega)
  obtain ⟨c', rfl⟩ := Int.eq_ofNat_of_zero_le (show 0 ≤ C' by omega)
  have hl := rowsB_len h1 h2 (k := r) (Int.le_refl _)
  refine ⟨r, c, c', rfl, rfl, rfl, ?_, by omega, by omega, by exact_mod_cast s2, by exact_mod_cast t2, hl, fun i j hi hj => rowsB_at h1 h2 (n := r) (Int.le_refl _) hi hj⟩
  show (c : Int) + (c' : Int) = _
  push_cast
  rfl
theorem differ_facts {R C : Int} {l : List (Int × Int)} {R' C' : Int} {m : List (Int × Int)} (h : sameB R C l R' C' m = true) :
    l.length = m.length ∧ l.length ≤ 90 ∧ ∀ k, k < l.length → ((k : Int) ∈ diffB R C l R' C' m ↔ l.getD k (0, 0) ≠ m.getD k (0, 0)) := by
  obtain ⟨h1, h2, rfl, rfl⟩ := sameB_iff.1 h
  obtain ⟨_, s2, _⟩ := goodB_iff.1 h1
  obtain ⟨_, t2, _⟩ := goodB_iff.1 h2
  refine ⟨by omega, (goodB_parts h1).2.1, fun k hk => ?_⟩
  unfold diffB
  rw [h, if_pos rfl, diffTo_mem]
  exact ⟨fun h => h.2, fun h => ⟨hk, h⟩⟩
theorem cut_facts {R C : Int} {l : List (Int × Int)} {f t : Int} (h : okCut R C l f t = true) : selI (okCut R C l f t) (t - f) = t - f ∧ selI (okCut R C l f t) C = C := by
  rw [h]
  exact ⟨rfl, rfl⟩
end Go.Proofs.Ytpfjbecpfdgnpaa
