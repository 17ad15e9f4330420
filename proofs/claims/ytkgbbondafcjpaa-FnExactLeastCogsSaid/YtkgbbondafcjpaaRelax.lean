/- The least costs by rounds of relaxing all neighbours: they are the levels of the search. -/
import Derived.Test.YtkgbbondafcjpaaLevel
namespace Go.Proofs.Ytkgbbondafcjpaa
open Go.ChangeShapes Go.WideShapes Go.ChangeAt Go.RowKit Go.Joins Go.Deep
set_option linter.unusedSimpArgs false
set_option linter.unusedVariables false
set_option maxRecDepth 100000
set_option maxHeartbeats 1000000
def cst (E : Nat → Bool) (i : Nat) (ls : List Int) (y : Nat) : Int := ls.getD i 0 + (if E y then 1 else 0)
def rst (J E : Nat → Bool) (i : Nat) (ls : List Int) (y : Nat) : List Int := if (E y || J y) = true ∧ (ls.getD y 0 < 0 ∨ cst E i ls y < ls.getD y 0) then ls.set y (cst E i ls y) else ls
def rcell (J E : Nat → Bool) (near : Nat → List Nat) (ls : List Int) (i : Nat) : List Int := if ls.getD i 0 < 0 then ls else (near i).foldl (rst J E i) ls
def rround (J E : Nat → Bool) (near : Nat → List Nat) (n : Nat) (ls : List Int) : List Int := (List.range n).foldl (rcell J E near) ls
def rit (J E : Nat → Bool) (near : Nat → List Nat) (n src : Nat) : Nat → List Int
  | 0 => (List.replicate n (-1)).set src 0
  | t + 1 => rround J E near n (rit J E near n src t)
variable {J E : Nat → Bool} {near : Nat → List Nat} {n src : Nat}
theorem getD_set {ls : List Int} {x y : Nat} {c : Int} (hy : y < ls.length) : (ls.set y c).getD x 0 = if x = y then c else ls.getD x 0 := by
  rw [List.getD_eq_getElem?_getD, List.getD_eq_getElem?_getD, List.getElem?_set]
  by_cases e : y = x
  · subst e; rw [if_pos rfl, if_pos hy, if_pos rfl]; rfl
  · rw [if_neg e, if_neg (fun h => e h.symm)]
theorem rst_len {i y : Nat} {ls : List Int} : (rst J E i ls y).length = ls.length := by
  unfold rst
  split
  · rw [List.length_set]
  · rfl
theorem fold_len {f : List Int → Nat → List Int} (hf : ∀ s x, (f s x).length = s.length) : ∀ (l : List Nat) (s : List Int), (l.foldl f s).length = s.length
  | [], _ => rfl
  | x :: l, s => (fold_len hf l (f s x)).trans (hf s x)
theorem rcell_len {i : Nat} {ls : List Int} : (rcell J E near ls i).length = ls.length := by
  unfold rcell
  split
  · rfl
  · exact fold_len (fun _ _ => rst_len) _ _
theorem rround_len {ls : List Int} : (rround J E near n ls).length = ls.length := fold_len (fun _ _ => rcell_len) _ _
theorem rit_len : ∀ t, (rit J E near n src t).length = n
  | 0 => by simp [rit]
  | t + 1 => rround_len.trans (rit_len t)
/-- What was reached stays reached, at no greater cost. -/
def Le (a b : List Int) : Prop := ∀ x, x < a.length → 0 ≤ a.getD x 0 → 0 ≤ b.getD x 0 ∧ b.getD x 0 ≤ a.getD x 0
theorem Le.refl (a : List Int) : Le a a := fun _ _ h => ⟨h, Int.le_refl _⟩
theorem Le.trans {a b c : List Int} (h : Le a b) (h' : Le b c) (hl : b.length = a.length) : Le a c := fun x hx h0 => by
  obtain ⟨h1, h2⟩ := h x hx h0
  obtain ⟨h3, h4⟩ := h' x (by omega) h1
  exact ⟨h3, by omega⟩
theorem cst_yes {i y : Nat} {ls : List Int} (h : E y = true) : cst E i ls y = ls.getD i 0 + 1 := by
  unfold cst
  rw [if_pos h]
theorem cst_no {i y : Nat} {ls : List Int} (h : E y = false) : cst E i ls y = ls.getD i 0 := by
  unfold cst
  rw [if_neg (by rw [h]; exact Bool.false_ne_true), Int.add_zero]
theorem cst_nonneg {i y : Nat} {ls : List Int} (h : 0 ≤ ls.getD i 0) : 0 ≤ cst E i ls y := by
  unfold cst
  split <;> omega
theorem rst_le {i y : Nat} {ls : List Int} (h : 0 ≤ ls.getD i 0) (hy : y < ls.length) : Le ls (rst J E i ls y) := by
  intro x hx h0
  unfold rst
  split
  · rename_i hc
    rw [getD_set hy]
    by_cases e : x = y
    · subst e
      rw [if_pos rfl]
      have := cst_nonneg (E := E) (y := x) h
      rcases hc.2 with q | q
      · omega
      · exact ⟨this, by omega⟩
    · rw [if_neg e]; exact ⟨h0, Int.le_refl _⟩
  · exact ⟨h0, Int.le_refl _⟩
/-- A fold of steps: what holds of each holds of all; and each step has its place in it. -/
theorem fold_all {f : List Int → Nat → List Int} {P : List Int → Prop} {l : List Nat} (hf : ∀ s x, x ∈ l → P s → Le s (f s x) ∧ (f s x).length = s.length ∧ P (f s x)) :
    ∀ (m : List Nat) (s : List Int), (∀ x ∈ m, x ∈ l) → P s → Le s (m.foldl f s) ∧ (m.foldl f s).length = s.length ∧ P (m.foldl f s)
  | [], s, _, h => ⟨Le.refl s, rfl, h⟩
  | x :: m, s, hm, h => by
    obtain ⟨h1, h2, h3⟩ := hf s x (hm x (List.mem_cons_self ..)) h
    obtain ⟨h4, h5, h6⟩ := fold_all hf m (f s x) (fun y hy => hm y (List.mem_cons_of_mem _ hy)) h3
    exact ⟨h1.trans h4 h2, h5.trans h2, h6⟩
theorem fold_mid {f : List Int → Nat → List Int} {P : List Int → Prop} {l : List Nat} (hf : ∀ s x, x ∈ l → P s → Le s (f s x) ∧ (f s x).length = s.length ∧ P (f s x)) {x : Nat} :
    ∀ (m : List Nat) (s : List Int), (∀ y ∈ m, y ∈ l) → P s → x ∈ m → ∃ s', P s' ∧ s'.length = s.length ∧ Le s s' ∧ Le (f s' x) (m.foldl f s)
  | [], s, _, _, hx => absurd hx List.not_mem_nil
  | y :: m, s, hm, h, hx => by
    obtain ⟨h1, h2, h3⟩ := hf s y (hm y (List.mem_cons_self ..)) h
    have hm' : ∀ z ∈ m, z ∈ l := fun z hz => hm z (List.mem_cons_of_mem _ hz)
    by_cases e : x = y
    · subst e
      exact ⟨s, h, rfl, Le.refl s, (fold_all hf m (f s x) hm' h3).1⟩
    · rcases List.mem_cons.1 hx with q | q
      · exact absurd q e
      · obtain ⟨s', a, b, c, d⟩ := fold_mid hf m (f s y) hm' h3 q
        exact ⟨s', a, b.trans h2, h1.trans c h2, d⟩
theorem inner_ok (H : Lev J E near n src) {i : Nat} (hi : i < n) : ∀ s y, y ∈ near i → (s.length = n ∧ 0 ≤ s.getD i 0) → Le s (rst J E i s y) ∧ (rst J E i s y).length = s.length ∧ ((rst J E i s y).length = n ∧ 0 ≤ (rst J E i s y).getD i 0) := fun s y hy h => by
  have hl := rst_le (J := J) (E := E) (y := y) h.2 (by rw [h.1]; exact H.near i hi y hy)
  exact ⟨hl, rst_len, rst_len.trans h.1, (hl i (by rw [h.1]; exact hi) h.2).1⟩
theorem outer_ok (H : Lev J E near n src) : ∀ s i, i ∈ List.range n → s.length = n → Le s (rcell J E near s i) ∧ (rcell J E near s i).length = s.length ∧ (rcell J E near s i).length = n := fun s i hi h => by
  refine ⟨?_, rcell_len, rcell_len.trans h⟩
  unfold rcell
  split
  · exact Le.refl s
  · exact (fold_all (inner_ok H (List.mem_range.1 hi)) (near i) s (fun _ h => h) ⟨h, by omega⟩).1
theorem round_le (H : Lev J E near n src) {ls : List Int} (hl : ls.length = n) : Le ls (rround J E near n ls) := (fold_all (outer_ok H) (List.range n) ls (fun _ h => h) hl).1
def Up (J E : Nat → Bool) (near : Nat → List Nat) (src t : Nat) (ls : List Int) : Prop := ∀ x k, Pth J E near src t x k → 0 ≤ ls.getD x 0 ∧ ls.getD x 0 ≤ (k : Int)
theorem up_round (H : Lev J E near n src) {t : Nat} {ls : List Int} (hl : ls.length = n) (h : Up J E near src t ls) : Up J E near src (t + 1) (rround J E near n ls) := by
  rintro x k (hp | ⟨y, k', hp, hx, hc⟩)
  · obtain ⟨h1, h2⟩ := h x k hp
    obtain ⟨h3, h4⟩ := round_le H hl x (by rw [hl]; exact hp.lt H) h1
    exact ⟨h3, by omega⟩
  · have hyn := hp.lt H
    have hxn := H.near y hyn x hx
    obtain ⟨h1, h2⟩ := h y k' hp
    obtain ⟨s, hs, hsl, hle, hgo⟩ := fold_mid (x := y) (outer_ok H) (List.range n) ls (fun _ h => h) hl (List.mem_range.2 hyn)
    obtain ⟨h3, h4⟩ := hle y (by rw [hl]; exact hyn) h1
    have e1 : rcell J E near s y = (near y).foldl (rst J E y) s := by unfold rcell; rw [if_neg (by omega)]
    obtain ⟨s2, ⟨hs2, hs2y⟩, hs2l, hle2, hgo2⟩ := fold_mid (x := x) (inner_ok H hyn) (near y) s (fun _ h => h) ⟨hs, h3⟩ hx
    obtain ⟨h5, h6⟩ := hle2 y (by rw [hs]; exact hyn) h3
    have hx2 : x < s2.length := by rw [hs2]; exact hxn
    have hcost : cst E y s2 x ≤ (k : Int) := by
      rcases hc with ⟨hJ, rfl⟩ | ⟨hE, rfl⟩
      · have : E x = false := by
          rcases Bool.eq_false_or_eq_true (E x) with q | q
          · exact (H.je x hJ q).elim
          · exact q
        rw [cst_no this]; omega
      · rw [cst_yes hE]; omega
    have hpass : (E x || J x) = true := by
      rcases hc with ⟨hJ, _⟩ | ⟨hE, _⟩
      · rw [hJ, Bool.or_true]
      · rw [hE, Bool.true_or]
    have hr : 0 ≤ (rst J E y s2 x).getD x 0 ∧ (rst J E y s2 x).getD x 0 ≤ (k : Int) := by
      unfold rst
      split
      · rw [getD_set hx2, if_pos rfl]
        exact ⟨cst_nonneg hs2y, hcost⟩
      · rename_i hno
        have : ¬ (s2.getD x 0 < 0 ∨ cst E y s2 x < s2.getD x 0) := fun q => hno ⟨hpass, q⟩
        omega
    obtain ⟨h7, h8⟩ := hgo2 x (by rw [rst_len, hs2]; exact hxn) hr.1
    rw [← e1] at h7 h8
    obtain ⟨h9, h10⟩ := hgo x (by rw [rcell_len, hs]; exact hxn) h7
    exact ⟨h9, by show (List.foldl (rcell J E near) ls (List.range n)).getD x 0 ≤ _; omega⟩
def Snd (J E : Nat → Bool) (near : Nat → List Nat) (n src : Nat) (ls : List Int) : Prop := ∀ x, x < n → 0 ≤ ls.getD x 0 → ∃ j : Nat, (j : Int) ≤ ls.getD x 0 ∧ x ∈ LQ J E near n src j
theorem snd_rst (H : Lev J E near n src) {i y : Nat} {ls : List Int} (hl : ls.length = n) (hi : i < n) (h0 : 0 ≤ ls.getD i 0) (hy : y ∈ near i) (h : Snd J E near n src ls) : Snd J E near n src (rst J E i ls y) := by
  intro x hx hx0
  have hyn := H.near i hi y hy
  unfold rst at hx0 ⊢
  split at hx0
  · rename_i hc
    rw [if_pos hc]
    rw [getD_set (by omega)] at hx0 ⊢
    by_cases e : x = y
    · subst e
      rw [if_pos rfl]
      obtain ⟨j, h1, h2⟩ := h i hi h0
      rcases Bool.eq_false_or_eq_true (E x) with hE | hE
      · obtain ⟨j', h3, h4⟩ := LQ_empty h2 hy hE
        exact ⟨j', by rw [cst_yes hE]; omega, h4⟩
      · have hJ : J x = true := by have := hc.1; rw [hE, Bool.false_or] at this; exact this
        obtain ⟨j', h3, h4⟩ := LQ_join H h2 hy hJ
        exact ⟨j', by rw [cst_no hE]; omega, h4⟩
    · rw [if_neg e] at hx0 ⊢
      exact h x hx hx0
  · rename_i hc
    rw [if_neg hc]
    exact h x hx hx0
theorem snd_fold (H : Lev J E near n src) {i : Nat} (hi : i < n) : ∀ (m : List Nat) (s : List Int), (∀ y ∈ m, y ∈ near i) → s.length = n → 0 ≤ s.getD i 0 → Snd J E near n src s → Snd J E near n src (m.foldl (rst J E i) s)
  | [], _, _, _, _, h => h
  | y :: m, s, hm, hl, h0, h => by
    obtain ⟨_, _, h1, h2⟩ := inner_ok H hi s y (hm y (List.mem_cons_self ..)) ⟨hl, h0⟩
    exact snd_fold H hi m _ (fun z hz => hm z (List.mem_cons_of_mem _ hz)) h1 h2 (snd_rst H hl hi h0 (hm y (List.mem_cons_self ..)) h)
theorem snd_cells (H : Lev J E near n src) : ∀ (m : List Nat) (s : List Int), (∀ i ∈ m, i < n) → s.length = n → Snd J E near n src s → Snd J E near n src (m.foldl (rcell J E near) s)
  | [], _, _, _, h => h
  | i :: m, s, hm, hl, h => by
    refine snd_cells H m _ (fun z hz => hm z (List.mem_cons_of_mem _ hz)) (rcell_len.trans hl) ?_
    unfold rcell
    split
    · exact h
    · exact snd_fold H (hm i (List.mem_cons_self ..)) (near i) s (fun _ h => h) hl (by omega) h
theorem ls0_at {x : Nat} (hs : src < n) (hx : x < n) : (rit J E near n src 0).getD x 0 = if x = src then 0 else -1 := by
  show ((List.replicate n (-1 : Int)).set src 0).getD x 0 = _
  rw [getD_set (by rw [List.length_replicate]; exact hs)]
  split
  · rfl
  · rw [List.getD_eq_getElem?_getD, List.getElem?_replicate, if_pos hx]; rfl
theorem rit_snd (H : Lev J E near n src) : ∀ t, Snd J E near n src (rit J E near n src t)
  | 0 => by
    intro x hx h0
    rw [ls0_at H.src hx] at h0 ⊢
    by_cases e : x = src
    · subst e
      exact ⟨0, by simp, LQ_src⟩
    · rw [if_neg e] at h0; omega
  | t + 1 => snd_cells H (List.range n) _ (fun i hi => List.mem_range.1 hi) (rit_len t) (rit_snd H t)
theorem rit_up (H : Lev J E near n src) : ∀ t, Up J E near src t (rit J E near n src t)
  | 0 => by
    rintro x k ⟨rfl, rfl⟩
    rw [ls0_at H.src H.src, if_pos rfl]
    exact ⟨Int.le_refl _, Int.le_refl _⟩
  | t + 1 => up_round H (rit_len t) (rit_up H t)
theorem rit_in (H : Lev J E near n src) {x k : Nat} (h : x ∈ LQ J E near n src k) : (rit J E near n src n).getD x 0 = (k : Int) := by
  obtain ⟨h1, h2⟩ := rit_up H n x k (LQ_pth H h)
  obtain ⟨j, h3, h4⟩ := rit_snd H n x (LQ_lt H h) h1
  have := LQ_apart H h h4
  omega
theorem rit_out (H : Lev J E near n src) {x : Nat} (hx : x < n) (h : ∀ k, x ∉ LQ J E near n src k) : (rit J E near n src n).getD x 0 < 0 := by
  refine Classical.byContradiction fun hno => ?_
  obtain ⟨j, _, h4⟩ := rit_snd H n x hx (by omega)
  exact h j h4
/-! ### bounds -/
def Bnd (b : Int) (ls : List Int) : Prop := ∀ x, ls.getD x 0 ≤ b
theorem Bnd.mono {b b' : Int} {ls : List Int} (h : Bnd b ls) (hb : b ≤ b') : Bnd b' ls := fun x => Int.le_trans (h x) hb
theorem bnd_rst {b : Int} {i y : Nat} {ls : List Int} (hy : y < ls.length) (h : Bnd (b + 1) ls) (hi : ls.getD i 0 ≤ b) : Bnd (b + 1) (rst J E i ls y) := by
  intro x
  unfold rst
  split
  · rw [getD_set hy]
    split
    · unfold cst; split <;> omega
    · exact h x
  · exact h x
theorem inner_bnd (H : Lev J E near n src) {i : Nat} {b : Int} (hi : i < n) : ∀ (m : List Nat) (s : List Int), (∀ y ∈ m, y ∈ near i) → s.length = n → 0 ≤ s.getD i 0 → s.getD i 0 ≤ b → Bnd (b + 1) s →
    (m.foldl (rst J E i) s).length = n ∧ 0 ≤ (m.foldl (rst J E i) s).getD i 0 ∧ (m.foldl (rst J E i) s).getD i 0 ≤ b ∧ Bnd (b + 1) (m.foldl (rst J E i) s)
  | [], s, _, h1, h2, h3, h4 => ⟨h1, h2, h3, h4⟩
  | y :: m, s, hm, h1, h2, h3, h4 => by
    obtain ⟨hle, _, h5, h6⟩ := inner_ok H hi s y (hm y (List.mem_cons_self ..)) ⟨h1, h2⟩
    have h7 := (hle i (by omega) h2).2
    exact inner_bnd H hi m _ (fun z hz => hm z (List.mem_cons_of_mem _ hz)) h5 h6 (by omega) (bnd_rst (by rw [h1]; exact H.near i hi y (hm y (List.mem_cons_self ..))) h4 h3)
theorem cell_bnd (H : Lev J E near n src) {i : Nat} {b : Int} (hi : i < n) {s : List Int} (hl : s.length = n) (h : Bnd b s) : Bnd (b + 1) (rcell J E near s i) := by
  unfold rcell
  split
  · exact h.mono (by omega)
  · exact (inner_bnd H hi (near i) s (fun _ h => h) hl (by omega) (h i) (h.mono (by omega))).2.2.2
def rcs (J E : Nat → Bool) (near : Nat → List Nat) (ls : List Int) (i : Nat) : List Int := (List.range i).foldl (rcell J E near) ls
theorem rcs_succ {ls : List Int} {i : Nat} : rcs J E near ls (i + 1) = rcell J E near (rcs J E near ls i) i := by
  unfold rcs
  rw [List.range_succ, List.foldl_append]
  rfl
theorem rcs_len {ls : List Int} {i : Nat} : (rcs J E near ls i).length = ls.length := fold_len (fun _ _ => rcell_len) _ _
theorem rcs_bnd (H : Lev J E near n src) {b : Int} {s : List Int} (hl : s.length = n) (h : Bnd b s) : ∀ i, i ≤ n → Bnd (b + (i : Int)) (rcs J E near s i)
  | 0, _ => by unfold rcs; simpa using h
  | i + 1, hi => by
    rw [rcs_succ]
    have := cell_bnd H (show i < n by omega) (rcs_len.trans hl) (rcs_bnd H hl h i (by omega))
    exact this.mono (by omega)
theorem rit_bnd (H : Lev J E near n src) : ∀ t, Bnd ((t * n : Nat) : Int) (rit J E near n src t)
  | 0 => by
    intro x
    rw [show (0 * n : Nat) = 0 by omega]
    by_cases hx : x < n
    · rw [ls0_at H.src hx]; split <;> simp
    · rw [List.getD_eq_getElem?_getD, List.getElem?_eq_none (by rw [rit_len]; omega)]
      exact Int.le_refl _
  | t + 1 => by
    have h := rcs_bnd H (rit_len t) (rit_bnd H t) n (Nat.le_refl _)
    refine Bnd.mono h ?_
    rw [Nat.succ_mul]
    omega
end Go.Proofs.Ytkgbbondafcjpaa
