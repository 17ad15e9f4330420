/- Contracts of the program and of the model, walked, part 5 of 8. No condition but what each says. -/
import Derived.Test.YtlambflmabecfaaM4
import Derived.Deep.RegionHeld3
import Derived.Deep.DeepCutAuto
import Derived.Test.YtlambflmabecfaaM1
import Derived.Test.YtlambflmabecfaaM3
import Derived.Deep.RegionLaw
namespace Go.Proofs.Ytlambflmabecfaa
open Go.ChangeShapes Go.WideShapes Go.ChangeAt Go.RowKit Go.Joins Go.Deep
set_option linter.unusedSimpArgs false
set_option linter.unusedVariables false
set_option maxRecDepth 100000
set_option maxHeartbeats 4000000
theorem okF_parts {R C : Int} {l : List (Int × Int)} {j : Int} (h : okF R C l j = true) : goodB R C l = true ∧ 0 ≤ j ∧ j < C := by
  unfold okF at h
  rw [Bool.and_eq_true, decide_eq_true_eq] at h
  exact h
theorem ret_fb {a b c a' b' c' : Int} {x y : Bool} (h1 : a = a') (h2 : b = b') (h3 : c = c') (h4 : x = y) : Ending.returned (.tuple #[.agg #[.int .i64 a, .int .i64 b, .int .i64 c], .bool x]) = .returned (.tuple #[.agg #[.int .i64 a', .int .i64 b', .int .i64 c'], .bool y]) := by rw [h1, h2, h3, h4]
def afterL (R C : Int) (l : List (Int × Int)) (j : Int) : List (Int × Int) := if okF R C l j then (marO R C l j).cells else []
theorem flG_len (nm : List Int) (r c : Nat) : ∀ (n row : Nat) (l : List (Int × Int)) (col : Nat) (side : Int) (way : List (List Nat)), (flG nm r c n row l col side way).cells.length = l.length
  | 0, _, _, _, _, _ => rfl
  | n + 1, row, l, col, side, way => by
    rw [flG_step nm r c n row l col side way _ _ rfl rfl]
    split
    · rfl
    · split
      · rw [flG_len nm r c n, passL_len]
      · exact passL_len _ _ _
theorem marO_len (R C : Int) (l : List (Int × Int)) (j : Int) : (marO R C l j).cells.length = l.length := flG_len _ _ _ _ _ _ _ _ _
theorem afterL_len (R C : Int) (l : List (Int × Int)) (j : Int) (hn : l.length ≤ 1048576) : (afterL R C l j).length ≤ 1048576 := by
  unfold afterL
  split
  · rw [marO_len]; exact hn
  · simp
end Go.Proofs.Ytlambflmabecfaa
namespace Go.Proofs.Ytlambflmabecfaa
open Go.ChangeShapes Go.WideShapes Go.ChangeAt Go.RowKit Go.Joins Go.Deep
set_option linter.unusedSimpArgs false
set_option linter.unusedVariables false
set_option maxRecDepth 100000
set_option maxHeartbeats 2000000
def inI (lo hi n : Int) : Bool := decide (lo ≤ n) && decide (n ≤ hi)
def allI (lo hi : Int) (cs : List Int) : Bool := cs.all (inI lo hi)
theorem allI_bad {lo hi : Int} {cs : List Int} {k : Nat} (hk : k < cs.length) (h : inI lo hi cs[k] = false) : allI lo hi cs = false := by
  unfold allI
  rw [List.all_eq_false]
  exact ⟨cs[k], List.getElem_mem _, by rw [h]; simp⟩
def okC' (R C : Int) (l : List (Int × Int)) (cs : List Int) : Bool := goodB R C l && decide (cs.length ≤ 60) && allI 0 (C - 1) cs
end Go.Proofs.Ytlambflmabecfaa
namespace Go.Proofs.Ytlambflmabecfaa
open Go.ChangeShapes Go.WideShapes Go.ChangeAt Go.RowKit Go.Joins Go.Deep
set_option linter.unusedSimpArgs false
set_option linter.unusedVariables false
set_option maxRecDepth 100000
set_option maxHeartbeats 4000000
theorem flG_good (nm : List Int) (r c : Nat) : ∀ (n row : Nat) (l : List (Int × Int)) (col : Nat) (side : Int) (way : List (List Nat)), l.length = r * c → row + n ≤ r → col < c → (∀ x ∈ l, good x.1 x.2 = true) → ∀ x ∈ (flG nm r c n row l col side way).cells, good x.1 x.2 = true
  | 0, _, l, _, _, _, _, _, _, h => h
  | n + 1, row, l, col, side, way, hl, hrow, hcol, h => by
    have hi : row * c + col < l.length := by
      rw [hl]
      have h1 := Nat.mul_le_mul (show row + 1 ≤ r by omega) (Nat.le_refl c)
      rw [Nat.succ_mul] at h1
      omega
    rw [flG_step nm r c n row l col side way _ _ rfl rfl]
    split
    · exact h
    · split
      · next hin => exact flG_good nm r c n (row + 1) _ _ _ _ (by rw [passL_len]; exact hl) (by omega) (by omega) (passL_good hi h)
      · exact passL_good hi h
/-- The ends of the first k marbles, and the cells after them. -/
def stA (nm : List Int) (r c : Nat) (l : List (Int × Int)) (cs : List Int) : Nat → List (Int × Int × Int) × List (Int × Int)
  | 0 => ([], l)
  | k + 1 => ((stA nm r c l cs k).1 ++ [((flG nm r c r 0 (stA nm r c l cs k).2 (cs.getD k 0).toNat 0 []).e, (flG nm r c r 0 (stA nm r c l cs k).2 (cs.getD k 0).toNat 0 []).row, (flG nm r c r 0 (stA nm r c l cs k).2 (cs.getD k 0).toNat 0 []).col)],
      (flG nm r c r 0 (stA nm r c l cs k).2 (cs.getD k 0).toNat 0 []).cells)
theorem stA_len (nm : List Int) (r c : Nat) (l : List (Int × Int)) (cs : List Int) : ∀ k, (stA nm r c l cs k).1.length = k ∧ (stA nm r c l cs k).2.length = l.length
  | 0 => ⟨rfl, rfl⟩
  | k + 1 => by
    obtain ⟨h1, h2⟩ := stA_len nm r c l cs k
    unfold stA
    exact ⟨by rw [List.length_append, h1]; rfl, by rw [flG_len]; exact h2⟩
theorem stA_good (nm : List Int) {r c : Nat} {l : List (Int × Int)} {cs : List Int} (hl : l.length = r * c) (h : ∀ x ∈ l, good x.1 x.2 = true) (hcs : ∀ k, k < cs.length → 0 ≤ cs.getD k 0 ∧ cs.getD k 0 < c) : ∀ k, k ≤ cs.length → ∀ x ∈ (stA nm r c l cs k).2, good x.1 x.2 = true
  | 0, _ => h
  | k + 1, hk => by
    have ih := stA_good nm hl h hcs k (by omega)
    have hc := hcs k (by omega)
    unfold stA
    exact flG_good nm r c r 0 _ _ _ _ (by rw [(stA_len nm r c l cs k).2]; exact hl) (by omega) (by omega) ih
/-- Rows of ends. -/
def flatF (fs : List (Int × Int × Int)) : List Value := fs.flatMap fun f => [.int .i64 f.1, .int .i64 f.2.1, .int .i64 f.2.2]
theorem flatF_len (fs : List (Int × Int × Int)) : (flatF fs).length = fs.length * 3 := by
  unfold flatF
  induction fs with
  | nil => rfl
  | cons f fs ih => rw [List.flatMap_cons, List.length_append, ih, List.length_cons]; simp; omega
theorem flatF_app (a b : List (Int × Int × Int)) : flatF (a ++ b) = flatF a ++ flatF b := by unfold flatF; rw [List.flatMap_append]
theorem fallInfo : (Try.prog.info? 59).map (fun i => (i.zero, i.size, i.bytes)) = some (some (.agg #[.int .i64 0, .int .i64 0, .int .i64 0]), 3, 24) := by kernel_rfl
theorem allI_at {lo hi : Int} {cs : List Int} (h : allI lo hi cs = true) : ∀ k, k < cs.length → lo ≤ cs.getD k 0 ∧ cs.getD k 0 ≤ hi := fun k hk => by
  unfold allI at h
  have := List.all_eq_true.1 h _ (List.getElem_mem hk)
  unfold inI at this
  rw [List.getD_eq_getElem?_getD, List.getElem?_eq_getElem hk]
  simpa using this
end Go.Proofs.Ytlambflmabecfaa
namespace Go.Proofs.Ytlambflmabecfaa
open Go.ChangeShapes Go.WideShapes Go.ChangeAt Go.RowKit Go.Joins Go.Deep
set_option linter.unusedSimpArgs false
set_option linter.unusedVariables false
set_option maxRecDepth 100000
set_option maxHeartbeats 4000000
theorem three_cells3 {w : World} {o o' : Obj} {x y z : Value} {t : TypeId} : ∀ j u, [x, y, z][j]? = some u → (((w.alloc o).alloc o').alloc (.cells #[x, y, z] t)).cell? ((⟨w.heap.size + 1 + 1, 0, none⟩ : Addr).add j) = some u := by
  intro j u h
  have hn := heap_alloc_new ((w.alloc o).alloc o') (.cells #[x, y, z] t)
  rw [World.size_alloc, World.size_alloc] at hn
  have hw : Whole (((w.alloc o).alloc o').alloc (.cells #[x, y, z] t)) (w.heap.size + 1 + 1) t [x, y, z] := hn
  have hj := hw.cell j
  rw [h] at hj
  rw [← hj]
  by_cases h0 : j = 0
  · subst h0; simp [Addr.add]
  · simp [Addr.add, h0]
theorem three_oneF {a b c : Int} : ∀ u ∈ [Value.int .i64 a, Value.int .i64 b, Value.int .i64 c], u.oneCell' = true := by
  intro u hu
  simp only [List.mem_cons, List.not_mem_nil, or_false] at hu
  rcases hu with rfl | rfl | rfl <;> rfl
theorem three_farTB {w : World} {g a : Nat} {t : TypeId} {xs : List Value} {u0 u1 : Value} {B : Option Addr} {n cp : Nat} (h : Whole w g t xs) (hw : Whole w a 39 [.int .i64 0, .int .i64 0, .slice none 0 0]) (hne : t ≠ 39) : Whole (((w.setCell ⟨a, 0, none⟩ u0).setCell ⟨a, 1, none⟩ u1).setCell ⟨a, 2, none⟩ (.slice B n cp)) g t xs := by
  refine three_far h (fun e => ?_)
  subst e
  unfold Whole at h hw
  rw [h] at hw
  injection hw with hw
  injection hw with _ ht
  exact hne ht
theorem far_of {w : World} {g a : Nat} {t t' : TypeId} {xs ys : List Value} (h : Whole w g t xs) (hw : Whole w a t' ys) (hne : t ≠ t') : a ≠ g := by
  rintro rfl
  unfold Whole at h hw
  rw [h] at hw
  injection hw with hw
  injection hw with _ ht
  exact hne ht
theorem row_setFarW {w : World} {base : Nat} {e : TypeId} {size n : Nat} {v : Value} {xs : List Value} (h : w.ownsRow base e size v n xs) (p : Addr) (u : Value) (hne : some p.block ≠ v.ownBlock) : (w.setCell p u).ownsRow base e size v n xs := by
  refine ⟨h.1, ?_⟩
  rcases h.2 with h2 | ⟨g, cap, cur, rfl, h2, hh, h3⟩
  · exact .inl h2
  · have hne' : g ≠ p.block := fun e' => hne (by simp [Value.ownBlock, e'])
    exact .inr ⟨g, cap, cur, rfl, h2, (Below.heap_setCell w p u g hne').trans hh, h3⟩
end Go.Proofs.Ytlambflmabecfaa
namespace Go.Proofs.Ytlambflmabecfaa
open Go.ChangeShapes Go.WideShapes Go.ChangeAt Go.RowKit Go.Joins Go.Deep
set_option linter.unusedSimpArgs false
set_option linter.unusedVariables false
set_option maxRecDepth 100000
set_option maxHeartbeats 4000000
theorem okC'_parts {R C : Int} {l : List (Int × Int)} {cs : List Int} (h : okC' R C l cs = true) : goodB R C l = true ∧ cs.length ≤ 60 ∧ allI 0 (C - 1) cs = true := by
  unfold okC' at h
  simp only [Bool.and_eq_true, decide_eq_true_eq] at h
  exact ⟨h.1.1, h.1.2, h.2⟩
theorem row_base {w : World} {base base' : Nat} {e : TypeId} {size n : Nat} {v : Value} {xs : List Value} (h : w.ownsRow base e size v n xs) (hb : base' ≤ base) : w.ownsRow base' e size v n xs :=
  ⟨h.1, h.2.imp_right fun ⟨g, cap, cur, e1, e2, e3⟩ => ⟨g, cap, cur, e1, Nat.le_trans hb e2, e3⟩⟩
def fallsO (R C : Int) (l : List (Int × Int)) (cs : List Int) : List (Int × Int × Int) × List (Int × Int) := if okC' R C l cs then stA (numL C.toNat l) R.toNat C.toNat l cs cs.length else ([], [])
end Go.Proofs.Ytlambflmabecfaa
namespace Go.Proofs.Ytlambflmabecfaa
open Go.ChangeShapes Go.WideShapes Go.ChangeAt Go.RowKit Go.Joins Go.Deep
set_option linter.unusedSimpArgs false
set_option linter.unusedVariables false
set_option maxRecDepth 100000
set_option maxHeartbeats 4000000
def colsTo (R C : Int) (l : List (Int × Int)) (j : Int) : Nat → List Int
  | 0 => []
  | k + 1 => if (marO R C l k).e = 1 then (if (marO R C l k).col = j then colsTo R C l j k ++ [(k : Int)] else colsTo R C l j k) else colsTo R C l j k
theorem colsTo_le (R C : Int) (l : List (Int × Int)) (j : Int) (k : Nat) : (colsTo R C l j k).length ≤ k := by
  induction k with
  | zero => exact Nat.le_refl 0
  | succ k ih =>
    unfold colsTo
    split
    · split
      · rw [List.length_append, List.length_singleton]; omega
      · omega
    · omega
theorem colsTo_yes {R C : Int} {l : List (Int × Int)} {j : Int} {k : Nat} (h : (marO R C l k).e = 1) (h' : (marO R C l k).col = j) : ints (colsTo R C l j (k + 1)) = ints (colsTo R C l j k) ++ [.int .i64 (k : Int)] ∧ (colsTo R C l j (k + 1)).length = (colsTo R C l j k).length + 1 := by
  have e : colsTo R C l j (k + 1) = colsTo R C l j k ++ [(k : Int)] := by
    rw [colsTo, if_pos h, if_pos h']
  rw [e]
  simp [ints]
theorem colsTo_no {R C : Int} {l : List (Int × Int)} {j : Int} {k : Nat} (h : ¬ ((marO R C l k).e = 1 ∧ (marO R C l k).col = j)) : colsTo R C l j (k + 1) = colsTo R C l j k := by
  rw [colsTo]
  by_cases h1 : (marO R C l k).e = 1
  · rw [if_pos h1, if_neg (fun h2 => h ⟨h1, h2⟩)]
  · rw [if_neg h1]
def colsO (R C : Int) (l : List (Int × Int)) (j : Int) : List Int := if okF R C l j then colsTo R C l j C.toNat else []
end Go.Proofs.Ytlambflmabecfaa
namespace Go.Proofs.Ytlambflmabecfaa
open Go.ChangeShapes Go.WideShapes Go.ChangeAt Go.RowKit Go.Joins Go.Deep
set_option linter.unusedSimpArgs false
set_option linter.unusedVariables false
set_option maxRecDepth 100000
set_option maxHeartbeats 4000000
theorem heldFall : Try.prog.stoodInHeld 59 = false := by kernel_rfl
theorem guardFall : Try.prog.eqGuardType Try.prog.depth 59 = false := by kernel_rfl
def feq (R C : Int) (l : List (Int × Int)) (R' C' : Int) (m : List (Int × Int)) (k : Nat) : Bool := decide ((marO R C l k).e = (marO R' C' m k).e ∧ (marO R C l k).row = (marO R' C' m k).row ∧ (marO R C l k).col = (marO R' C' m k).col)
def feqTo (R C : Int) (l : List (Int × Int)) (R' C' : Int) (m : List (Int × Int)) : Nat → Bool
  | 0 => true
  | k + 1 => feqTo R C l R' C' m k && feq R C l R' C' m k
theorem feqTo_no {R C : Int} {l : List (Int × Int)} {R' C' : Int} {m : List (Int × Int)} {k : Nat} (h : feq R C l R' C' m k = false) : ∀ n, k < n → feqTo R C l R' C' m n = false
  | n + 1, hn => by
    rw [feqTo]
    by_cases hk : k = n
    · subst hk; rw [h, Bool.and_false]
    · rw [feqTo_no h n (by omega), Bool.false_and]
theorem feqTo_yes {R C : Int} {l : List (Int × Int)} {R' C' : Int} {m : List (Int × Int)} {k : Nat} (hF : feqTo R C l R' C' m k = true) (h : (marO R C l k).e = (marO R' C' m k).e ∧ (marO R C l k).row = (marO R' C' m k).row ∧ (marO R C l k).col = (marO R' C' m k).col) : feqTo R C l R' C' m (k + 1) = true := by
  rw [feqTo, hF, Bool.true_and]
  exact decide_eq_true h
theorem feqTo_not {R C : Int} {l : List (Int × Int)} {R' C' : Int} {m : List (Int × Int)} {k n : Nat} (hk : k < n) (h : ¬ ((marO R C l k).e = (marO R' C' m k).e ∧ (marO R C l k).row = (marO R' C' m k).row ∧ (marO R C l k).col = (marO R' C' m k).col)) : feqTo R C l R' C' m n = false :=
  feqTo_no (decide_eq_false h) n hk
def okS (R C : Int) (l : List (Int × Int)) (R' C' : Int) (m : List (Int × Int)) : Bool := goodB R C l && goodB R' C' m && decide (C = C')
def sameF (R C : Int) (l : List (Int × Int)) (R' C' : Int) (m : List (Int × Int)) : Bool := okS R C l R' C' m && feqTo R C l R' C' m C.toNat
theorem ret_bb {x y x' y' : Bool} (h : x = x') (h' : y = y') : Ending.returned (.tuple #[.bool x, .bool y]) = .returned (.tuple #[.bool x', .bool y']) := by rw [h, h']
end Go.Proofs.Ytlambflmabecfaa
namespace Go.Proofs.Ytlambflmabecfaa
open Go.ChangeShapes Go.WideShapes Go.ChangeAt Go.RowKit Go.Joins Go.Deep
set_option linter.unusedSimpArgs false
set_option linter.unusedVariables false
set_option maxRecDepth 100000
set_option maxHeartbeats 4000000
def okD (R C : Int) (l : List (Int × Int)) (R' C' : Int) (m : List (Int × Int)) (cs : List Int) : Bool := okC' R C l cs && goodB R' C' m && decide (C = C')
def firstAt (x y : List (Int × Int × Int)) : Nat → Nat → Option Nat
  | 0, _ => none
  | n + 1, k => if x.getD k (0, 0, 0) = y.getD k (0, 0, 0) then firstAt x y n (k + 1) else some k
theorem firstAt_same {x y : List (Int × Int × Int)} {n k : Nat} (h : k < n) (e : x.getD k (0, 0, 0) = y.getD k (0, 0, 0)) : firstAt x y (n - k) k = firstAt x y (n - (k + 1)) (k + 1) := by
  obtain ⟨d, hd⟩ : ∃ d, n - k = d + 1 := ⟨n - k - 1, by omega⟩
  rw [hd, firstAt, if_pos e, show n - (k + 1) = d by omega]
theorem firstAt_diff {x y : List (Int × Int × Int)} {n k : Nat} (h : k < n) (e : ¬ x.getD k (0, 0, 0) = y.getD k (0, 0, 0)) : firstAt x y (n - k) k = some k := by
  obtain ⟨d, hd⟩ : ∃ d, n - k = d + 1 := ⟨n - k - 1, by omega⟩
  rw [hd, firstAt, if_neg e]
theorem flatF_at (x : List (Int × Int × Int)) : ∀ k, k < x.length → (flatF x)[k * 3]? = some (.int .i64 (x.getD k (0, 0, 0)).1) ∧ (flatF x)[k * 3 + 1]? = some (.int .i64 (x.getD k (0, 0, 0)).2.1) ∧ (flatF x)[k * 3 + 2]? = some (.int .i64 (x.getD k (0, 0, 0)).2.2) := by
  induction x with
  | nil => intro k h; simp at h
  | cons a x ih =>
    intro k h
    have e : flatF (a :: x) = .int .i64 a.1 :: .int .i64 a.2.1 :: .int .i64 a.2.2 :: flatF x := rfl
    rw [e]
    cases k with
    | zero => exact ⟨rfl, rfl, rfl⟩
    | succ k =>
      obtain ⟨h0, h1, h2⟩ := ih k (by simpa using h)
      rw [show (k + 1) * 3 = k * 3 + 1 + 1 + 1 by omega]
      exact ⟨h0, h1, h2⟩
theorem row_fall {w : World} {base n cap k : Nat} {A : Option Addr} {x : List (Int × Int × Int)} (h : w.ownsRow base 59 3 (.slice A n cap) n (flatF x)) (hl : x.length = n) (hk : k < n) : ∃ g, A = some ⟨g, 0, none⟩ ∧ g < w.heap.size ∧ w.cell? ⟨g, k * 3, none⟩ = some (.int .i64 (x.getD k (0, 0, 0)).1) ∧ w.cell? ⟨g, k * 3 + 1, none⟩ = some (.int .i64 (x.getD k (0, 0, 0)).2.1) ∧ w.cell? ⟨g, k * 3 + 2, none⟩ = some (.int .i64 (x.getD k (0, 0, 0)).2.2) := by
  have ho := (own_of_row h).1
  obtain ⟨g, rest, rfl, X⟩ := ho (by rw [flatF_len]; omega)
  obtain ⟨h0, h1, h2⟩ := flatF_at x k (by omega)
  have hlen := flatF_len x
  refine ⟨g, rfl, X.lt, (X.cell _).trans ?_, (X.cell _).trans ?_, (X.cell _).trans ?_⟩
  · rw [List.getElem?_append_left (by omega)]; exact h0
  · rw [List.getElem?_append_left (by omega)]; exact h1
  · rw [List.getElem?_append_left (by omega)]; exact h2
def firstD (R C : Int) (l : List (Int × Int)) (R' C' : Int) (m : List (Int × Int)) (cs : List Int) : Option Nat := if okD R C l R' C' m cs then firstAt (stA (numL C.toNat l) R.toNat C.toNat l cs cs.length).1 (stA (numL C'.toNat m) R'.toNat C'.toNat m cs cs.length).1 cs.length 0 else none
end Go.Proofs.Ytlambflmabecfaa
namespace Go.Proofs.Ytlambflmabecfaa
open Go.ChangeShapes Go.WideShapes Go.ChangeAt Go.RowKit Go.Joins Go.Deep
set_option linter.unusedSimpArgs false
set_option linter.unusedVariables false
set_option maxRecDepth 100000
set_option maxHeartbeats 4000000
theorem field_kind (a b : Value) (w : World) : (Instr.field 104 (.agg #[a, b]) 0).run Try.prog w = .ok a w := by kernel_rfl
theorem spec_ggGroupsN (r c : Nat) (A : Option Addr) (cap : Nat) (l : List (Int × Int)) (w : World) (hG : Geo r c l.length) (hr : Rd w w.heap.size A (flat l)) :
    Calls Try.prog 82 #[.agg #[.int .i64 (r : Int), .int .i64 (c : Int), .slice A l.length cap]] w fun e w' => ∃ A' cap', e = .returned (.slice A' l.length cap') ∧ Own w' A' 3 (ints (numL c l)) ∧ New w A' ∧ Below w.heap.size w w' :=
  (spec_ggGroups r c A cap l w hG hr).mono fun e w' h => by
    obtain ⟨A', cap', rfl, a, b, d⟩ := h
    exact ⟨A', cap', by rw [numL_len], a, b, d⟩
def okT (R C : Int) (l : List (Int × Int)) (i j : Int) : Bool := hasB R C l i j && gearK l (atI C i j)
def turnG (R C : Int) (l : List (Int × Int)) (i j : Int) : List (Int × Int) := if okT R C l i j then tnS l (isIn C l (nmb C l (atI C i j))) else []
theorem turnG_len (R C : Int) (l : List (Int × Int)) (i j : Int) (h : l.length ≤ 1048576) : (turnG R C l i j).length ≤ 1048576 := by
  unfold turnG
  split
  · rw [tnS_len]; exact h
  · simp
theorem turnG_post {w w' : World} {R C : Int} {l : List (Int × Int)} {i j : Int} {e : Ending} {ok : Bool} (h : okT R C l i j = ok) (hp : if ok then PostB w R C (tnS l (isIn C l (nmb C l (atI C i j)))) true e w' else PostB w 0 0 [] false e w') :
    PostB w (selI (okT R C l i j) R) (selI (okT R C l i j) C) (turnG R C l i j) (okT R C l i j) e w' := by
  unfold turnG
  rw [h]
  cases ok
  · exact hp
  · exact hp
end Go.Proofs.Ytlambflmabecfaa
namespace Go.Proofs.Ytlambflmabecfaa
open Go.ChangeShapes Go.WideShapes Go.ChangeAt Go.RowKit Go.Joins Go.Deep
set_option linter.unusedSimpArgs false
set_option linter.unusedVariables false
set_option maxRecDepth 100000
set_option maxHeartbeats 4000000
theorem impl_groupWithN (r c : Nat) (A : Option Addr) (cap : Nat) (l : List (Int × Int)) (i : Nat) (w : World) (hG : Geo r c l.length) (hr : Rd w w.heap.size A (flat l)) (hi : i < l.length) (hJ : J l i = true) :
    Calls Try.prog 104 #[.agg #[.int .i64 (r : Int), .int .i64 (c : Int), .slice A l.length cap], .int .i64 (i : Int)] w fun e w' => ∃ A' cap', e = .returned (.slice A' (grpL (c : Int) l i).length cap') ∧ Own w' A' 3 (ints (nI (grpL (c : Int) l i))) ∧ New w A' ∧ Below w.heap.size w w' :=
  (impl_groupWith r c A cap l i w hG hr hi hJ).mono fun e w' h => by
    rw [grp_of_cell hG hi hJ] at h
    obtain ⟨A', cap', rfl, a, b, d⟩ := h
    exact ⟨A', cap', by rw [nI_length], a, b, d⟩
theorem impl_gearsAmongN (R C : Int) (A : Option Addr) (cap : Nat) (l : List (Int × Int)) (A1 : Option Addr) (cap1 : Nat) (q : List Nat) (w : World) (hr : Rd w w.heap.size A (flat l)) (hq : q.length ≤ 1048576) (hx : ∀ x ∈ q, x < l.length) (h1 : Rd w w.heap.size A1 (ints (nI q))) :
    Calls Try.prog 103 #[.agg #[.int .i64 R, .int .i64 C, .slice A l.length cap], .slice A1 q.length cap1] w fun e w' => ∃ A' cap', e = .returned (.slice A' (q.filter (gearK l)).length cap') ∧ Own w' A' 3 (ints (nI (q.filter (gearK l)))) ∧ New w A' ∧ Below w.heap.size w w' :=
  (impl_gearsAmong R C A cap l A1 cap1 q w hr hq hx h1).mono fun e w' h => by
    obtain ⟨A', cap', rfl, a, b, d⟩ := h
    exact ⟨A', cap', by rw [nI_length], a, b, d⟩
def gearsOf (C : Int) (l : List (Int × Int)) (k : Nat) : List Nat := (grpL C l k).filter (gearK l)
theorem gearsOf_at {C : Int} {l : List (Int × Int)} {k j : Nat} (hj : j < (gearsOf C l k).length) :
    (gearsOf C l k)[j] < l.length ∧ gearK l (gearsOf C l k)[j] = true ∧ (gearsOf C l k)[j] ∉ (gearsOf C l k).take j := by
  have hm := List.getElem_mem hj
  have hp : (gearsOf C l k).Pairwise (· < ·) := (List.pairwise_lt_range.filter _).filter _
  refine ⟨?_, ?_, fun h => ?_⟩
  · exact List.mem_range.1 (List.mem_filter.1 (List.mem_filter.1 hm).1).1
  · exact (List.mem_filter.1 hm).2
  · rw [List.mem_iff_getElem] at h
    obtain ⟨i, hi, hie⟩ := h
    rw [List.getElem_take] at hie
    rw [List.length_take] at hi
    have := List.pairwise_iff_getElem.1 hp i j (by omega) hj (by omega)
    omega
theorem gearsOf_len (C : Int) (l : List (Int × Int)) (k : Nat) : (gearsOf C l k).length ≤ l.length := by
  have h1 := List.length_filter_le (gearK l) (grpL C l k)
  have h2 := grpL_len C l k
  unfold gearsOf
  omega
theorem grpL_lt (C : Int) (l : List (Int × Int)) (k : Nat) : ∀ x ∈ grpL C l k, x < l.length := fun x hx => List.mem_range.1 (List.mem_filter.1 hx).1
def inTake (gs : List Nat) (j : Nat) (x : Nat) : Bool := (gs.take j).contains x
theorem inTake_step {l : List (Int × Int)} {gs : List Nat} {j : Nat} (hj : j < gs.length) (hx : gs[j] < l.length) :
    (tnS l (inTake gs j)).set gs[j] ((l.getD gs[j] (0, 0)).1, 1 - (l.getD gs[j] (0, 0)).2) = tnS l (inTake gs (j + 1)) := by
  refine tnS_set hx fun x _ => ?_
  unfold inTake
  rw [List.take_succ_eq_append_getElem hj, List.contains_eq_any_beq, List.contains_eq_any_beq, List.any_append]
  simp [eq_comm]
theorem inTake_zero {l : List (Int × Int)} {gs : List Nat} : tnS l (inTake gs 0) = l := by
  rw [show tnS l (inTake gs 0) = tnS l (fun _ => false) from tnS_congr fun x _ => by simp [inTake]]
  exact tnS_none
theorem inTake_all {C : Int} {l : List (Int × Int)} {k : Nat} : tnS l (inTake (gearsOf C l k) (gearsOf C l k).length) = tnS l (isIn C l (nmb C l k)) := by
  refine tnS_congr fun x hx => ?_
  unfold inTake isIn gearsOf grpL
  rw [List.take_length, Bool.eq_iff_iff, List.contains_iff_mem, List.mem_filter, List.mem_filter, List.mem_range, Bool.and_eq_true]
  exact ⟨fun h => ⟨h.1.2, h.2⟩, fun h => ⟨⟨hx, h.1⟩, h.2⟩⟩
theorem okT_join {R C : Int} {l : List (Int × Int)} {i j : Int} (h : okT R C l i j = true) : okJ R C l i j = true := by
  unfold okT at h
  rw [Bool.and_eq_true] at h
  unfold okJ
  rw [h.1, Bool.true_and]
  have h2 := h.2
  unfold gearK at h2
  rw [decide_eq_true_eq] at h2
  rw [h2]
  rfl
end Go.Proofs.Ytlambflmabecfaa
namespace Go.Proofs.Ytlambflmabecfaa
open Go.ChangeShapes Go.WideShapes Go.ChangeAt Go.RowKit Go.Joins Go.Deep
set_option linter.unusedSimpArgs false
set_option linter.unusedVariables false
set_option maxRecDepth 100000
set_option maxHeartbeats 1000000
theorem numL_congr {c : Nat} {l l' : List (Int × Int)} (hlen : l.length = l'.length) (hk : ∀ x, (l.getD x (0, 0)).1 = (l'.getD x (0, 0)).1) : numL c l = numL c l' := by
  unfold numL
  rw [show J l = J l' from funext fun x => by unfold J; rw [hk], hlen]
theorem tnS_kind {l : List (Int × Int)} {S : Nat → Bool} (x : Nat) : ((tnS l S).getD x (0, 0)).1 = (l.getD x (0, 0)).1 := by
  by_cases hx : x < l.length
  · have h1 : x < (tnS l S).length := by rw [tnS_len]; exact hx
    rw [List.getD_eq_getElem?_getD, List.getElem?_eq_getElem h1]
    show ((tnS l S)[x]).1 = _
    rw [tnS_at h1]
    split <;> rfl
  · have h1 : (tnS l S).getD x (0, 0) = (0, 0) := by rw [List.getD_eq_getElem?_getD, List.getElem?_eq_none (by rw [tnS_len]; omega)]; rfl
    have h2 : l.getD x (0, 0) = (0, 0) := by rw [List.getD_eq_getElem?_getD, List.getElem?_eq_none (by omega)]; rfl
    rw [h1, h2]
theorem passL_kind (nm : List Int) (l : List (Int × Int)) (i x : Nat) : ((passL nm l i).getD x (0, 0)).1 = (l.getD x (0, 0)).1 := by
  unfold passL
  split
  · rw [List.getD_eq_getElem?_getD, List.getElem?_set]
    by_cases e : i = x
    · subst e
      rw [if_pos rfl]
      by_cases hi : i < l.length
      · rw [if_pos hi, List.getD_eq_getElem?_getD]; rfl
      · rw [if_neg hi, List.getD_eq_getElem?_getD, List.getElem?_eq_none (by omega)]
    · rw [if_neg e, List.getD_eq_getElem?_getD]
  · split
    · exact tnS_kind x
    · rfl
theorem passL_num (c : Nat) (nm : List Int) (l : List (Int × Int)) (i : Nat) : numL c (passL nm l i) = numL c l :=
  numL_congr (passL_len nm l i) (passL_kind nm l i)
theorem numL_getD {c : Nat} {l : List (Int × Int)} {k : Nat} (hk : k < l.length) : (numL c l).getD k 0 = nmb (c : Int) l k := by
  have h := numL_at (c := c) hk
  unfold ints at h
  rw [List.getElem?_map] at h
  rw [List.getD_eq_getElem?_getD]
  cases he : (numL c l)[k]? with
  | none => rw [he] at h; simp at h
  | some v => rw [he] at h; simpa using h
theorem passL_gear {c : Nat} {l : List (Int × Int)} {i : Nat} (hi : i < l.length) (h6 : (l.getD i (0, 0)).1 = 6) : passL (numL c l) l i = tnS l (isIn (c : Int) l (nmb (c : Int) l i)) := by
  unfold passL
  rw [if_neg (by rw [h6]; decide), if_pos h6]
  refine tnS_congr fun x hx => ?_
  unfold pin isIn
  rw [numL_getD hx, numL_getD hi]
theorem passL_flip {nm : List Int} {l : List (Int × Int)} {i : Nat} (h3 : (l.getD i (0, 0)).1 = 3) : passL nm l i = l.set i (3, 1 - (l.getD i (0, 0)).2) := by
  unfold passL
  rw [if_pos h3, h3]
theorem passL_none {nm : List Int} {l : List (Int × Int)} {i : Nat} (h3 : (l.getD i (0, 0)).1 ≠ 3) (h6 : (l.getD i (0, 0)).1 ≠ 6) : passL nm l i = l := by
  unfold passL
  rw [if_neg h3, if_neg h6]
end Go.Proofs.Ytlambflmabecfaa
namespace Go.Proofs.Ytlambflmabecfaa
open Go.ChangeShapes Go.WideShapes Go.ChangeAt Go.RowKit Go.Joins Go.Deep
set_option linter.unusedSimpArgs false
set_option linter.unusedVariables false
set_option maxRecDepth 100000
set_option maxHeartbeats 4000000
theorem three_farC {w : World} {g a : Nat} {t : TypeId} {xs : List Value} {u0 u1 u2 : Value} (h : Whole w g t xs) (ne : a ≠ g) : Whole (((w.setCell ⟨a, 0, none⟩ u0).setCell ⟨a, 1, none⟩ u1).setCell ⟨a, 2, none⟩ u2) g t xs :=
  ((h.set_far ⟨a, 0, none⟩ u0 ne).set_far ⟨a, 1, none⟩ u1 ne).set_far ⟨a, 2, none⟩ u2 ne
theorem impl_cloneBoard (R C : Int) (b o cap : Nat) (l : List (Int × Int)) (w : World) (hn : l.length ≤ 1048576) (hr : Rd w w.heap.size (some ⟨b, o, none⟩) (flat l)) :
    Calls Try.prog 69 #[.agg #[.int .i64 R, .int .i64 C, .slice (some ⟨b, o, none⟩) l.length cap]] w (PostD w R C l) := by
  go_enter Try.func69, Try.ntmps69
  obtain ⟨v0, hv0, X0, X1, B0, hz0⟩ := two_boxes w [.int .i64 R, .int .i64 C, .slice (some ⟨b, o, none⟩) l.length cap] 39 [.int .i64 0, .int .i64 0, .slice none 0 0] 39; have HV := Lib.hid hv0; have hz : w.heap.size + 1 < v0.heap.size := (by omega); have hy : w.heap.size < v0.heap.size := (by omega); have hb0 := B0.size; clear hv0 hz0; go_wp2_with fail; rewrite [show (w.alloc (.cells ([.int .i64 R, .int .i64 C, .slice (some ⟨b, o, none⟩) l.length cap] : List Value).toArray 39)).alloc (.cells ([.int .i64 0, .int .i64 0, .slice none 0 0] : List Value).toArray 39) = v0 from HV.out]; clear HV
  have k0 : v0.cell? ⟨w.heap.size, 0, none⟩ = some (.int .i64 R) := (X0.cell 0).trans rfl
  have k1 : v0.cell? ⟨w.heap.size, 1, none⟩ = some (.int .i64 C) := (X0.cell 1).trans rfl
  have k2 : v0.cell? ⟨w.heap.size, 2, none⟩ = some (.slice (some ⟨b, o, none⟩) l.length cap) := (X0.cell 2).trans rfl
  have KS := Lib.hid (fun (w' : World) (h : Below v0.heap.size v0 w') => (⟨(h.cell (p := ⟨w.heap.size, 0, none⟩) hy).trans k0, (h.cell (p := ⟨w.heap.size, 1, none⟩) hy).trans k1, (h.cell (p := ⟨w.heap.size, 2, none⟩) hy).trans k2⟩ : w'.cell? ⟨w.heap.size, 0, none⟩ = some (.int .i64 R) ∧ w'.cell? ⟨w.heap.size, 1, none⟩ = some (.int .i64 C) ∧ w'.cell? ⟨w.heap.size, 2, none⟩ = some (.slice (some ⟨b, o, none⟩) l.length cap)))
  have KS2 := Lib.hid (fun (w' : World) (u u' u2 : Value) (h : Below v0.heap.size v0 w') => (⟨((three_farC (u0 := u) (u1 := u') (u2 := u2) (X0.below h X0.lt) (show w.heap.size + 1 ≠ w.heap.size by omega)).cell 0).trans rfl, ((three_farC (u0 := u) (u1 := u') (u2 := u2) (X0.below h X0.lt) (show w.heap.size + 1 ≠ w.heap.size by omega)).cell 1).trans rfl, ((three_farC (u0 := u) (u1 := u') (u2 := u2) (X0.below h X0.lt) (show w.heap.size + 1 ≠ w.heap.size by omega)).cell 2).trans rfl⟩ : (((w'.setCell ⟨w.heap.size + 1, 0, none⟩ u).setCell ⟨w.heap.size + 1, 1, none⟩ u').setCell ⟨w.heap.size + 1, 2, none⟩ u2).cell? ⟨w.heap.size, 0, none⟩ = some (.int .i64 R) ∧ (((w'.setCell ⟨w.heap.size + 1, 0, none⟩ u).setCell ⟨w.heap.size + 1, 1, none⟩ u').setCell ⟨w.heap.size + 1, 2, none⟩ u2).cell? ⟨w.heap.size, 1, none⟩ = some (.int .i64 C) ∧ (((w'.setCell ⟨w.heap.size + 1, 0, none⟩ u).setCell ⟨w.heap.size + 1, 1, none⟩ u').setCell ⟨w.heap.size + 1, 2, none⟩ u2).cell? ⟨w.heap.size, 2, none⟩ = some (.slice (some ⟨b, o, none⟩) l.length cap)))
  clear k0 k1 k2
  go_region_held3 (fun w' => w'.cell? ⟨w.heap.size, 0, none⟩ = some (.int .i64 R) ∧ w'.cell? ⟨w.heap.size, 1, none⟩ = some (.int .i64 C) ∧ w'.cell? ⟨w.heap.size, 2, none⟩ = some (.slice (some ⟨b, o, none⟩) l.length cap))
    (first | exact KS2.out w2 _ _ _ bb | exact KS.out _ (by (repeat' (first | (with_reducible exact Below.refl _ _) | (with_reducible assumption) | (with_reducible refine Below.alloc ?_ ?_ _) | (with_reducible refine Below.setCell ?_ ?_ _) | (with_reducible refine Below.drew ?_) | (with_reducible refine below_drewN ?_ _) | (with_reducible refine Below.trans ?_ (Below.mono (by assumption) ?_)) | go_size))) | fail)
    ((first
      | (go_at_call 77; (with_reducible refine (Clone_any b o cap l _ hn ?_).mono ?_); (focus exact (hr.below (B0.trans ((by (repeat' (first | (with_reducible exact Below.refl _ _) | (with_reducible assumption) | (with_reducible refine Below.alloc ?_ ?_ _) | (with_reducible refine Below.setCell ?_ ?_ _) | (with_reducible refine Below.drew ?_) | (with_reducible refine below_drewN ?_ _) | (with_reducible refine Below.trans ?_ (Below.mono (by assumption) ?_)) | go_size)) : Below v0.heap.size v0 _).mono B0.size))).mono (Nat.le_trans B0.size (by (repeat' (first | (with_reducible exact Below.refl _ _) | (with_reducible assumption) | (with_reducible refine Below.alloc ?_ ?_ _) | (with_reducible refine Below.setCell ?_ ?_ _) | (with_reducible refine Below.drew ?_) | (with_reducible refine below_drewN ?_ _) | (with_reducible refine Below.trans ?_ (Below.mono (by assumption) ?_)) | go_size)) : Below v0.heap.size v0 _).size)); rintro e w2 ⟨A5, c5, rfl, o5, n5, b2⟩; have bb : Below v0.heap.size v0 w2 := (by (repeat' (first | (with_reducible exact Below.refl _ _) | (with_reducible assumption) | (with_reducible refine Below.alloc ?_ ?_ _) | (with_reducible refine Below.setCell ?_ ?_ _) | (with_reducible refine Below.drew ?_) | (with_reducible refine below_drewN ?_ _) | (with_reducible refine Below.trans ?_ (Below.mono (by assumption) ?_)) | go_size))); have s2 : v0.heap.size ≤ w2.heap.size := bb.size; have Z := X1.below bb X1.lt; have Zk0 : w2.cell? ⟨w.heap.size + 1, 0, none⟩ = some (.int .i64 0) := (Z.cell 0).trans rfl; have Zk1 : w2.cell? ⟨w.heap.size + 1, 1, none⟩ = some (.int .i64 0) := (Z.cell 1).trans rfl; have Zk2 : w2.cell? ⟨w.heap.size + 1, 2, none⟩ = some (.slice none 0 0) := (Z.cell 2).trans rfl; have Zf0 := Z.frozen 0; have Zf1 := Z.frozen 1; have Zf2 := Z.frozen 2; replace n5 : New v0 A5 := n5.mono (by (repeat' (first | (with_reducible exact Below.refl _ _) | (with_reducible assumption) | (with_reducible refine Below.alloc ?_ ?_ _) | (with_reducible refine Below.setCell ?_ ?_ _) | (with_reducible refine Below.drew ?_) | (with_reducible refine below_drewN ?_ _) | (with_reducible refine Below.trans ?_ (Below.mono (by assumption) ?_)) | go_size)) : Below v0.heap.size v0 _).size)
      | fail))
  all_goals go_wp2
  all_goals (refine bodyPost_ret (v := .agg #[.int .i64 R, .int .i64 C, .slice A5 l.length c5]) ?_ rfl ?_; (focus (simp [results, Try.results69, go_sem, *]; done)))
  all_goals (have hap : ∀ a, A5 = some a → w.heap.size + 1 ≠ a.block := fun a ha => by have h := n5 a ha; omega)
  all_goals exact PostD.mk (((o5.set_far ⟨w.heap.size + 1, 0, none⟩ _ hap).set_far ⟨w.heap.size + 1, 1, none⟩ _ hap).set_far ⟨w.heap.size + 1, 2, none⟩ _ hap) (fun a ha => by have h := n5 a ha; omega) (by have b3 := B0.trans (bb.mono B0.size); exact ((b3.setCell (p := ⟨w.heap.size + 1, 0, none⟩) (by show w.heap.size ≤ w.heap.size + 1; omega) _).setCell (p := ⟨w.heap.size + 1, 1, none⟩) (by show w.heap.size ≤ w.heap.size + 1; omega) _).setCell (p := ⟨w.heap.size + 1, 2, none⟩) (by show w.heap.size ≤ w.heap.size + 1; omega) _)
end Go.Proofs.Ytlambflmabecfaa
namespace Go.Proofs.Ytlambflmabecfaa
open Go.ChangeShapes Go.WideShapes Go.ChangeAt Go.RowKit Go.Joins Go.Deep
set_option linter.unusedSimpArgs false
set_option linter.unusedVariables false
set_option maxRecDepth 100000
set_option maxHeartbeats 8000000
theorem Whole.rdA {w : World} {g : Nat} {t : TypeId} {xs rest : List Value} (h : Whole w g t (xs ++ rest)) : Rd w w.heap.size (some ⟨g, 0, none⟩) xs := Own.rd (t := t) (fun _ => ⟨g, rest, rfl, h⟩)
theorem impl_TurnCell_ok (a b : Int) (h : good a b = true) (ht : a = 3 ∨ a = 6) (w : World) :
    Calls Try.prog 94 #[.agg #[.int .i64 a, .int .i64 b]] w fun e w' => e = .returned (.tuple #[.agg #[.int .i64 a, .int .i64 (1 - b)], .bool true]) ∧ Below w.heap.size w w' :=
  (impl_TurnCell a b w).mono fun e w' ⟨h1, h2⟩ => ⟨by
    rw [h1, h]
    rcases ht with rfl | rfl <;> rfl, h2⟩
theorem impl_turnGroup (r c g5 cap : Nat) (l : List (Int × Int)) (rest5 : List Value) (i : Nat) (w : World) (hG : Geo r c l.length) (hi : i < l.length) (h6 : (l.getD i (0, 0)).1 = 6) (hn : l.length ≤ 1048576) (hgd : ∀ x ∈ l, good x.1 x.2 = true)
    (X7 : Whole w g5 104 (flat l ++ rest5)) :
    Calls Try.prog 95 #[.agg #[.int .i64 (r : Int), .int .i64 (c : Int), .slice (some ⟨g5, 0, none⟩) l.length cap], .int .i64 (i : Int)] w
      fun e w' => e = .returned (.tuple #[]) ∧ Whole w' g5 104 (flat (passL (numL c l) l i) ++ rest5) ∧ w.grownBy w' (some g5) := by
  have HJ := Lib.hid (show J l i = true by unfold J; rw [h6]; rfl)
  have HGood := Lib.hid (fun k (hk : k < l.length) => hgd _ (List.getElem_mem hk))
  have HP := Lib.hid ((passL_gear (c := c) hi h6).trans inTake_all.symm)
  clear hgd h6
  go_enter Try.func95, Try.ntmps95
  obtain ⟨v0, hv0⟩ : ∃ v, v = w.alloc (.cells #[.int .i64 (r : Int), .int .i64 (c : Int), .slice (some ⟨g5, 0, none⟩) l.length cap] 39) := ⟨_, rfl⟩
  have X0 : Whole v0 w.heap.size 39 [.int .i64 (r : Int), .int .i64 (c : Int), .slice (some ⟨g5, 0, none⟩) l.length cap] := by rw [hv0]; exact heap_alloc_new w _
  have hb : Below w.heap.size w v0 := by rw [hv0]; exact (Below.refl _ _).alloc (Nat.le_refl _) _
  have HV := Lib.hid hv0.symm
  clear hv0
  go_upto_region 1 with (fail)
  rewrite [HV.out]
  clear HV
  have h5 := X7.lt
  replace X7 := X7.below hb h5
  have hgb : w.grownBy v0 (some g5) := gb_below (gb_refl w g5) hb
  have hy := X0.lt
  have hb0 := hb.size
  have hr2 := X7.rdA
  have hgl := grpL_len (c : Int) l i
  have k0 : v0.cell? ⟨w.heap.size, 0, none⟩ = some (.int .i64 (r : Int)) := (X0.cell 0).trans rfl
  have k1 : v0.cell? ⟨w.heap.size, 1, none⟩ = some (.int .i64 (c : Int)) := (X0.cell 1).trans rfl
  have k2 : v0.cell? ⟨w.heap.size, 2, none⟩ = some (.slice (some ⟨g5, 0, none⟩) l.length cap) := (X0.cell 2).trans rfl
  have KS := Lib.hid (fun (w' : World) (h : Below v0.heap.size v0 w') => (⟨(h.cell (p := ⟨w.heap.size, 0, none⟩) hy).trans k0, (h.cell (p := ⟨w.heap.size, 1, none⟩) hy).trans k1, (h.cell (p := ⟨w.heap.size, 2, none⟩) hy).trans k2⟩ : w'.cell? ⟨w.heap.size, 0, none⟩ = some (.int .i64 (r : Int)) ∧ w'.cell? ⟨w.heap.size, 1, none⟩ = some (.int .i64 (c : Int)) ∧ w'.cell? ⟨w.heap.size, 2, none⟩ = some (.slice (some ⟨g5, 0, none⟩) l.length cap)))
  clear k0 k1 k2
  go_region_held3 (fun w' => w'.cell? ⟨w.heap.size, 0, none⟩ = some (.int .i64 (r : Int)) ∧ w'.cell? ⟨w.heap.size, 1, none⟩ = some (.int .i64 (c : Int)) ∧ w'.cell? ⟨w.heap.size, 2, none⟩ = some (.slice (some ⟨g5, 0, none⟩) l.length cap))
    (first | exact KS.out _ (by (repeat' (first | (with_reducible exact Below.refl _ _) | (with_reducible assumption) | (with_reducible refine Below.alloc ?_ ?_ _) | (with_reducible refine Below.setCell ?_ ?_ _) | (with_reducible refine Below.drew ?_) | (with_reducible refine below_drewN ?_ _) | (with_reducible refine Below.trans ?_ (Below.mono (by assumption) ?_)) | go_size))) | fail)
    ((first
      | (go_at_call 104; (with_reducible refine (impl_groupWithN r c _ cap l i _ hG ?_ hi HJ.out).mono ?_); (focus exact (hr2.below (by (repeat' (first | (with_reducible exact Below.refl _ _) | (with_reducible assumption) | (with_reducible refine Below.alloc ?_ ?_ _) | (with_reducible refine Below.setCell ?_ ?_ _) | (with_reducible refine Below.drew ?_) | (with_reducible refine below_drewN ?_ _) | (with_reducible refine Below.trans ?_ (Below.mono (by assumption) ?_)) | go_size)))).mono (by (repeat' (first | (with_reducible exact Below.refl _ _) | (with_reducible assumption) | (with_reducible refine Below.alloc ?_ ?_ _) | (with_reducible refine Below.setCell ?_ ?_ _) | (with_reducible refine Below.drew ?_) | (with_reducible refine below_drewN ?_ _) | (with_reducible refine Below.trans ?_ (Below.mono (by assumption) ?_)) | go_size)) : Below v0.heap.size v0 _).size); rintro e w3 ⟨A3, c3, rfl, o3, n3, b3⟩; have bb3 : Below v0.heap.size v0 w3 := (by (repeat' (first | (with_reducible exact Below.refl _ _) | (with_reducible assumption) | (with_reducible refine Below.alloc ?_ ?_ _) | (with_reducible refine Below.setCell ?_ ?_ _) | (with_reducible refine Below.drew ?_) | (with_reducible refine below_drewN ?_ _) | (with_reducible refine Below.trans ?_ (Below.mono (by assumption) ?_)) | go_size))); have s3 : v0.heap.size ≤ w3.heap.size := bb3.size)
      | (go_at_call 103; (with_reducible refine (impl_gearsAmongN (r : Int) (c : Int) _ cap l A3 c3 (grpL (c : Int) l i) _ ?_ (by omega) (grpL_lt _ _ _) ?_).mono ?_); (focus exact (hr2.below (by (repeat' (first | (with_reducible exact Below.refl _ _) | (with_reducible assumption) | (with_reducible refine Below.alloc ?_ ?_ _) | (with_reducible refine Below.setCell ?_ ?_ _) | (with_reducible refine Below.drew ?_) | (with_reducible refine below_drewN ?_ _) | (with_reducible refine Below.trans ?_ (Below.mono (by assumption) ?_)) | go_size)))).mono (by (repeat' (first | (with_reducible exact Below.refl _ _) | (with_reducible assumption) | (with_reducible refine Below.alloc ?_ ?_ _) | (with_reducible refine Below.setCell ?_ ?_ _) | (with_reducible refine Below.drew ?_) | (with_reducible refine below_drewN ?_ _) | (with_reducible refine Below.trans ?_ (Below.mono (by assumption) ?_)) | go_size)) : Below v0.heap.size v0 _).size); (focus exact (o3.rd.below (by (repeat' (first | (with_reducible exact Below.refl _ _) | (with_reducible assumption) | (with_reducible refine Below.alloc ?_ ?_ _) | (with_reducible refine Below.setCell ?_ ?_ _) | (with_reducible refine Below.drew ?_) | (with_reducible refine below_drewN ?_ _) | (with_reducible refine Below.trans ?_ (Below.mono (by assumption) ?_)) | go_size)))).mono (by (repeat' (first | (with_reducible exact Below.refl _ _) | (with_reducible assumption) | (with_reducible refine Below.alloc ?_ ?_ _) | (with_reducible refine Below.setCell ?_ ?_ _) | (with_reducible refine Below.drew ?_) | (with_reducible refine below_drewN ?_ _) | (with_reducible refine Below.trans ?_ (Below.mono (by assumption) ?_)) | go_size)) : Below w3.heap.size w3 _).size); rintro e w4 ⟨A4, c4, rfl, o4, n4, b4⟩; have bb4 : Below v0.heap.size v0 w4 := (by (repeat' (first | (with_reducible exact Below.refl _ _) | (with_reducible assumption) | (with_reducible refine Below.alloc ?_ ?_ _) | (with_reducible refine Below.setCell ?_ ?_ _) | (with_reducible refine Below.drew ?_) | (with_reducible refine below_drewN ?_ _) | (with_reducible refine Below.trans ?_ (Below.mono (by assumption) ?_)) | go_size))))
      | fail))
  rewrite [show (grpL (c : Int) l i).filter (gearK l) = gearsOf (c : Int) l i from rfl]
  rw [show (grpL (c : Int) l i).filter (gearK l) = gearsOf (c : Int) l i from rfl] at o4
  have n4' : ∀ a, A4 = some a → v0.heap.size ≤ a.block := fun a ha => Nat.le_trans s3 (n4 a ha)
  clear KS b3 b4 n3 n4 o3 s3 bb3 hr2
  have h5' : g5 < v0.heap.size := X7.lt
  replace X0 := X0.below bb4 X0.lt
  replace X7 := X7.below bb4 X7.lt
  replace hgb := gb_below hgb bb4
  clear bb4 hb hb0 hy
  rw [← inTake_zero (l := l) (gs := gearsOf (c : Int) l i)] at X7
  have hgn := gearsOf_len (c : Int) l i
  have HAt := Lib.hid (fun j => gearsOf_at (C := (c : Int)) (l := l) (k := i) (j := j))
  have HSt := Lib.hid (fun j => inTake_step (l := l) (gs := gearsOf (c : Int) l i) (j := j))
  generalize gearsOf (c : Int) l i = gs at *
  generalize v0.heap.size = base at *
  go_wp2_with fail
  go_loopw [12] (fun t wr => ∃ k : Nat, t = .int .i64 k ∧ k ≤ gs.length ∧ Whole wr w.heap.size 39 [.int .i64 (r : Int), .int .i64 (c : Int), .slice (some ⟨g5, 0, none⟩) l.length cap] ∧ Whole wr g5 104 (flat (tnS l (inTake gs k)) ++ rest5) ∧ Own wr A4 3 (ints (nI gs)) ∧ w.grownBy wr (some g5)) (fun t _ => gs.length - (intOf t).toNat)
  case atStart => exact ⟨0, rfl, Nat.zero_le _, X0, X7, o4, hgb⟩
  case round =>
    clear X0 X7 o4 hgb
    obtain ⟨k, rfl, hk, X0, X7, o4, hgb⟩ := hrel
    by_cases hlt : k < gs.length
    · obtain ⟨hyl, hyg, hyn⟩ := HAt.out k hlt
      have hstep := HSt.out k hlt hyl
      obtain ⟨g4, rest4, rfl, X4⟩ := o4 (by rw [ints_length, nI_length]; omega)
      have h4 : base ≤ g4 := n4' _ rfl
      have hck := row_num X4 hlt
      have hTl : gs[k] < (tnS l (inTake gs k)).length := by rw [tnS_len]; exact hyl
      have hget : l.getD gs[k] (0, 0) = l[gs[k]] := by rw [List.getD_eq_getElem?_getD, List.getElem?_eq_getElem hyl]; rfl
      have hT : (tnS l (inTake gs k))[gs[k]] = l[gs[k]] := by
        rw [tnS_at hTl, hget]
        have : inTake gs k gs[k] = false := by unfold inTake; simpa using hyn
        rw [this]
        rfl
      have h6 : l[gs[k]].1 = 6 := by unfold gearK at hyg; rw [hget] at hyg; simpa using hyg
      have hgood := HGood.out gs[k] hyl
      rw [hget, h6] at hstep
      have HSet := flat_set (tnS l (inTake gs k)) gs[k] 6 (1 - l[gs[k]].2) hTl rest5
      rw [hstep] at HSet
      have u0 : (flat (tnS l (inTake gs k)) ++ rest5)[gs[k] * 2]? = some (.int .i64 6) := by rw [List.getElem?_append_left (by rw [flat_length]; omega), (flat_at _ gs[k] hTl).1, hT, h6]
      have u1 : (flat (tnS l (inTake gs k)) ++ rest5)[gs[k] * 2 + 1]? = some (.int .i64 l[gs[k]].2) := by rw [List.getElem?_append_left (by rw [flat_length]; omega), (flat_at _ gs[k] hTl).2, hT]
      rw [h6] at hgood
      have HSet' := Lib.hid HSet
      have U0 := Lib.hid u0
      have U1 := Lib.hid u1
      have hs := hgb.size
      have hyw : w.heap.size < wr.heap.size := X0.lt
      have HTC := Lib.hid (impl_TurnCell_ok 6 l[gs[k]].2 hgood (.inr rfl))
      clear hTl hT hget h6 hstep hyg hyn HSet hgood u0 u1
      generalize l[gs[k]].2 = st' at *
      generalize gs[k] = y at *
      go_upto_region 4 with (fail)
      clear hck
      have bd : Below wr.heap.size wr wr.drew := (Below.refl _ _).drew
      replace X0 := X0.below bd X0.lt
      replace X4 := X4.below bd X4.lt
      replace X7 := X7.below bd X7.lt
      replace hgb := gb_below hgb bd
      have hk2 : wr.drew.cell? ⟨w.heap.size, 2, none⟩ = some (.slice (some ⟨g5, 0, none⟩) l.length cap) := (X0.cell 2).trans rfl
      have q0 : wr.drew.cell? ⟨g5, y * 2, none⟩ = some (.int .i64 6) := (X7.cell _).trans U0.out
      have q1 : wr.drew.cell? ⟨g5, y * 2 + 1, none⟩ = some (.int .i64 st') := (X7.cell _).trans U1.out
      clear bd
      go_region_law (first
        | (go_simp; (with_reducible refine Calls.mono (HTC.out _) ?_); rintro e w5 ⟨rfl, b5⟩; replace X0 := X0.below b5 X0.lt; replace X4 := X4.below b5 X4.lt; replace X7 := X7.below b5 X7.lt; replace hgb := gb_below hgb b5; replace hk2 : w5.cell? ⟨w.heap.size, 2, none⟩ = some (.slice (some ⟨g5, 0, none⟩) l.length cap) := (X0.cell 2).trans rfl; replace q0 : w5.cell? ⟨g5, y * 2, none⟩ = some (.int .i64 6) := (X7.cell _).trans U0.out; replace q1 : w5.cell? ⟨g5, y * 2 + 1, none⟩ = some (.int .i64 st') := (X7.cell _).trans U1.out; have f0 := X7.frozen (y * 2); have f1 := X7.frozen (y * 2 + 1); clear b5)
        | fail)
      all_goals (go_wp2; go_roundw)
      all_goals first
        | (refine ⟨k + 1, by go_num, by omega, X0.two_far (by omega), ?_, fun _ => ⟨g4, rest4, rfl, X4.two_far (by omega)⟩, gb_set2 hgb⟩; rewrite [← HSet'.out]; exact (X7.set (y * 2) (.int .i64 6)).set (y * 2 + 1) (.int .i64 (1 - st')))
        | (simp [intOf]; omega)
        | fail
    · obtain rfl : k = gs.length := by omega
      rw [← HP.out] at X7
      go_wp2
      go_returns
      exact ⟨rfl, X7, hgb⟩
end Go.Proofs.Ytlambflmabecfaa
namespace Go.Proofs.Ytlambflmabecfaa
open Go.ChangeShapes Go.WideShapes Go.ChangeAt Go.RowKit Go.Joins Go.Deep
set_option linter.unusedSimpArgs false
set_option linter.unusedVariables false
set_option maxRecDepth 100000
set_option maxHeartbeats 8000000
theorem impl_turnBehind (r c g5 cap : Nat) (l : List (Int × Int)) (rest5 : List Value) (i : Nat) (w : World) (hG : Geo r c l.length) (hi : i < l.length) (hn : l.length ≤ 1048576) (hgd : ∀ x ∈ l, good x.1 x.2 = true)
    (X7 : Whole w g5 104 (flat l ++ rest5)) :
    Calls Try.prog 86 #[.agg #[.int .i64 (r : Int), .int .i64 (c : Int), .slice (some ⟨g5, 0, none⟩) l.length cap], .int .i64 (i : Int)] w
      fun e w' => e = .returned (.tuple #[]) ∧ Whole w' g5 104 (flat (passL (numL c l) l i) ++ rest5) ∧ w.grownBy w' (some g5) := by
  have hget : l.getD i (0, 0) = l[i] := by rw [List.getD_eq_getElem?_getD, List.getElem?_eq_getElem hi]; rfl
  have u0 : (flat l ++ rest5)[i * 2]? = some (.int .i64 (l.getD i (0, 0)).1) := by rw [hget, List.getElem?_append_left (by rw [flat_length]; omega), (flat_at _ i hi).1]
  have u1 : (flat l ++ rest5)[i * 2 + 1]? = some (.int .i64 (l.getD i (0, 0)).2) := by rw [hget, List.getElem?_append_left (by rw [flat_length]; omega), (flat_at _ i hi).2]
  have hgood : good (l.getD i (0, 0)).1 (l.getD i (0, 0)).2 = true := by rw [hget]; exact hgd _ (List.getElem_mem hi)
  have HY3 := Lib.hid (passL_flip (nm := numL c l) (l := l) (i := i))
  have HY0 := Lib.hid (passL_none (nm := numL c l) (l := l) (i := i))
  have HQ := Lib.hid (fun w (h6 : (l.getD i (0, 0)).1 = 6) X => impl_turnGroup r c g5 cap l rest5 i w hG hi h6 hn hgd X)
  have HSet := Lib.hid (fun x y => flat_set l i x y hi rest5)
  generalize (l.getD i (0, 0)).1 = kd at *
  generalize (l.getD i (0, 0)).2 = st at *
  generalize passL (numL c l) l i = P at *
  clear hgd hG hget
  have hc0 : w.cell? ⟨g5, i * 2, none⟩ = some (.int .i64 kd) := (X7.cell _).trans u0
  have U0 := Lib.hid u0
  have U1 := Lib.hid u1
  clear u0 u1
  have h5 := X7.lt
  have hb1 : Below w.heap.size w (w.alloc (.cells #[.int .i64 (r : Int), .int .i64 (c : Int), .slice (some ⟨g5, 0, none⟩) l.length cap] 39)) := (Below.refl _ _).alloc (Nat.le_refl _) _
  by_cases h3 : kd = 3
  · subst h3
    go_enter Try.func86, Try.ntmps86
    go_upto_region 3 with (fail)
    obtain ⟨v0, hv0⟩ : ∃ v, v = w.alloc (.cells #[.int .i64 (r : Int), .int .i64 (c : Int), .slice (some ⟨g5, 0, none⟩) l.length cap] 39) := ⟨_, rfl⟩
    have X0 : Whole v0 w.heap.size 39 [.int .i64 (r : Int), .int .i64 (c : Int), .slice (some ⟨g5, 0, none⟩) l.length cap] := by rw [hv0]; exact heap_alloc_new w _
    rewrite [← hv0] at hb1 ⊢
    clear hv0
    replace X7 := X7.below hb1 h5
    have hgb : w.grownBy v0 (some g5) := gb_below (gb_refl w g5) hb1
    have bd : Below v0.heap.size v0 v0.drew := (Below.refl _ _).drew
    replace X0 := X0.below bd X0.lt
    replace X7 := X7.below bd X7.lt
    replace hgb := gb_below hgb bd
    have HTC := Lib.hid (impl_TurnCell_ok 3 st hgood (.inl rfl))
    have hk2 : v0.drew.cell? ⟨w.heap.size, 2, none⟩ = some (.slice (some ⟨g5, 0, none⟩) l.length cap) := (X0.cell 2).trans rfl
    have q0 : v0.drew.cell? ⟨g5, i * 2, none⟩ = some (.int .i64 3) := (X7.cell _).trans U0.out
    have q1 : v0.drew.cell? ⟨g5, i * 2 + 1, none⟩ = some (.int .i64 st) := (X7.cell _).trans U1.out
    clear bd hc0 hb1 hgood
    go_region_law (first
      | (go_simp; (with_reducible refine Calls.mono (HTC.out _) ?_); rintro e w5 ⟨rfl, b5⟩; replace X0 := X0.below b5 X0.lt; replace X7 := X7.below b5 X7.lt; replace hgb := gb_below hgb b5; replace hk2 : w5.cell? ⟨w.heap.size, 2, none⟩ = some (.slice (some ⟨g5, 0, none⟩) l.length cap) := (X0.cell 2).trans rfl; replace q0 : w5.cell? ⟨g5, i * 2, none⟩ = some (.int .i64 3) := (X7.cell _).trans U0.out; replace q1 : w5.cell? ⟨g5, i * 2 + 1, none⟩ = some (.int .i64 st) := (X7.cell _).trans U1.out; have f0 := X7.frozen (i * 2); have f1 := X7.frozen (i * 2 + 1); clear b5)
      | fail)
    all_goals (go_wp2; go_returns)
    all_goals (refine ⟨rfl, ?_, gb_set2 hgb⟩; rewrite [HY3.out trivial, ← HSet.out]; exact (X7.set (i * 2) (.int .i64 3)).set (i * 2 + 1) (.int .i64 (1 - st)))
  · by_cases h6 : kd = 6
    · subst h6
      go_enter Try.func86, Try.ntmps86
      go_wp2_with fail
      have X7' := X7.below hb1 h5
      refine (HQ.out _ trivial X7').mono ?_; rintro e w5 ⟨rfl, Y, gb⟩
      have hg2 : w.grownBy w5 (some g5) := ⟨gb.os.trans hb1.os, gb.tape.trans hb1.tape, gb.output.trans hb1.output, Nat.le_trans hb1.size gb.size, fun k hk hne => (gb.block k (Nat.lt_of_lt_of_le hk hb1.size) hne).trans (hb1.block k hk)⟩
      clear hc0 gb hb1 X7' HQ
      go_wp2
      go_returns
      exact ⟨rfl, Y, hg2⟩
    · go_enter Try.func86, Try.ntmps86
      have hE := HY0.out h3 h6
      have HG := Lib.hid (gb_below (gb_refl w g5) hb1)
      have HX := Lib.hid (X7.below hb1 h5)
      rewrite [hE]
      clear hE hb1 HQ HY0 HY3
      go_wp2
      go_returns
      exact ⟨rfl, HX.out, HG.out⟩
end Go.Proofs.Ytlambflmabecfaa
namespace Go.Proofs.Ytlambflmabecfaa
open Go.ChangeShapes Go.WideShapes Go.ChangeAt Go.RowKit Go.Joins Go.Deep
set_option linter.unusedSimpArgs false
set_option linter.unusedVariables false
set_option maxRecDepth 100000
set_option maxHeartbeats 4000000
theorem impl_hasColumn (R C : Int) (A : Option Addr) (n cap : Nat) (j : Int) (w : World) :
    Calls Try.prog 76 #[.agg #[.int .i64 R, .int .i64 C, .slice A n cap], .int .i64 j] w fun e w' => e = .returned (.bool (decide (0 ≤ j ∧ j < C))) ∧ Below w.heap.size w w' := by
  have HE := Lib.hid (show decide (0 ≤ j ∧ j < C) = (decide (0 ≤ j) && decide (j < C)) by rw [Bool.eq_iff_iff]; simp)
  rewrite [HE.out]
  rcases Bool.eq_false_or_eq_true (decide (0 ≤ j)) with h0 | h0
  · have HD := Lib.hid h0
    rw [h0]
    have h1 := of_decide_eq_true h0
    clear HE
    go_enter Try.func76, Try.ntmps76
    go_wp2
    go_returns
    exact ⟨rfl, by (repeat' (first | (with_reducible exact Below.refl _ _) | (with_reducible assumption) | (with_reducible refine Below.alloc ?_ ?_ _) | (with_reducible refine Below.setCell ?_ ?_ _) | (with_reducible refine Below.drew ?_) | (with_reducible refine below_drewN ?_ _) | (with_reducible refine Below.trans ?_ (Below.mono (by assumption) ?_)) | (with_reducible exact Nat.le_refl _) | (simp; done) | omega | (simp at *; omega)))⟩
  · have h1 := of_decide_eq_false h0
    rw [h0]
    clear HE
    go_enter Try.func76, Try.ntmps76
    go_wp2
    go_returns
    exact ⟨rfl, by (repeat' (first | (with_reducible exact Below.refl _ _) | (with_reducible assumption) | (with_reducible refine Below.alloc ?_ ?_ _) | (with_reducible refine Below.setCell ?_ ?_ _) | (with_reducible refine Below.drew ?_) | (with_reducible refine below_drewN ?_ _) | (with_reducible refine Below.trans ?_ (Below.mono (by assumption) ?_)) | (with_reducible exact Nat.le_refl _) | (simp; done) | omega | (simp at *; omega)))⟩
def wayI (c : Nat) (wy : List (List Nat)) : List Int := wy.map fun p => ((p.getD 0 0 * c + p.getD 1 0 : Nat) : Int)
theorem wayI_len (c : Nat) (wy : List (List Nat)) : (wayI c wy).length = wy.length := by simp [wayI]
theorem wayI_push (c : Nat) (wy : List (List Nat)) (k cl : Nat) : ints (wayI c (wy ++ [[k, cl]])) = ints (wayI c wy) ++ [.int .i64 ((k * c + cl : Nat) : Int)] := by
  simp [wayI, ints]
/-- What letFall leaves behind: the cells met, the end, and its cells turned. -/
def PostM (w : World) (g5 : Nat) (rest5 : List Value) (c : Nat) (F : FlR) (e : Ending) (w' : World) : Prop :=
  ∃ A cp, e = .returned (.tuple #[.slice A F.way.length cp, .agg #[.int .i64 F.e, .int .i64 F.row, .int .i64 F.col]]) ∧ Own w' A 3 (ints (wayI c F.way)) ∧ New w A ∧ Whole w' g5 104 (flat F.cells ++ rest5) ∧ w.grownBy w' (some g5)
theorem gb_far {w v : World} {g : Nat} (h : w.grownBy v (some g)) {p : Addr} (hp : w.heap.size ≤ p.block) (u : Value) : w.grownBy (v.setCell p u) (some g) :=
  ⟨h.os, h.tape, h.output, by rw [World.size_setCell]; exact h.size, fun k hk hne => (Below.heap_setCell _ _ _ _ (by omega)).trans (h.block k hk hne)⟩
theorem gb_grown {w v v' : World} {g : Nat} {row : Option Nat} (h : w.grownBy v (some g)) (hg : v.grownBy v' row) (hrow : ∀ k, row = some k → w.heap.size ≤ k) : w.grownBy v' (some g) :=
  ⟨hg.os.trans h.os, hg.tape.trans h.tape, hg.output.trans h.output, Nat.le_trans h.size hg.size, fun k hk hne => (hg.block k (Nat.lt_of_lt_of_le hk h.size) (fun e => by have := hrow k e.symm; omega)).trans (h.block k hk hne)⟩
theorem gb_same {w v v' : World} {g : Nat} (h : w.grownBy v (some g)) (hg : v.grownBy v' (some g)) : w.grownBy v' (some g) :=
  ⟨hg.os.trans h.os, hg.tape.trans h.tape, hg.output.trans h.output, Nat.le_trans h.size hg.size, fun k hk hne => (hg.block k (Nat.lt_of_lt_of_le hk h.size) hne).trans (h.block k hk hne)⟩
theorem run_make_ints0 (n : Nat) (hn : n ≤ 1048576) (w : World) :
    (Instr.makeSlice 47 (.int .i64 0) (.int .i64 (n : Int))).run Try.prog w = .ok (.slice (some ⟨w.heap.size, 0, none⟩) 0 n) (w.alloc (.cells (zrow n).toArray 3)) := by
  obtain ⟨i0, hi, hz0, hz1, hz2⟩ := info_parts intInfo
  have h := run_make (P := Try.prog) w 47 3 i0 _ Try.underlying47 hi hz0 .i64 .i64 0 (n : Int) (by omega) (by omega) (by rw [hz2]; omega) (by omega)
  rw [hz1] at h
  simp only [Int.toNat_natCast] at h
  rw [h, made_ints]
  rfl
theorem row_far3 {w : World} {base : Nat} {e : TypeId} {size n : Nat} {v : Value} {xs : List Value} (h : w.ownsRow base e size v n xs) {a : Nat} (hne : some a ≠ v.ownBlock) (u0 u1 u2 : Value) : (((w.setCell ⟨a, 0, none⟩ u0).setCell ⟨a, 1, none⟩ u1).setCell ⟨a, 2, none⟩ u2).ownsRow base e size v n xs := by
  have one : ∀ {w : World} (p : Addr) (u : Value), w.ownsRow base e size v n xs → some p.block ≠ v.ownBlock → (w.setCell p u).ownsRow base e size v n xs := fun {w} p u h hne => by
    refine ⟨h.1, ?_⟩
    rcases h.2 with h2 | ⟨g, cap, cur, rfl, h2, hh, h3⟩
    · exact .inl h2
    · have hne' : g ≠ p.block := fun e' => hne (by simp [Value.ownBlock, e'])
      exact .inr ⟨g, cap, cur, rfl, h2, (Below.heap_setCell w p u g hne').trans hh, h3⟩
  exact one ⟨a, 2, none⟩ u2 (one ⟨a, 1, none⟩ u1 (one ⟨a, 0, none⟩ u0 h hne) hne) hne
theorem PostM.mk {w w' : World} {g5 a : Nat} {rest5 : List Value} {c : Nat} {v : Value} {n : Nat} {x y z p q s u0 u1 u2 : Value} {X Y Z : Int} {L : List (Int × Int)} {wy : List (List Nat)} (hx : x = .int .i64 X) (hy : y = .int .i64 Y) (hz : z = .int .i64 Z) (hn : wy.length = n)
    (hown : w'.ownsRow w.heap.size 3 1 v n (ints (wayI c wy))) (X1 : Whole w' a 59 [p, q, s]) (ha : w.heap.size ≤ a) (hne : a ≠ g5) (X7 : Whole w' g5 104 (flat L ++ rest5)) (gb : w.grownBy w' (some g5)) :
    PostM w g5 rest5 c ⟨X, Y, Z, L, wy⟩ (.returned (.tuple #[v, .agg #[x, y, z]])) (((w'.setCell ⟨a, 0, none⟩ u0).setCell ⟨a, 1, none⟩ u1).setCell ⟨a, 2, none⟩ u2) := by
  subst hx hy hz hn
  have h1 := row_far3 hown (row_apart hown X1 (by decide)) u0 u1 u2
  obtain ⟨A, cp, rfl⟩ := slice_of_row h1
  have ho := own_of_row h1
  exact ⟨A, cp, rfl, ho.1, ho.2, three_far X7 hne, gb_far (gb_far (gb_far gb (p := ⟨a, 0, none⟩) ha u0) (p := ⟨a, 1, none⟩) ha u1) (p := ⟨a, 2, none⟩) ha u2⟩
theorem PostM.drew {w w' : World} {g5 : Nat} {rest5 : List Value} {c : Nat} {F : FlR} {e : Ending} (h : PostM w g5 rest5 c F e w') : PostM w g5 rest5 c F e w'.drew := by
  obtain ⟨A, cp, h1, h2, h3, h4, h5⟩ := h
  exact ⟨A, cp, h1, h2.keep ((Below.refl _ _).drew), h3, h4.below ((Below.refl _ _).drew) h4.lt, gb_below h5 ((Below.refl _ _).drew)⟩
theorem impl_letFall (r c g5 cap : Nat) (l : List (Int × Int)) (rest5 : List Value) (col : Nat) (w : World) (hG : Geo r c l.length) (hgd : goodB (r : Int) (c : Int) l = true) (hcol : col < c) (X7 : Whole w g5 104 (flat l ++ rest5)) :
    Calls Try.prog 78 #[.agg #[.int .i64 (r : Int), .int .i64 (c : Int), .slice (some ⟨g5, 0, none⟩) l.length cap], .int .i64 (col : Int)] w (PostM w g5 rest5 c (flG (numL c l) r c r 0 l col 0 [])) := by
  obtain ⟨s1, s2, s3, s4⟩ := sizeB_iff.1 (goodB_iff.1 hgd).1
  have hgd2 := (goodB_iff.1 hgd).2.2
  have n90 := hG.n90
  have HRC := Lib.hid hG.cells
  have HGe := Lib.hid hG
  obtain ⟨i0, hi, hz0, hz1, hz2⟩ := info_parts intInfo
  have hmk := run_make_ints0 r (by omega)
  have h5w := X7.lt
  clear hgd hG
  go_enter Try.func78, Try.ntmps78
  obtain ⟨v0, hv0, X0, X1, B0, hz0⟩ := two_boxes w [.int .i64 (r : Int), .int .i64 (c : Int), .slice (some ⟨g5, 0, none⟩) l.length cap] 39 [.int .i64 0, .int .i64 0, .int .i64 0] 59
  have HV := Lib.hid hv0
  have HZ := Lib.hid hz0
  have hz : w.heap.size + 1 < v0.heap.size := by omega
  have hy : w.heap.size < v0.heap.size := by omega
  have hb0 := B0.size
  clear hv0 hz0
  go_wp2_with fail
  rewrite [show (w.alloc (.cells ([.int .i64 (r : Int), .int .i64 (c : Int), .slice (some ⟨g5, 0, none⟩) l.length cap] : List Value).toArray 39)).alloc (.cells ([.int .i64 0, .int .i64 0, .int .i64 0] : List Value).toArray 59) = v0 from HV.out]
  clear HV
  have hgb : w.grownBy v0 (some g5) := gb_below (gb_refl w g5) B0
  replace X7 := X7.below B0 h5w
  have X0k0 : v0.cell? ⟨w.heap.size, 0, none⟩ = some (.int .i64 (r : Int)) := (X0.cell 0).trans rfl; have X0k1 : v0.cell? ⟨w.heap.size, 1, none⟩ = some (.int .i64 (c : Int)) := (X0.cell 1).trans rfl; have X0k2 : v0.cell? ⟨w.heap.size, 2, none⟩ = some (.slice (some ⟨g5, 0, none⟩) l.length cap) := (X0.cell 2).trans rfl
  go_upto_region 2 with (fail)
  clear X0k0 X0k1 X0k2
  have hown := World.ownsRow_made (e := 3) (size := 1) (base := w.heap.size) v0 (zrow r).toArray r (by omega) (by unfold maxLen; omega) (by simp [zrow])
  have ba : Below v0.heap.size v0 (v0.alloc (.cells (zrow r).toArray 3)) := (Below.refl _ _).alloc (Nat.le_refl _) _
  replace X0 := X0.below ba X0.lt
  replace X1 := X1.below ba X1.lt
  replace X7 := X7.below ba X7.lt
  replace hgb := gb_below hgb ba
  clear ba B0 hb0 hmk
  generalize v0.alloc (.cells (zrow r).toArray 3) = v1 at *
  rw [HZ.out] at hown
  clear HZ
  generalize v0.heap.size = G at *
  have X0k0 : v1.cell? ⟨w.heap.size, 0, none⟩ = some (.int .i64 (r : Int)) := (X0.cell 0).trans rfl; have X0k1 : v1.cell? ⟨w.heap.size, 1, none⟩ = some (.int .i64 (c : Int)) := (X0.cell 1).trans rfl; have X0k2 : v1.cell? ⟨w.heap.size, 2, none⟩ = some (.slice (some ⟨g5, 0, none⟩) l.length cap) := (X0.cell 2).trans rfl
  go_wp2
  clear X0k0 X0k1 X0k2
  obtain ⟨F, hF⟩ : ∃ F, flG (numL c l) r c r 0 l col 0 [] = F := ⟨_, rfl⟩
  have hF0 : flG (numL c l) r c (r - 0) 0 l col 0 [] = F := hF
  have HFq := Lib.hid hF
  generalize hnm : numL c l = nm at *
  clear hF
  go_loopw [1, 6, 7, 17] (fun cv wv sv rv wr => ∃ (k cl : Nat) (d : Int) (lk : List (Int × Int)) (wy : List (List Nat)), rv = .int .i64 k ∧ cv = .int .i64 cl ∧ sv = .int .i64 d ∧ k ≤ r ∧ cl < c ∧ -1 ≤ d ∧ d ≤ 1 ∧ lk.length = l.length ∧ (∀ x ∈ lk, good x.1 x.2 = true) ∧ wy.length = k ∧ numL c lk = nm ∧ flG nm r c (r - k) k lk cl d wy = F ∧
    Whole wr w.heap.size 39 [.int .i64 (r : Int), .int .i64 (c : Int), .slice (some ⟨g5, 0, none⟩) l.length cap] ∧ Whole wr (w.heap.size + 1) 59 [.int .i64 0, .int .i64 0, .int .i64 0] ∧ Whole wr g5 104 (flat lk ++ rest5) ∧ wr.ownsRow w.heap.size 3 1 wv wy.length (ints (wayI c wy)) ∧ w.grownBy wr (some g5)) (fun _ _ _ rv _ => r - (intOf rv).toNat)
  case atStart => exact ⟨0, col, 0, l, [], rfl, rfl, rfl, Nat.zero_le _, hcol, by omega, by omega, rfl, hgd2, rfl, hnm, hF0, X0, X1, X7, hown, hgb⟩
  case round =>
    clear X0 X1 X7 hown hgb hz hy hF0 hgd2 hcol hnm
    obtain ⟨k, cl, d, lk, wy, rfl, rfl, rfl, hk, hcl, hd1, hd2, hlk, hgk, hwy, hnm, hF, X0, X1, X7, hown, hgb⟩ := hrel
    have hs := hgb.size
    have hyw := X0.lt
    have hzw := X1.lt
    by_cases hlt : k < r
    · have hidx : k * c + cl < l.length := by
        have h1 := Nat.mul_le_mul (show k + 1 ≤ r by omega) (Nat.le_refl c)
        rw [Nat.succ_mul] at h1
        have := HRC.out
        omega
      have hGk : Geo r c lk.length := by rw [hlk]; exact HGe.out
      have u0 : (flat lk ++ rest5)[(k * c + cl) * 2]? = some (.int .i64 (lk.getD (k * c + cl) (0, 0)).1) := by
        rw [List.getD_eq_getElem?_getD, List.getElem?_eq_getElem (show k * c + cl < lk.length by omega), List.getElem?_append_left (by rw [flat_length]; omega), (flat_at _ (k * c + cl) (by omega)).1]; rfl
      have u1 : (flat lk ++ rest5)[(k * c + cl) * 2 + 1]? = some (.int .i64 (lk.getD (k * c + cl) (0, 0)).2) := by
        rw [List.getD_eq_getElem?_getD, List.getElem?_eq_getElem (show k * c + cl < lk.length by omega), List.getElem?_append_left (by rw [flat_length]; omega), (flat_at _ (k * c + cl) (by omega)).2]; rfl
      have hxg : good (lk.getD (k * c + cl) (0, 0)).1 (lk.getD (k * c + cl) (0, 0)).2 = true := by
        rw [List.getD_eq_getElem?_getD, List.getElem?_eq_getElem (by omega)]
        exact hgk _ (List.getElem_mem _)
      have HSt := Lib.hid (flG_step nm r c (r - k - 1) k lk cl d wy _ _ rfl rfl)
      have er : r - k = r - k - 1 + 1 := by omega
      rw [er] at hF
      have HTB := Lib.hid (fun w0 X => impl_turnBehind r c g5 cap lk rest5 (k * c + cl) w0 hGk (by omega) (by omega) hgk X)
      rw [hnm, hlk] at HTB
      have HPg := Lib.hid (passL_good (nm := nm) (show k * c + cl < lk.length by omega) hgk)
      have HPl := Lib.hid ((passL_len nm lk (k * c + cl)).trans hlk)
      have HPn := Lib.hid ((passL_num c nm lk (k * c + cl)).trans hnm)
      have m1 : IntKind.i64.wrap ((k : Int) * (c : Int)) = (k : Int) * (c : Int) := by
        have e : (k : Int) * (c : Int) = ((k * c : Nat) : Int) := by push_cast; rfl
        rw [e]; exact IntWalk.i64_in _ (by omega)
      have m2 : IntKind.i64.wrap ((k : Int) * (c : Int) + (cl : Int)) = ((k * c + cl : Nat) : Int) := by
        have e : (k : Int) * (c : Int) + (cl : Int) = ((k * c + cl : Nat) : Int) := by push_cast; rfl
        rw [e]; exact IntWalk.i64_in _ (by omega)
      have HWp := Lib.hid (wayI_push c wy k cl)
      have hwl : (wy ++ [[k, cl]]).length = k + 1 := by rw [List.length_append, hwy]; rfl
      have HWl := Lib.hid hwl
      have HL9 := Lib.hid hlk
      clear hGk hgk hnm hlk hwl
      generalize (lk.getD (k * c + cl) (0, 0)).1 = kd at *
      generalize (lk.getD (k * c + cl) (0, 0)).2 = st at *
      have HFS := Lib.hid (HSt.out.symm.trans hF)
      clear HSt hF er
      rw [hwy] at hown
      have HWy := Lib.hid hwy
      clear hwy
      generalize hix : k * c + cl = ix at *
      have HIx := Lib.hid hix
      clear hix
      have X0k0 : wr.cell? ⟨w.heap.size, 0, none⟩ = some (.int .i64 (r : Int)) := (X0.cell 0).trans rfl; have X0k1 : wr.cell? ⟨w.heap.size, 1, none⟩ = some (.int .i64 (c : Int)) := (X0.cell 1).trans rfl; have X0k2 : wr.cell? ⟨w.heap.size, 2, none⟩ = some (.slice (some ⟨g5, 0, none⟩) l.length cap) := (X0.cell 2).trans rfl
      go_upto_region 8 with (first | (at_builtin; refine wpList_append_own _ rfl (.tmp 26) (.tmp 28) 47 rfl w.heap.size 3 i0 _ 1 8 Try.underlying47 hi hz0 hz1 hz2 rfl (by omega) _ k (ints (wayI c wy)) rfl (hown.alloc _) ⟨wr.heap.size, 0, none⟩ 1 1 [.int .i64 (ix : Int)] rfl rfl one_cellI one_oneI (by unfold maxLen; omega) (by omega) (by simp; omega) ?_; intro v3 w3 hown3 hg3 _) | fail)
      clear X0k0 X0k1 X0k2
      have hYa := hown.alloc (.cells #[.int .i64 (ix : Int)] 3)
      replace X0 := (X0.alloc (.cells #[.int .i64 (ix : Int)] 3)).grown hg3 (row_apart hYa (X0.alloc _) (by decide))
      replace X1 := (X1.alloc (.cells #[.int .i64 (ix : Int)] 3)).grown hg3 (row_apart hYa (X1.alloc _) (by decide))
      replace X7 := (X7.alloc (.cells #[.int .i64 (ix : Int)] 3)).grown hg3 (row_apart hYa (X7.alloc _) (by decide))
      replace hgb := gb_grown (gb_below hgb ((Below.refl _ _).alloc (Nat.le_refl _) (.cells #[.int .i64 (ix : Int)] 3))) hg3 (fun k e => (hYa.lt k e).1)
      replace hs := hgb.size
      rw [← HWp.out] at hown3
      clear hown hYa hg3 HWp m1 m2
      have hc0 : w3.cell? ⟨g5, ix * 2, none⟩ = some (.int .i64 kd) := (X7.cell _).trans u0
      have hc1 : w3.cell? ⟨g5, ix * 2 + 1, none⟩ = some (.int .i64 st) := (X7.cell _).trans u1
      clear u0 u1
      have hg5 := X7.lt
      have X0k0 : w3.cell? ⟨w.heap.size, 0, none⟩ = some (.int .i64 (r : Int)) := (X0.cell 0).trans rfl; have X0k1 : w3.cell? ⟨w.heap.size, 1, none⟩ = some (.int .i64 (c : Int)) := (X0.cell 1).trans rfl; have X0k2 : w3.cell? ⟨w.heap.size, 2, none⟩ = some (.slice (some ⟨g5, 0, none⟩) l.length cap) := (X0.cell 2).trans rfl
      go_wp2_with fail
      refine (impl_GoesTo kd st d _).mono ?_; rintro e w4 ⟨rfl, b4⟩
      clear hc0 hc1
      clear X0k0 X0k1 X0k2
      replace X0 := X0.below b4 X0.lt
      replace X1 := X1.below b4 X1.lt
      replace X7 := X7.below b4 X7.lt
      replace hgb := gb_below hgb b4
      replace hown3 := row_keep hown3 b4
      clear b4
      by_cases h5k : kd = 5
      · have HF := HFS.out
        rw [if_pos h5k] at HF
        have HEq := Lib.hid (HFq.out.trans HF.symm)
        clear HF HFS HTB
        subst h5k
        rewrite [show goB 5 st d = false by unfold goB; simp]
        have X1k0 : w4.cell? ⟨w.heap.size + 1, 0, none⟩ = some (.int .i64 0) := (X1.cell 0).trans rfl; have X1k1 : w4.cell? ⟨w.heap.size + 1, 1, none⟩ = some (.int .i64 0) := (X1.cell 1).trans rfl; have X1k2 : w4.cell? ⟨w.heap.size + 1, 2, none⟩ = some (.int .i64 0) := (X1.cell 2).trans rfl
        have X1f0 := X1.frozen 0; have X1f1 := X1.frozen 1; have X1f2 := X1.frozen 2
        go_wp2
        (refine bodyPost_ret (v := .tuple #[v3, .agg #[.int .i64 2, .int .i64 (k : Int), .int .i64 (cl : Int)]]) ?_ rfl ?_); (focus (simp [results, Try.results78, go_sem, *]; done)); rewrite [HEq.out]
        exact PostM.mk rfl rfl rfl HWl.out hown3 X1 (by omega) (by omega) X7 hgb
      · rw [if_neg h5k] at HFS
        obtain ⟨hg1, hg2⟩ := goN_range hxg hd1 hd2
        rewrite [show goB kd st d = true by unfold goB; rw [hxg, decide_eq_true ⟨hd1, hd2, h5k⟩]; rfl, show selI true (goN kd st d) = goN kd st d from rfl]
        generalize goN kd st d = gs at *
        have m3 : IntKind.i64.wrap ((cl : Int) + gs) = (cl : Int) + gs := IntWalk.i64_in _ (by omega)
        have m4 : IntKind.i64.wrap (-gs) = -gs := IntWalk.i64_in _ (by omega)
        have X0k0 : w4.cell? ⟨w.heap.size, 0, none⟩ = some (.int .i64 (r : Int)) := (X0.cell 0).trans rfl; have X0k1 : w4.cell? ⟨w.heap.size, 1, none⟩ = some (.int .i64 (c : Int)) := (X0.cell 1).trans rfl; have X0k2 : w4.cell? ⟨w.heap.size, 2, none⟩ = some (.slice (some ⟨g5, 0, none⟩) l.length cap) := (X0.cell 2).trans rfl
        go_wp2_with fail
        refine (HTB.out _ X7).mono ?_; rintro e w7 ⟨rfl, X7', gb⟩
        clear X0k0 X0k1 X0k2
        have n5 : ∀ {g : Nat}, g ≠ g5 → some g ≠ some g5 := fun h e => h (by injection e)
        have hne3 := row_apart hown3 X7 (by decide)
        replace X0 := X0.grown gb (n5 (by omega))
        replace X1 := X1.grown gb (n5 (by omega))
        replace hown3 := World.ownsRow.kept hown3 gb (.inr (fun e => hne3 e.symm))
        replace hgb := gb_same hgb gb
        replace hs := hgb.size
        replace X7 := X7'
        clear gb X7' HTB n5 hne3
        by_cases hin2 : 0 ≤ (cl : Int) + gs ∧ (cl : Int) + gs < (c : Int)
        · have HF := HFS.out
          rw [if_pos hin2] at HF
          have HB := Lib.hid (decide_eq_true hin2)
          have HNx := Lib.hid (show ((cl : Int) + gs) = ((((cl : Int) + gs).toNat : Nat) : Int) by omega)
          have HF' := Lib.hid (show flG nm r c (r - (k + 1)) (k + 1) (passL nm lk ix) ((cl : Int) + gs).toNat (-gs) (wy ++ [[k, cl]]) = F by rw [show r - (k + 1) = r - k - 1 by omega]; exact HF)
          clear HFS HF
          have X0k0 : w7.cell? ⟨w.heap.size, 0, none⟩ = some (.int .i64 (r : Int)) := (X0.cell 0).trans rfl; have X0k1 : w7.cell? ⟨w.heap.size, 1, none⟩ = some (.int .i64 (c : Int)) := (X0.cell 1).trans rfl; have X0k2 : w7.cell? ⟨w.heap.size, 2, none⟩ = some (.slice (some ⟨g5, 0, none⟩) l.length cap) := (X0.cell 2).trans rfl
          go_wp2_with fail
          refine (impl_hasColumn _ _ _ _ _ _ _).mono ?_; rintro e w8 ⟨rfl, b8⟩
          rewrite [HB.out]
          clear X0k0 X0k1 X0k2
          replace X0 := X0.below b8 X0.lt
          replace X1 := X1.below b8 X1.lt
          replace X7 := X7.below b8 X7.lt
          replace hgb := gb_below hgb b8
          replace hown3 := row_keep hown3 b8
          clear b8
          go_wp2
          go_roundw
          case rel => exact ⟨k + 1, ((cl : Int) + gs).toNat, -gs, passL nm lk ix, wy ++ [[k, cl]], by go_num, by rw [← HNx.out], rfl, by omega, by omega, by omega, by omega, HPl.out, HPg.out, HWl.out, HPn.out, HF'.out, X0, X1, X7, by rw [HWl.out]; exact hown3, hgb⟩
          case measure => simp [intOf]; omega
        · have HF := HFS.out
          rw [if_neg hin2] at HF
          have HEq := Lib.hid (HFq.out.trans HF.symm)
          have HB := Lib.hid (decide_eq_false hin2)
          clear HF HFS hin2
          have X0k0 : w7.cell? ⟨w.heap.size, 0, none⟩ = some (.int .i64 (r : Int)) := (X0.cell 0).trans rfl; have X0k1 : w7.cell? ⟨w.heap.size, 1, none⟩ = some (.int .i64 (c : Int)) := (X0.cell 1).trans rfl; have X0k2 : w7.cell? ⟨w.heap.size, 2, none⟩ = some (.slice (some ⟨g5, 0, none⟩) l.length cap) := (X0.cell 2).trans rfl
          go_wp2_with fail
          refine (impl_hasColumn _ _ _ _ _ _ _).mono ?_; rintro e w8 ⟨rfl, b8⟩
          rewrite [HB.out]
          clear X0k0 X0k1 X0k2
          replace X1 := X1.below b8 X1.lt
          replace X7 := X7.below b8 X7.lt
          replace hgb := gb_below hgb b8
          replace hown3 := row_keep hown3 b8
          clear b8
          have X1k0 : w8.cell? ⟨w.heap.size + 1, 0, none⟩ = some (.int .i64 0) := (X1.cell 0).trans rfl; have X1k1 : w8.cell? ⟨w.heap.size + 1, 1, none⟩ = some (.int .i64 0) := (X1.cell 1).trans rfl; have X1k2 : w8.cell? ⟨w.heap.size + 1, 2, none⟩ = some (.int .i64 0) := (X1.cell 2).trans rfl
          have X1f0 := X1.frozen 0; have X1f1 := X1.frozen 1; have X1f2 := X1.frozen 2
          go_wp2
          (refine bodyPost_ret (v := .tuple #[v3, .agg #[.int .i64 3, .int .i64 (k : Int), .int .i64 ((cl : Int) + gs)]]) ?_ rfl ?_); (focus (simp [results, Try.results78, go_sem, *]; done)); rewrite [HEq.out]
          exact PostM.mk rfl rfl rfl HWl.out hown3 X1 (by omega) (by omega) X7 hgb
    · obtain rfl : k = r := by omega
      have HEq : Hid (flG nm k c k 0 l col 0 [] = ⟨1, k, cl, lk, wy⟩) := Lib.hid (HFq.out.trans (by rw [← hF, Nat.sub_self]; rfl))
      clear hF HFq
      rw [hwy] at hown
      have X0k0 : wr.cell? ⟨w.heap.size, 0, none⟩ = some (.int .i64 (k : Int)) := (X0.cell 0).trans rfl; have X0k1 : wr.cell? ⟨w.heap.size, 1, none⟩ = some (.int .i64 (c : Int)) := (X0.cell 1).trans rfl; have X0k2 : wr.cell? ⟨w.heap.size, 2, none⟩ = some (.slice (some ⟨g5, 0, none⟩) l.length cap) := (X0.cell 2).trans rfl
      have X1k0 : wr.cell? ⟨w.heap.size + 1, 0, none⟩ = some (.int .i64 0) := (X1.cell 0).trans rfl; have X1k1 : wr.cell? ⟨w.heap.size + 1, 1, none⟩ = some (.int .i64 0) := (X1.cell 1).trans rfl; have X1k2 : wr.cell? ⟨w.heap.size + 1, 2, none⟩ = some (.int .i64 0) := (X1.cell 2).trans rfl
      have X1f0 := X1.frozen 0; have X1f1 := X1.frozen 1; have X1f2 := X1.frozen 2
      have z0 := X0.lt
      have z1 := X1.lt
      go_upto_region 17 with (fail)
      go_region
      go_wp2
      (refine bodyPost_ret (v := .tuple #[u6, .agg #[.int .i64 1, .int .i64 (k : Int), .int .i64 (cl : Int)]]) ?_ rfl ?_); (focus (simp [results, Try.results78, go_sem, *]; done)); rewrite [HEq.out]
      exact (PostM.mk rfl rfl rfl hwy hown X1 (by omega) (by omega) X7 hgb).drew
end Go.Proofs.Ytlambflmabecfaa
namespace Go.Proofs.Ytlambflmabecfaa
open Go.ChangeShapes Go.WideShapes Go.ChangeAt Go.RowKit Go.Joins Go.Deep
set_option linter.unusedSimpArgs false
set_option linter.unusedVariables false
set_option maxRecDepth 100000
set_option maxHeartbeats 4000000
/-- What fallAlone hands back: the cells met, and the end; nothing that was there has changed. -/
def PostN (w : World) (c : Nat) (F : FlR) (e : Ending) (w' : World) : Prop :=
  ∃ A cp, e = .returned (.tuple #[.slice A F.way.length cp, .agg #[.int .i64 F.e, .int .i64 F.row, .int .i64 F.col]]) ∧ Own w' A 3 (ints (wayI c F.way)) ∧ New w A ∧ Below w.heap.size w w'
theorem inI_lt {C x : Int} : inI 0 (C - 1) x = decide (0 ≤ x ∧ x < C) := by
  unfold inI
  rw [Bool.eq_iff_iff]
  simp
  omega
theorem okC'_one (R C : Int) (l : List (Int × Int)) (j : Int) : okC' R C l [j] = okF R C l j := by
  unfold okC' okF allI
  rw [List.all_cons, List.all_nil, Bool.and_true, inI_lt]
  simp
theorem impl_areEntries (R C : Int) (A : Option Addr) (cap : Nat) (l : List (Int × Int)) (A' : Option Addr) (cap' : Nat) (cs : List Int) (w : World) (hn : l.length ≤ 1048576) (hn' : cs.length ≤ 1048576) (hr : Rd w w.heap.size A (flat l)) (hr' : Rd w w.heap.size A' (ints cs)) :
    Calls Try.prog 67 #[.agg #[.int .i64 R, .int .i64 C, .slice A l.length cap], .slice A' cs.length cap'] w fun e w' => e = .returned (.bool (okC' R C l cs)) ∧ Below w.heap.size w w' := by
  unfold okC'
  rcases Bool.eq_false_or_eq_true (goodB R C l) with hg | hg
  · have HG := Lib.hid hg
    rw [hg]
    clear hg
    by_cases h60 : cs.length ≤ 60
    · have hd : decide ((60 : Int) < (cs.length : Int)) = false := by simp; omega
      have HE := Lib.hid (show (true && decide (cs.length ≤ 60) && allI 0 (C - 1) cs) = allI 0 (C - 1) cs by rw [decide_eq_true h60]; rfl)
      rewrite [HE.out]
      have HB := Lib.hid (fun k (hk : k < cs.length) h => allI_bad (lo := 0) (hi := C - 1) hk h)
      have HAl := Lib.hid (fun (h : ∀ k (hk : k < cs.length), inI 0 (C - 1) cs[k] = true) => (show allI 0 (C - 1) cs = true from by
        unfold allI
        rw [List.all_eq_true]
        intro x hx
        obtain ⟨k, hk, rfl⟩ := List.mem_iff_getElem.1 hx
        exact h k hk))
      clear HE
      go_enter Try.func67, Try.ntmps67
      obtain ⟨v0, hv0⟩ : ∃ v, v = w.alloc (.cells #[.int .i64 R, .int .i64 C, .slice A l.length cap] 39) := ⟨_, rfl⟩; have X0 : Whole v0 w.heap.size 39 [.int .i64 R, .int .i64 C, .slice A l.length cap] := (by rw [hv0]; exact heap_alloc_new w _); have hb : Below w.heap.size w v0 := (by rw [hv0]; exact (Below.refl _ _).alloc (Nat.le_refl _) _); have HV := Lib.hid hv0.symm; clear hv0; go_upto_region 1 with (fail); rewrite [HV.out]; clear HV; have X0k0 : v0.cell? ⟨w.heap.size, 0, none⟩ = some (.int .i64 R) := (X0.cell 0).trans rfl; have X0k1 : v0.cell? ⟨w.heap.size, 1, none⟩ = some (.int .i64 C) := (X0.cell 1).trans rfl; have X0k2 : v0.cell? ⟨w.heap.size, 2, none⟩ = some (.slice A l.length cap) := (X0.cell 2).trans rfl
      go_wp2_with fail
      refine (impl_IsBoard _ _ _ _ l _ hn ((hr.below hb).mono hb.size)).mono ?_; rintro e w1 ⟨rfl, b1⟩
      rewrite [HG.out]
      (clear X0k0 X0k1 X0k2; replace X0 := X0.below b1 X0.lt; replace hb := hb.trans (b1.mono hb.size); clear b1; have X0k0 : w1.cell? ⟨w.heap.size, 0, none⟩ = some (.int .i64 R) := (X0.cell 0).trans rfl; have X0k1 : w1.cell? ⟨w.heap.size, 1, none⟩ = some (.int .i64 C) := (X0.cell 1).trans rfl; have X0k2 : w1.cell? ⟨w.heap.size, 2, none⟩ = some (.slice A l.length cap) := (X0.cell 2).trans rfl)
      clear X0k0 X0k1 X0k2
      go_wp2
      go_loopw [17] (fun i wr => ∃ k : Nat, i = .int .i64 k ∧ k ≤ cs.length ∧ (∀ j (hj : j < cs.length), j < k → inI 0 (C - 1) cs[j] = true) ∧ Whole wr w.heap.size 39 [.int .i64 R, .int .i64 C, .slice A l.length cap] ∧ Below w.heap.size w wr) (fun i _ => cs.length - (intOf i).toNat)
      case atStart => exact ⟨0, rfl, Nat.zero_le _, fun j _ h => absurd h (Nat.not_lt_zero j), X0, hb⟩
      case round =>
        clear X0 hb
        obtain ⟨k, rfl, hk, hall, X0, hb⟩ := hrel
        by_cases hlt : k < cs.length
        · obtain ⟨b, o, rfl, hbl, hc⟩ := hr' (by rw [ints_length]; omega)
          have hck := (hb.cell (p := ⟨b, o + k, none⟩) hbl).trans (hc k _ (ints_at cs k hlt))
          have HBk := Lib.hid (HB.out k hlt)
          have hall' : inI 0 (C - 1) cs[k] = true → ∀ j (hj : j < cs.length), j < k + 1 → inI 0 (C - 1) cs[j] = true := fun h j hj hjk => by
            rcases Nat.lt_or_eq_of_le (Nat.lt_succ_iff.1 hjk) with h1 | rfl
            · exact hall j hj h1
            · exact h
          have HAk := Lib.hid hall'
          have HI := Lib.hid (inI_lt (C := C) (x := cs[k]))
          clear hall hall' hc
          generalize hx : cs[k] = x at *
          have X0k0 : wr.cell? ⟨w.heap.size, 0, none⟩ = some (.int .i64 R) := (X0.cell 0).trans rfl; have X0k1 : wr.cell? ⟨w.heap.size, 1, none⟩ = some (.int .i64 C) := (X0.cell 1).trans rfl; have X0k2 : wr.cell? ⟨w.heap.size, 2, none⟩ = some (.slice A l.length cap) := (X0.cell 2).trans rfl
          go_wp2_with fail
          refine (impl_hasColumn _ _ _ _ _ _ _).mono ?_; rintro e w2 ⟨rfl, b2⟩
          clear X0k0 X0k1 X0k2
          replace X0 := X0.below b2 X0.lt
          replace hb := hb.trans (b2.mono hb.size)
          clear b2
          rewrite [← HI.out]
          rcases Bool.eq_false_or_eq_true (inI 0 (C - 1) x) with h | h
          · rewrite [h]
            have HA2 := Lib.hid (HAk.out h)
            clear h hck
            go_wp2
            go_roundw
            case rel => exact ⟨k + 1, by go_num, by omega, HA2.out, X0, hb⟩
            case measure => simp [intOf]; omega
          · rewrite [h]
            have HB2 := Lib.hid (HBk.out h)
            clear h hck
            go_wp2
            go_returns
            exact ⟨by rw [HB2.out]; rfl, hb⟩
        · obtain rfl : k = cs.length := by omega
          have HA2 := Lib.hid (HAl.out (fun j hj => hall j hj hj))
          clear hall
          go_wp2
          go_returns
          exact ⟨by rw [HA2.out]; rfl, hb⟩
    · have hd : decide ((60 : Int) < (cs.length : Int)) = true := by simp; omega
      have HE := Lib.hid (show (true && decide (cs.length ≤ 60) && allI 0 (C - 1) cs) = false by rw [decide_eq_false h60]; rfl)
      go_enter Try.func67, Try.ntmps67
      obtain ⟨v0, hv0⟩ : ∃ v, v = w.alloc (.cells #[.int .i64 R, .int .i64 C, .slice A l.length cap] 39) := ⟨_, rfl⟩; have X0 : Whole v0 w.heap.size 39 [.int .i64 R, .int .i64 C, .slice A l.length cap] := (by rw [hv0]; exact heap_alloc_new w _); have hb : Below w.heap.size w v0 := (by rw [hv0]; exact (Below.refl _ _).alloc (Nat.le_refl _) _); have HV := Lib.hid hv0.symm; clear hv0; go_upto_region 1 with (fail); rewrite [HV.out]; clear HV; have X0k0 : v0.cell? ⟨w.heap.size, 0, none⟩ = some (.int .i64 R) := (X0.cell 0).trans rfl; have X0k1 : v0.cell? ⟨w.heap.size, 1, none⟩ = some (.int .i64 C) := (X0.cell 1).trans rfl; have X0k2 : v0.cell? ⟨w.heap.size, 2, none⟩ = some (.slice A l.length cap) := (X0.cell 2).trans rfl
      go_wp2_with fail
      refine (impl_IsBoard _ _ _ _ l _ hn ((hr.below hb).mono hb.size)).mono ?_; rintro e w1 ⟨rfl, b1⟩
      rewrite [HG.out]
      (clear X0k0 X0k1 X0k2; replace X0 := X0.below b1 X0.lt; replace hb := hb.trans (b1.mono hb.size); clear b1; have X0k0 : w1.cell? ⟨w.heap.size, 0, none⟩ = some (.int .i64 R) := (X0.cell 0).trans rfl; have X0k1 : w1.cell? ⟨w.heap.size, 1, none⟩ = some (.int .i64 C) := (X0.cell 1).trans rfl; have X0k2 : w1.cell? ⟨w.heap.size, 2, none⟩ = some (.slice A l.length cap) := (X0.cell 2).trans rfl)
      go_wp2
      go_returns
      exact ⟨by rw [HE.out]; rfl, by (repeat' (first | (with_reducible exact Below.refl _ _) | (with_reducible assumption) | (with_reducible refine Below.alloc ?_ ?_ _) | (with_reducible refine Below.setCell ?_ ?_ _) | (with_reducible refine Below.drew ?_) | (with_reducible refine below_drewN ?_ _) | (with_reducible refine Below.trans ?_ (Below.mono (by assumption) ?_)) | (with_reducible exact Nat.le_refl _) | (simp; done) | omega | (simp at *; omega)))⟩
  · have HG := Lib.hid hg
    rw [hg]
    clear hg
    go_enter Try.func67, Try.ntmps67
    obtain ⟨v0, hv0⟩ : ∃ v, v = w.alloc (.cells #[.int .i64 R, .int .i64 C, .slice A l.length cap] 39) := ⟨_, rfl⟩; have X0 : Whole v0 w.heap.size 39 [.int .i64 R, .int .i64 C, .slice A l.length cap] := (by rw [hv0]; exact heap_alloc_new w _); have hb : Below w.heap.size w v0 := (by rw [hv0]; exact (Below.refl _ _).alloc (Nat.le_refl _) _); have HV := Lib.hid hv0.symm; clear hv0; go_upto_region 1 with (fail); rewrite [HV.out]; clear HV; have X0k0 : v0.cell? ⟨w.heap.size, 0, none⟩ = some (.int .i64 R) := (X0.cell 0).trans rfl; have X0k1 : v0.cell? ⟨w.heap.size, 1, none⟩ = some (.int .i64 C) := (X0.cell 1).trans rfl; have X0k2 : v0.cell? ⟨w.heap.size, 2, none⟩ = some (.slice A l.length cap) := (X0.cell 2).trans rfl
    go_wp2_with fail
    refine (impl_IsBoard _ _ _ _ l _ hn ((hr.below hb).mono hb.size)).mono ?_; rintro e w1 ⟨rfl, b1⟩
    rewrite [HG.out]
    (clear X0k0 X0k1 X0k2; replace X0 := X0.below b1 X0.lt; replace hb := hb.trans (b1.mono hb.size); clear b1; have X0k0 : w1.cell? ⟨w.heap.size, 0, none⟩ = some (.int .i64 R) := (X0.cell 0).trans rfl; have X0k1 : w1.cell? ⟨w.heap.size, 1, none⟩ = some (.int .i64 C) := (X0.cell 1).trans rfl; have X0k2 : w1.cell? ⟨w.heap.size, 2, none⟩ = some (.slice A l.length cap) := (X0.cell 2).trans rfl)
    go_wp2
    go_returns
    exact ⟨rfl, by (repeat' (first | (with_reducible exact Below.refl _ _) | (with_reducible assumption) | (with_reducible refine Below.alloc ?_ ?_ _) | (with_reducible refine Below.setCell ?_ ?_ _) | (with_reducible refine Below.drew ?_) | (with_reducible refine below_drewN ?_ _) | (with_reducible refine Below.trans ?_ (Below.mono (by assumption) ?_)) | (with_reducible exact Nat.le_refl _) | (simp; done) | omega | (simp at *; omega)))⟩
theorem impl_areEntries1 (R C : Int) (A : Option Addr) (cap : Nat) (l : List (Int × Int)) (j : Int) (g : Nat) (w : World) (hn : l.length ≤ 1048576) (hr : Rd w w.heap.size A (flat l)) (hg : Whole w g 3 [.int .i64 j]) :
    Calls Try.prog 67 #[.agg #[.int .i64 R, .int .i64 C, .slice A l.length cap], .slice (some ⟨g, 0, none⟩) 1 1] w fun e w' => e = .returned (.bool (okF R C l j)) ∧ Below w.heap.size w w' := by
  rw [← okC'_one]
  exact impl_areEntries R C A cap l (some ⟨g, 0, none⟩) 1 [j] w hn (by simp) hr (hg.rd hg.lt)
end Go.Proofs.Ytlambflmabecfaa
namespace Go.Proofs.Ytlambflmabecfaa
open Go.ChangeShapes Go.WideShapes Go.ChangeAt Go.RowKit Go.Joins Go.Deep
set_option linter.unusedSimpArgs false
set_option linter.unusedVariables false
set_option maxRecDepth 100000
set_option maxHeartbeats 4000000
end Go.Proofs.Ytlambflmabecfaa
namespace Go.Proofs.Ytlambflmabecfaa
open Go.ChangeShapes Go.WideShapes Go.ChangeAt Go.RowKit Go.Joins Go.Deep
set_option linter.unusedSimpArgs false
set_option linter.unusedVariables false
set_option maxRecDepth 100000
set_option maxHeartbeats 4000000
theorem flG_num (nm : List Int) (r c : Nat) : ∀ (n row : Nat) (l : List (Int × Int)) (col : Nat) (side : Int) (way : List (List Nat)), numL c (flG nm r c n row l col side way).cells = numL c l
  | 0, _, _, _, _, _ => rfl
  | n + 1, row, l, col, side, way => by
    rw [flG_step nm r c n row l col side way _ _ rfl rfl]
    split
    · rfl
    · split
      · rw [flG_num nm r c n, passL_num]
      · exact passL_num _ _ _ _
theorem stA_num (nm : List Int) (r c : Nat) (l : List (Int × Int)) (cs : List Int) : ∀ k, numL c (stA nm r c l cs k).2 = numL c l
  | 0 => rfl
  | k + 1 => by
    unfold stA
    rw [flG_num]
    exact stA_num nm r c l cs k
theorem run_make_falls0 (n : Nat) (hn : n ≤ 1048576) (w : World) :
    (Instr.makeSlice 89 (.int .i64 0) (.int .i64 (n : Int))).run Try.prog w = .ok (.slice (some ⟨w.heap.size, 0, none⟩) 0 n) (w.alloc (.cells (zrow (3 * n)).toArray 59)) := by
  obtain ⟨i0, hi, hz0, hz1, hz2⟩ := info_parts fallInfo
  have h := run_make (P := Try.prog) w 89 59 i0 _ Try.underlying89 hi hz0 .i64 .i64 0 (n : Int) (by omega) (by omega) (by rw [hz2]; omega) (by omega)
  rw [hz1] at h
  simp only [Int.toNat_natCast] at h
  have e : madeCells (Value.agg #[.int .i64 0, .int .i64 0, .int .i64 0]).cells (n * 3) = (zrow (3 * n)).toArray := by
    apply Array.ext
    · simp [madeCells, zrow]; omega
    · intro i h1 h2
      have h3 : i % 3 = 0 ∨ i % 3 = 1 ∨ i % 3 = 2 := by omega
      rcases h3 with h3 | h3 | h3 <;> simp [madeCells, zrow, Value.cells, h3]
  rw [h, e]
  rfl
theorem two_cells3 {w : World} {o : Obj} {x y z : Value} {t : TypeId} : ∀ j u, [x, y, z][j]? = some u → ((w.alloc o).alloc (.cells #[x, y, z] t)).cell? ((⟨w.heap.size + 1, 0, none⟩ : Addr).add j) = some u := by
  intro j u h
  have hn := heap_alloc_new (w.alloc o) (.cells #[x, y, z] t)
  rw [World.size_alloc] at hn
  have hw : Whole ((w.alloc o).alloc (.cells #[x, y, z] t)) (w.heap.size + 1) t [x, y, z] := hn
  have hj := hw.cell j
  rw [h] at hj
  rw [← hj]
  by_cases h0 : j = 0
  · subst h0; simp [Addr.add]
  · simp [Addr.add, h0]
/-- Ends of marbles, a board, and whether it succeeds: all the call's own. -/
def PostF (w : World) (R C : Int) (l : List (Int × Int)) (fs : List (Int × Int × Int)) (ok : Bool) (e : Ending) (w' : World) : Prop :=
  ∃ A cp A5 c5, e = .returned (.tuple #[.slice A fs.length cp, .agg #[.int .i64 R, .int .i64 C, .slice A5 l.length c5], .bool ok]) ∧ Own w' A 59 (flatF fs) ∧ New w A ∧ Own w' A5 104 (flat l) ∧ New w A5 ∧ Below w.heap.size w w'
theorem PostF.of_row {w w' : World} {R C : Int} {l : List (Int × Int)} {fs : List (Int × Int × Int)} {ok : Bool} {v : Value} {n : Nat} {A5 : Option Addr} {c5 : Nat} (hn : fs.length = n) (h : w'.ownsRow w.heap.size 59 3 v n (flatF fs)) (O5 : Own w' A5 104 (flat l)) (N5 : New w A5) (b : Below w.heap.size w w') :
    PostF w R C l fs ok (.returned (.tuple #[v, .agg #[.int .i64 R, .int .i64 C, .slice A5 l.length c5], .bool ok])) w' := by
  subst hn
  obtain ⟨A, cp, rfl⟩ := slice_of_row h
  have ho := own_of_row h
  exact ⟨A, cp, A5, c5, rfl, ho.1, ho.2, O5, N5, b⟩
theorem fallsO_len (R C : Int) (l : List (Int × Int)) (cs : List Int) (hn : l.length ≤ 1048576) (hn' : cs.length ≤ 1048576) : (fallsO R C l cs).1.length ≤ 1048576 ∧ (fallsO R C l cs).2.length ≤ 1048576 := by
  unfold fallsO
  split
  · obtain ⟨h1, h2⟩ := stA_len (numL C.toNat l) R.toNat C.toNat l cs cs.length
    exact ⟨by rw [h1]; exact hn', by rw [h2]; exact hn⟩
  · exact ⟨by simp, by simp⟩
end Go.Proofs.Ytlambflmabecfaa
namespace Go.Proofs.Ytlambflmabecfaa
open Go.ChangeShapes Go.WideShapes Go.ChangeAt Go.RowKit Go.Joins Go.Deep
set_option linter.unusedSimpArgs false
set_option linter.unusedVariables false
set_option maxRecDepth 100000
set_option maxHeartbeats 4000000
theorem own_fall {w : World} {k : Nat} {A : Option Addr} {x : List (Int × Int × Int)} (ho : Own w A 59 (flatF x)) (hk : k < x.length) : ∃ g, A = some ⟨g, 0, none⟩ ∧ g < w.heap.size ∧ w.cell? ⟨g, k * 3, none⟩ = some (.int .i64 (x.getD k (0, 0, 0)).1) ∧ w.cell? ⟨g, k * 3 + 1, none⟩ = some (.int .i64 (x.getD k (0, 0, 0)).2.1) ∧ w.cell? ⟨g, k * 3 + 2, none⟩ = some (.int .i64 (x.getD k (0, 0, 0)).2.2) := by
  obtain ⟨g, rest, rfl, X⟩ := ho (by rw [flatF_len]; omega)
  obtain ⟨h0, h1, h2⟩ := flatF_at x k hk
  have hlen := flatF_len x
  refine ⟨g, rfl, X.lt, (X.cell _).trans ?_, (X.cell _).trans ?_, (X.cell _).trans ?_⟩
  · rw [List.getElem?_append_left (by omega)]; exact h0
  · rw [List.getElem?_append_left (by omega)]; exact h1
  · rw [List.getElem?_append_left (by omega)]; exact h2
theorem okD_and (R C : Int) (l : List (Int × Int)) (R' C' : Int) (m : List (Int × Int)) (cs : List Int) : okD R C l R' C' m cs = (okC' R C l cs && okC' R' C' m cs && decide (C = C')) := by
  unfold okD
  by_cases hC : C = C'
  · subst hC
    rw [decide_eq_true rfl, Bool.and_true, Bool.and_true]
    unfold okC'
    cases goodB R C l <;> cases goodB R' C m <;> cases decide (cs.length ≤ 60) <;> cases allI 0 (C - 1) cs <;> rfl
  · rw [decide_eq_false hC, Bool.and_false, Bool.and_false]
theorem firstD_falls {R C : Int} {l : List (Int × Int)} {R' C' : Int} {m : List (Int × Int)} {cs : List Int} (hc : okC' R C l cs = true) (hm : okC' R' C' m cs = true) (hC : C = C') : firstD R C l R' C' m cs = firstAt (fallsO R C l cs).1 (fallsO R' C' m cs).1 (fallsO R C l cs).1.length 0 := by
  have e : (fallsO R C l cs).1.length = cs.length := by unfold fallsO; rw [hc, if_pos rfl]; exact (stA_len _ _ _ _ _ _).1
  rw [e]
  unfold firstD fallsO
  rw [okD_and, hc, hm, decide_eq_true hC]
  rfl
theorem firstD_none {R C : Int} {l : List (Int × Int)} {R' C' : Int} {m : List (Int × Int)} {cs : List Int} (h : okD R C l R' C' m cs = false) : firstD R C l R' C' m cs = none := by
  unfold firstD
  rw [h]
  rfl
end Go.Proofs.Ytlambflmabecfaa
namespace Go.Proofs.Ytlambflmabecfaa
open Go.ChangeShapes Go.WideShapes Go.ChangeAt Go.RowKit Go.Joins Go.Deep
set_option linter.unusedSimpArgs false
set_option linter.unusedVariables false
set_option maxRecDepth 100000
set_option maxHeartbeats 1000000
def cStep (c : Nat) (v : List Int) (f : Int × Int × Int) : List Int :=
  if f.1 = 1 then v.set f.2.2.toNat (v.getD f.2.2.toNat 0 + 1) else if f.1 = 2 then v.set c (v.getD c 0 + 1) else v.set (c + 1) (v.getD (c + 1) 0 + 1)
def cntK (c : Nat) (fs : List (Int × Int × Int)) : Nat → List Int
  | 0 => List.replicate (c + 2) 0
  | k + 1 => cStep c (cntK c fs k) (fs.getD k (0, 0, 0))
theorem cStep_len (c : Nat) (v : List Int) (f : Int × Int × Int) : (cStep c v f).length = v.length := by
  unfold cStep
  split
  · rw [List.length_set]
  · split <;> rw [List.length_set]
theorem cntK_len (c : Nat) (fs : List (Int × Int × Int)) : ∀ k, (cntK c fs k).length = c + 2
  | 0 => by simp [cntK]
  | k + 1 => by rw [cntK, cStep_len]; exact cntK_len c fs k
theorem set_bd {v : List Int} {j : Nat} {b : Int} (h : ∀ i, 0 ≤ v.getD i 0 ∧ v.getD i 0 ≤ b) : ∀ i, 0 ≤ (v.set j (v.getD j 0 + 1)).getD i 0 ∧ (v.set j (v.getD j 0 + 1)).getD i 0 ≤ b + 1 := fun i => by
  have h1 := h i
  have h2 := h j
  rw [List.getD_eq_getElem?_getD, List.getElem?_set]
  by_cases e : j = i
  · rw [if_pos e]
    by_cases hl : j < v.length
    · rw [if_pos hl]
      show 0 ≤ v.getD j 0 + 1 ∧ v.getD j 0 + 1 ≤ b + 1
      omega
    · rw [if_neg hl]
      show (0 : Int) ≤ 0 ∧ (0 : Int) ≤ b + 1
      omega
  · rw [if_neg e, ← List.getD_eq_getElem?_getD]
    omega
theorem cntK_bd (c : Nat) (fs : List (Int × Int × Int)) : ∀ k i, 0 ≤ (cntK c fs k).getD i 0 ∧ (cntK c fs k).getD i 0 ≤ k
  | 0, i => by
    have e : (cntK c fs 0).getD i 0 = 0 := by
      unfold cntK
      rw [List.getD_eq_getElem?_getD, List.getElem?_replicate]
      split <;> rfl
    rw [e]
    omega
  | k + 1, i => by
    have ih := cntK_bd c fs k
    rw [cntK]
    unfold cStep
    push_cast
    split
    · exact set_bd ih i
    · split
      · exact set_bd ih i
      · exact set_bd ih i
def okE (c : Nat) (f : Int × Int × Int) : Prop := (f.1 = 1 ∧ 0 ≤ f.2.2 ∧ f.2.2 < c) ∨ f.1 = 2 ∨ f.1 = 3
theorem flG_okE (nm : List Int) (r c : Nat) : ∀ (n row : Nat) (l : List (Int × Int)) (col : Nat) (side : Int) (way : List (List Nat)), col < c → okE c ((flG nm r c n row l col side way).e, (flG nm r c n row l col side way).row, (flG nm r c n row l col side way).col)
  | 0, _, _, _, _, _, h => .inl ⟨rfl, by show (0 : Int) ≤ ((_ : Nat) : Int); omega, by show (((_ : Nat) : Int)) < _; omega⟩
  | n + 1, row, l, col, side, way, h => by
    rw [flG_step nm r c n row l col side way _ _ rfl rfl]
    split
    · exact .inr (.inl rfl)
    · split
      · next hin => exact flG_okE nm r c n _ _ _ _ _ (by omega)
      · exact .inr (.inr rfl)
theorem stA_okE (nm : List Int) (r c : Nat) (l : List (Int × Int)) (cs : List Int) (hcs : ∀ k, k < cs.length → 0 ≤ cs.getD k 0 ∧ cs.getD k 0 < c) : ∀ k, k ≤ cs.length → ∀ i, i < k → okE c ((stA nm r c l cs k).1.getD i (0, 0, 0))
  | 0, _, i, h => absurd h (Nat.not_lt_zero i)
  | k + 1, hk, i, h => by
    have hl := (stA_len nm r c l cs k).1
    have hc := hcs k (by omega)
    unfold stA
    rw [List.getD_eq_getElem?_getD]
    by_cases e : i < k
    · rw [List.getElem?_append_left (by omega), ← List.getD_eq_getElem?_getD]
      exact stA_okE nm r c l cs hcs k (by omega) i e
    · have e2 : i = k := by omega
      subst e2
      rw [List.getElem?_append_right (by omega), hl, Nat.sub_self]
      exact flG_okE nm r c r 0 _ _ _ _ (by omega)
theorem ints_setI (v : List Int) (j : Nat) (x : Int) : (ints v).set j (.int .i64 x) = ints (v.set j x) := by
  unfold ints
  rw [List.map_set]
theorem zrow_ints (n : Nat) : zrow n = ints (List.replicate n 0) := by
  unfold zrow ints
  rw [List.map_replicate]
theorem ints_getD (v : List Int) (j : Nat) (h : j < v.length) : (ints v)[j]? = some (.int .i64 (v.getD j 0)) := by
  rw [ints_at v j h, List.getD_eq_getElem?_getD, List.getElem?_eq_getElem h]
  rfl
def arrL (R C : Int) (l : List (Int × Int)) (cs : List Int) : List Int := if okC' R C l cs then cntK C.toNat (fallsO R C l cs).1 cs.length else []
theorem arrL_len (R C : Int) (l : List (Int × Int)) (cs : List Int) : (arrL R C l cs).length ≤ 1048576 := by
  unfold arrL
  split
  · next h =>
    obtain ⟨hg, _, _⟩ := okC'_parts h
    obtain ⟨s1, s2, s3, s4⟩ := sizeB_iff.1 (goodB_iff.1 hg).1
    rw [cntK_len]
    omega
  · simp
theorem run_make_c2 (c : Nat) (hc : c ≤ 9) (w : World) :
    (Instr.makeSlice 47 (.int .i64 ((c : Int) + 2)) (.int .i64 ((c : Int) + 2))).run Try.prog w = .ok (.slice (some ⟨w.heap.size, 0, none⟩) (c + 2) (c + 2)) (w.alloc (.cells (zrow (c + 2)).toArray 3)) := by
  have h := run_make_ints (c + 2) (by omega) w
  push_cast at h
  exact h
theorem set_row {w : World} {A : Option Addr} {t t' : TypeId} {xs : List Value} {g j : Nat} {ys : List Value} {u : Value} (h : Own w A t xs) (hw : Whole w g t' ys) (hne : t ≠ t') : Own (w.setCell ⟨g, j, none⟩ u) A t xs :=
  h.apart hw hne ⟨rfl, rfl, rfl, by rw [World.size_setCell]; exact Nat.le_refl _, fun k _ hk => Below.heap_setCell _ _ _ _ (fun e => hk (by rw [e]))⟩
end Go.Proofs.Ytlambflmabecfaa
namespace Go.Proofs.Ytlambflmabecfaa
open Go.ChangeShapes Go.WideShapes Go.ChangeAt Go.RowKit Go.Joins Go.Deep
set_option linter.unusedSimpArgs false
set_option linter.unusedVariables false
set_option maxRecDepth 100000
set_option maxHeartbeats 1000000
theorem heldCell : Try.prog.stoodInHeld 104 = false := by kernel_rfl
theorem guardCell : Try.prog.eqGuardType Try.prog.depth 104 = false := by kernel_rfl
def diffTo (l m : List (Int × Int)) : Nat → List Int
  | 0 => []
  | k + 1 => if l.getD k (0, 0) = m.getD k (0, 0) then diffTo l m k else diffTo l m k ++ [(k : Int)]
theorem diffTo_le (l m : List (Int × Int)) (k : Nat) : (diffTo l m k).length ≤ k := by
  induction k with
  | zero => exact Nat.le_refl 0
  | succ k ih =>
    show (if l.getD k (0, 0) = m.getD k (0, 0) then diffTo l m k else diffTo l m k ++ [(k : Int)]).length ≤ k + 1
    split
    · omega
    · rw [List.length_append, List.length_singleton]; omega
def sameB (R C : Int) (l : List (Int × Int)) (R' C' : Int) (m : List (Int × Int)) : Bool := goodB R C l && goodB R' C' m && decide (R = R' ∧ C = C')
def diffB (R C : Int) (l : List (Int × Int)) (R' C' : Int) (m : List (Int × Int)) : List Int := if sameB R C l R' C' m then diffTo l m l.length else []
theorem diffB_len (R C : Int) (l : List (Int × Int)) (R' C' : Int) (m : List (Int × Int)) (h : l.length ≤ 1048576) : (diffB R C l R' C' m).length ≤ 1048576 := by
  unfold diffB
  have := diffTo_le l m l.length
  split
  · omega
  · simp
theorem getD_at {l : List (Int × Int)} {k : Nat} (h : k < l.length) : l.getD k (0, 0) = l[k] := by rw [List.getD_eq_getElem?_getD, List.getElem?_eq_getElem h]; rfl
theorem diffTo_no {l m : List (Int × Int)} {k : Nat} (h : k < l.length) (h' : k < m.length) (e : l[k].1 = m[k].1 ∧ l[k].2 = m[k].2) : diffTo l m (k + 1) = diffTo l m k := by
  show (if l.getD k (0, 0) = m.getD k (0, 0) then _ else _) = _
  rw [getD_at h, getD_at h', if_pos (Prod.ext e.1 e.2)]
theorem diffTo_yes {l m : List (Int × Int)} {k : Nat} (h : k < l.length) (h' : k < m.length) (e : ¬ (l[k].1 = m[k].1 ∧ l[k].2 = m[k].2)) : ints (diffTo l m (k + 1)) = ints (diffTo l m k) ++ [.int .i64 (k : Int)] ∧ (diffTo l m (k + 1)).length = (diffTo l m k).length + 1 := by
  have h2 : diffTo l m (k + 1) = diffTo l m k ++ [(k : Int)] := by
    show (if l.getD k (0, 0) = m.getD k (0, 0) then _ else _) = _
    rw [getD_at h, getD_at h', if_neg (fun x => e (by rw [x]; exact ⟨rfl, rfl⟩))]
  rw [h2]
  simp [ints]
theorem sameB_iff {R C : Int} {l : List (Int × Int)} {R' C' : Int} {m : List (Int × Int)} : sameB R C l R' C' m = true ↔ goodB R C l = true ∧ goodB R' C' m = true ∧ R = R' ∧ C = C' := by
  unfold sameB
  rw [Bool.and_eq_true, Bool.and_eq_true, decide_eq_true_eq, and_assoc]
theorem good_len {R C : Int} {l m : List (Int × Int)} (h : goodB R C l = true) (h' : goodB R C m = true) : l.length = m.length := by
  have h1 := (goodB_iff.1 h).2.1
  have h2 := (goodB_iff.1 h').2.1
  omega
end Go.Proofs.Ytlambflmabecfaa
namespace Go.Proofs.Ytlambflmabecfaa
open Go.ChangeShapes Go.WideShapes Go.ChangeAt Go.RowKit Go.Joins Go.Deep
set_option linter.unusedSimpArgs false
set_option linter.unusedVariables false
set_option maxRecDepth 100000
set_option maxHeartbeats 4000000
def turnedL (R C : Int) (l : List (Int × Int)) (j : Int) : List Int := if okF R C l j then diffTo l (marO R C l j).cells l.length else []
theorem turnedL_len (R C : Int) (l : List (Int × Int)) (j : Int) (hn : l.length ≤ 1048576) : (turnedL R C l j).length ≤ 1048576 := by
  unfold turnedL
  have := diffTo_le l (marO R C l j).cells l.length
  split
  · omega
  · simp
end Go.Proofs.Ytlambflmabecfaa
namespace Go.Proofs.Ytlambflmabecfaa
open Go.ChangeShapes Go.WideShapes Go.ChangeAt Go.RowKit Go.Joins Go.Deep
set_option linter.unusedSimpArgs false
set_option linter.unusedVariables false
set_option maxRecDepth 100000
set_option maxHeartbeats 4000000
theorem marO_good {r c : Nat} {l : List (Int × Int)} {col : Nat} (hg : goodB (r : Int) (c : Int) l = true) (hcol : col < c) : goodB (r : Int) (c : Int) (marO (r : Int) (c : Int) l (col : Int)).cells = true := by
  obtain ⟨h1, h2, h3⟩ := goodB_iff.1 hg
  refine goodB_iff.2 ⟨h1, by rw [marO_len]; exact h2, ?_⟩
  have hl : l.length = r * c := by
    have e : (l.length : Int) = ((r * c : Nat) : Int) := by rw [h2]; push_cast; rfl
    omega
  exact flG_good _ r c r 0 l _ _ _ hl (by omega) hcol h3
end Go.Proofs.Ytlambflmabecfaa
namespace Go.Proofs.Ytlambflmabecfaa
open Go.ChangeShapes Go.WideShapes Go.ChangeAt Go.RowKit Go.Joins Go.Deep
set_option linter.unusedSimpArgs false
set_option linter.unusedVariables false
set_option maxRecDepth 100000
set_option maxHeartbeats 1000000
/-- A machine's state in a run: cells, marbles left, the next colour; colours and ends so far. -/
structure MSt where
  l : List (Int × Int)
  bl : Int
  rd : Int
  nx : Int
  cs : List Int
  fs : List (Int × Int × Int)
def inM (lo hi n : Int) : Bool := decide (lo ≤ n) && decide (n ≤ hi)
def okM (R C : Int) (l : List (Int × Int)) (p q bl rd nx : Int) : Bool := okF R C l p && okF R C l q && inM 0 30 bl && inM 0 30 rd && inM 0 2 nx
def canM (bl rd nx : Int) : Bool := decide (nx = 0 ∧ 0 < bl ∨ nx = 1 ∧ 0 < rd)
def colM (p q nx : Int) : Int := if nx = 0 then p else q
def nextM (C : Int) (F : FlR) : Int := if F.e = 1 then (if 2 * F.col < C then 0 else 1) else 2
def stepM (R C p q : Int) (s : MSt) : MSt :=
  ⟨(marO R C s.l (colM p q s.nx)).cells, if s.nx = 0 then s.bl - 1 else s.bl, if s.nx = 0 then s.rd else s.rd - 1, nextM C (marO R C s.l (colM p q s.nx)), s.cs ++ [s.nx],
    s.fs ++ [((marO R C s.l (colM p q s.nx)).e, (marO R C s.l (colM p q s.nx)).row, (marO R C s.l (colM p q s.nx)).col)]⟩
def runM (R C p q : Int) : Nat → MSt → MSt
  | 0, s => s
  | n + 1, s => if canM s.bl s.rd s.nx then runM R C p q n (stepM R C p q s) else s
theorem runM_stop {R C p q : Int} {n : Nat} {s : MSt} (h : canM s.bl s.rd s.nx = false) : runM R C p q n s = s := by
  cases n with
  | zero => rfl
  | succ n => rw [runM, h]; rfl
theorem runM_go {R C p q : Int} {n : Nat} {s : MSt} (h : canM s.bl s.rd s.nx = true) : runM R C p q (n + 1) s = runM R C p q n (stepM R C p q s) := by
  rw [runM, h]; rfl
theorem okM_parts {R C : Int} {l : List (Int × Int)} {p q bl rd nx : Int} (h : okM R C l p q bl rd nx = true) : okF R C l p = true ∧ okF R C l q = true ∧ 0 ≤ bl ∧ bl ≤ 30 ∧ 0 ≤ rd ∧ rd ≤ 30 ∧ 0 ≤ nx ∧ nx ≤ 2 := by
  unfold okM inM at h
  simp only [Bool.and_eq_true, decide_eq_true_eq] at h
  exact ⟨h.1.1.1.1, h.1.1.1.2, h.1.1.2.1, h.1.1.2.2, h.1.2.1, h.1.2.2, h.2.1, h.2.2⟩
theorem colM_or (p q nx : Int) : colM p q nx = p ∨ colM p q nx = q := by
  unfold colM
  split
  · exact .inl rfl
  · exact .inr rfl
theorem canM_iff {bl rd nx : Int} : canM bl rd nx = true ↔ (nx = 0 ∧ 0 < bl ∨ nx = 1 ∧ 0 < rd) := by
  unfold canM
  exact decide_eq_true_iff
/-- What stands in each state of a run. -/
structure MOk (R C p q : Int) (n : Nat) (s : MSt) : Prop where
  len : s.l.length = n
  good : goodB R C s.l = true
  bl0 : 0 ≤ s.bl
  bl1 : s.bl ≤ 30
  rd0 : 0 ≤ s.rd
  rd1 : s.rd ≤ 30
  nx0 : 0 ≤ s.nx
  nx1 : s.nx ≤ 2
  same : s.cs.length = s.fs.length
  few : s.fs.length + s.bl.toNat + s.rd.toNat ≤ 60
theorem nextM_range (C : Int) (F : FlR) : 0 ≤ nextM C F ∧ nextM C F ≤ 2 := by
  unfold nextM
  split
  · split <;> omega
  · omega
theorem MOk.step {r c : Nat} {p q : Int} {n : Nat} {s : MSt} (h : MOk (r : Int) (c : Int) p q n s) (hp : 0 ≤ p ∧ p < c) (hq : 0 ≤ q ∧ q < c) (hc : canM s.bl s.rd s.nx = true) : MOk (r : Int) (c : Int) p q n (stepM (r : Int) (c : Int) p q s) := by
  obtain ⟨col, hcol, hlt⟩ : ∃ k : Nat, colM p q s.nx = (k : Int) ∧ k < c := by
    rcases colM_or p q s.nx with e | e
    · exact ⟨p.toNat, by rw [e]; omega, by omega⟩
    · exact ⟨q.toNat, by rw [e]; omega, by omega⟩
  have hn := nextM_range (c : Int) (marO (r : Int) (c : Int) s.l (colM p q s.nx))
  have h1 := h.bl0
  have h2 := h.bl1
  have h3 := h.rd0
  have h4 := h.rd1
  have h5 := h.few
  rw [canM_iff] at hc
  refine ⟨?_, ?_, ?_, ?_, ?_, ?_, hn.1, hn.2, ?_, ?_⟩
  · show (marO (r : Int) (c : Int) s.l (colM p q s.nx)).cells.length = n
    rw [marO_len]
    exact h.len
  · show goodB (r : Int) (c : Int) (marO (r : Int) (c : Int) s.l (colM p q s.nx)).cells = true
    rw [hcol]
    exact marO_good h.good hlt
  · show 0 ≤ (if s.nx = 0 then s.bl - 1 else s.bl)
    split <;> omega
  · show (if s.nx = 0 then s.bl - 1 else s.bl) ≤ 30
    split <;> omega
  · show 0 ≤ (if s.nx = 0 then s.rd else s.rd - 1)
    split <;> omega
  · show (if s.nx = 0 then s.rd else s.rd - 1) ≤ 30
    split <;> omega
  · show (s.cs ++ [s.nx]).length = (s.fs ++ [_]).length
    rw [List.length_append, List.length_append, h.same]
    rfl
  · show (s.fs ++ [_]).length + (if s.nx = 0 then s.bl - 1 else s.bl).toNat + (if s.nx = 0 then s.rd else s.rd - 1).toNat ≤ 60
    rw [List.length_append, List.length_singleton]
    split <;> omega
theorem MOk.run {r c : Nat} {p q : Int} {m : Nat} (hp : 0 ≤ p ∧ p < c) (hq : 0 ≤ q ∧ q < c) : ∀ (n : Nat) (s : MSt), MOk (r : Int) (c : Int) p q m s → MOk (r : Int) (c : Int) p q m (runM (r : Int) (c : Int) p q n s)
  | 0, _, h => h
  | n + 1, s, h => by
    rcases Bool.eq_false_or_eq_true (canM s.bl s.rd s.nx) with hc | hc
    · rw [runM_go hc]
      exact MOk.run hp hq n _ (h.step hp hq hc)
    · rw [runM_stop hc]
      exact h
theorem MOk.start {R C : Int} {l : List (Int × Int)} {p q bl rd nx : Int} (h : okM R C l p q bl rd nx = true) : MOk R C p q l.length ⟨l, bl, rd, nx, [], []⟩ := by
  obtain ⟨h1, h2, h3, h4, h5, h6, h7, h8⟩ := okM_parts h
  exact ⟨rfl, (okF_parts h1).1, h3, h4, h5, h6, h7, h8, rfl, by show 0 + bl.toNat + rd.toNat ≤ 60; omega⟩
end Go.Proofs.Ytlambflmabecfaa
