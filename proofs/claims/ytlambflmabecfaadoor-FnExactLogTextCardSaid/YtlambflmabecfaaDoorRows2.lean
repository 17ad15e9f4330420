/- Small facts on rows and cells that come again. -/
import Derived.Test.YtlambflmabecfaaDoorGrow
import Derived.Test.YtlambflmabecfaaDoorValid
namespace Go.Proofs.YtlambflmabecfaaDoor
open Go.ChangeShapes Go.WideShapes Go.ChangeAt Go.RowKit Go.Joins Go.Deep
set_option linter.unusedSimpArgs false
set_option linter.unusedVariables false
set_option maxRecDepth 100000
theorem cell_at2 {w w' : World} {b o : Nat} {l : List (Int × Int)} (hb : Below w.heap.size w w') (hbl : b < w.heap.size) (hc : ∀ j u, (flat l)[j]? = some u → w.cell? ⟨b, o + j, none⟩ = some u) {k : Nat} (h : k < l.length) :
    w'.cell? ⟨b, o + k * 2, none⟩ = some (.int .i64 l[k].1) ∧ w'.cell? ⟨b, o + k * 2 + 1, none⟩ = some (.int .i64 l[k].2) :=
  ⟨(hb.cell (p := ⟨b, _, none⟩) hbl).trans (hc _ _ (flat_at l k h).1), (hb.cell (p := ⟨b, _, none⟩) hbl).trans (hc _ _ (flat_at l k h).2)⟩
theorem row_keep2 {w v w' : World} {base : Nat} {e : TypeId} {size n : Nat} {u : Value} {xs : List Value} (h : w.ownsRow base e size u n xs) (ha : Below w.heap.size w v) (hb : Below v.heap.size v w') : w'.ownsRow base e size u n xs := row_keep (row_keep h ha) hb
theorem slice_of_row {w : World} {base : Nat} {e : TypeId} {size n : Nat} {v : Value} {xs : List Value} (h : w.ownsRow base e size v n xs) : ∃ A cap, v = .slice A n cap := by
  rcases h.2 with ⟨rfl, h0⟩ | ⟨g, cap, _, rfl, _⟩
  · exact ⟨none, 0, by rw [h0]⟩
  · exact ⟨_, _, rfl⟩
theorem good_turn {l : List (Int × Int)} (h : goodL l = true) {k : Nat} (hk : k < l.length) : good l[k].1 l[k].2 = true := by
  unfold goodL at h
  rw [Bool.and_eq_true, List.all_eq_true] at h
  exact h.2 _ (List.getElem_mem hk)
theorem goodB_parts {R C : Int} {l : List (Int × Int)} (h : goodB R C l = true) : goodL l = true ∧ l.length ≤ 90 ∧ 0 < l.length := by
  unfold goodB at h
  simp only [Bool.and_eq_true, decide_eq_true_eq] at h
  have hm := mul_bound h.1.1
  have hl := h.1.2
  refine ⟨?_, by omega, by omega⟩
  unfold goodL
  rw [decide_eq_true (by omega : l.length ≤ 90), Bool.true_and]
  exact h.2
theorem goodB_iff {R C : Int} {l : List (Int × Int)} : goodB R C l = true ↔ sizeB R C = true ∧ (l.length : Int) = R * C ∧ ∀ c ∈ l, good c.1 c.2 = true := by
  unfold goodB
  rw [Bool.and_eq_true, Bool.and_eq_true, decide_eq_true_eq, List.all_eq_true, and_assoc]
/-- A row of one type and a block of another are apart. -/
theorem row_apart {w : World} {base : Nat} {e t : TypeId} {size n g : Nat} {v : Value} {xs ys : List Value} (h : w.ownsRow base e size v n xs) (hw : Whole w g t ys) (hne : e ≠ t) : some g ≠ v.ownBlock := by
  rcases h.2 with ⟨rfl, _⟩ | ⟨k, cap, cur, rfl, _, hh, _⟩
  · intro h; cases h
  · intro h
    obtain rfl : g = k := by simpa [Value.ownBlock] using h
    unfold Whole at hw
    rw [hw] at hh
    cases hh
    exact hne rfl
theorem Whole.grown {w w' : World} {g : Nat} {t : TypeId} {xs : List Value} {row : Option Nat} (h : Whole w g t xs) (hg : w.grownBy w' row) (hne : some g ≠ row) : Whole w' g t xs := (hg.block g h.lt hne).trans h
theorem two_boxes (w : World) (a : List Value) (ta : TypeId) (b : List Value) (tb : TypeId) : ∃ v, (w.alloc (.cells a.toArray ta)).alloc (.cells b.toArray tb) = v ∧
    Whole v w.heap.size ta a ∧ Whole v (w.heap.size + 1) tb b ∧ Below w.heap.size w v ∧ v.heap.size = w.heap.size + 2 := by
  refine ⟨_, rfl, Whole.alloc (heap_alloc_new w _) _, ?_, ((Below.refl _ _).alloc (Nat.le_refl _) _).alloc (by rw [World.size_alloc]; omega) _, by rw [World.size_alloc, World.size_alloc]⟩
  have h := heap_alloc_new (w.alloc (.cells a.toArray ta)) (.cells b.toArray tb)
  rw [World.size_alloc] at h
  exact h
theorem three_boxes (w : World) (a : List Value) (ta : TypeId) (b : List Value) (tb : TypeId) (c : List Value) (tc : TypeId) : ∃ v, ((w.alloc (.cells a.toArray ta)).alloc (.cells b.toArray tb)).alloc (.cells c.toArray tc) = v ∧
    Whole v w.heap.size ta a ∧ Whole v (w.heap.size + 1) tb b ∧ Whole v (w.heap.size + 1 + 1) tc c ∧ Below w.heap.size w v ∧ v.heap.size = w.heap.size + 3 := by
  obtain ⟨v, hv, x0, x1, b0, hz⟩ := two_boxes w a ta b tb
  rw [hv]
  refine ⟨_, rfl, x0.alloc _, x1.alloc _, ?_, b0.alloc (by omega) _, by rw [World.size_alloc]; omega⟩
  have h := heap_alloc_new v (.cells c.toArray tc)
  rw [hz] at h
  exact h
end Go.Proofs.YtlambflmabecfaaDoor
