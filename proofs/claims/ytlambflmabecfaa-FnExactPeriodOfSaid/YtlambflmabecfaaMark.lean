/- Marks: only the marked block turns, and nothing does where there is nothing to mark. -/
import Derived.Test.YtlambflmabecfaaBoard
namespace Go.Proofs.Ytlambflmabecfaa
open Go.ChangeShapes Go.WideShapes Go.ChangeAt Go.RowKit Go.Joins Go.Deep
set_option linter.unusedSimpArgs false
set_option linter.unusedVariables false
set_option maxRecDepth 100000
set_option maxHeartbeats 400000
/-- Only the block of A has turned, if there is anything to turn, and what is new. -/
def Fx (w w' : World) (A : Option Addr) (n : Nat) : Prop := w.grownBy w' (if n = 0 then none else A.map (·.block))
theorem Whole.fx {w w' : World} {g : Nat} {t : TypeId} {xs : List Value} {A : Option Addr} {n : Nat} (h : Whole w g t xs) (ho : Fx w w' A n) (hne : 0 < n → ∀ a, A = some a → a.block ≠ g) : Whole w' g t xs := by
  refine (ho.block g h.lt ?_).trans h
  by_cases hn : n = 0
  · simp [hn]
  · rw [if_neg hn]
    cases hA : A with
    | none => simp
    | some a => simpa using (fun e => hne (by omega) a hA e.symm)
theorem Own.fx {w w' : World} {A A' : Option Addr} {t : TypeId} {xs : List Value} {n : Nat} (h : Own w A t xs) (ho : Fx w w' A' n) (hne : 0 < n → 0 < xs.length → ∀ a a', A = some a → A' = some a' → a.block ≠ a'.block) : Own w' A t xs := fun hx => by
  obtain ⟨g, rest, rfl, hw⟩ := h hx
  exact ⟨g, rest, rfl, hw.fx ho (fun hn a ha => (hne hn hx _ a rfl ha).symm)⟩
theorem Fx.below {w w' : World} {A : Option Addr} {n B : Nat} (h : Fx w w' A n) (hB : B ≤ w.heap.size) (hge : ∀ a, A = some a → B ≤ a.block) : Below B w w' :=
  (Below.refl B w).grown h hB (fun k hk => by
    by_cases hn : n = 0
    · rw [if_pos hn] at hk; cases hk
    · rw [if_neg hn] at hk
      cases hA : A with
      | none => rw [hA] at hk; cases hk
      | some a => rw [hA] at hk; cases hk; exact hge _ hA)
theorem only_fx {w w' : World} {A : Option Addr} {n : Nat} (h : Only w w' A) (hn : 0 < n) : Fx w w' A n := by
  unfold Fx
  rw [if_neg (by omega)]
  exact h
theorem own_apart {w : World} {g : Nat} {t t' : TypeId} {xs ys : List Value} {A : Option Addr} (h : Own w A t xs) (hw : Whole w g t' ys) (hne : t ≠ t') (hx : 0 < xs.length) {a : Addr} (ha : A = some a) : a.block ≠ g := by
  obtain ⟨k, rest, rfl, hk⟩ := h hx
  cases ha
  intro e
  subst e
  unfold Whole at hk hw
  rw [hk] at hw
  injection hw with hw
  injection hw with _ ht
  exact hne ht
theorem same_fx {w : World} {A : Option Addr} : Fx w w A 0 := by
  unfold Fx
  rw [if_pos rfl]
  exact World.grownBy.refl w _
theorem flat_pos {l : List (Int × Int)} (h : 0 < (flat l).length) : 0 < l.length := by rw [flat_length] at h; omega
theorem pos_flat {l : List (Int × Int)} (h : 0 < l.length) : 0 < (flat l).length := by rw [flat_length]; omega
theorem ints_pos {l : List Int} (h : 0 < (ints l).length) : 0 < l.length := by rw [ints_length] at h; exact h
theorem pos_ints {l : List Int} (h : 0 < l.length) : 0 < (ints l).length := by rw [ints_length]; exact h
theorem eqB_same (R C : Int) (l : List (Int × Int)) : eqB R C R C l l = true := decide_eq_true ⟨rfl, rfl, rfl⟩
/-- What a call hands back: a list of numbers of its own, and whether it succeeds. -/
def PostL (w : World) (l : List Int) (ok : Bool) (e : Ending) (w' : World) : Prop :=
  ∃ A' cap', e = .returned (.tuple #[.slice A' l.length cap', .bool ok]) ∧ Own w' A' 3 (ints l) ∧ New w A' ∧ Below w.heap.size w w'
theorem PostL.mk {w w' : World} {l : List Int} {ok : Bool} {A' : Option Addr} {cap' : Nat} (o : Own w' A' 3 (ints l)) (n : New w A') (b : Below w.heap.size w w') : PostL w l ok (.returned (.tuple #[.slice A' l.length cap', .bool ok])) w' :=
  ⟨A', cap', rfl, o, n, b⟩
/-- A list of numbers of the call's own. -/
def PostI (w : World) (l : List Int) (e : Ending) (w' : World) : Prop :=
  ∃ A' cap', e = .returned (.slice A' l.length cap') ∧ Own w' A' 3 (ints l) ∧ New w A' ∧ Below w.heap.size w w'
theorem PostI.mk {w w' : World} {l : List Int} {A' : Option Addr} {cap' : Nat} (o : Own w' A' 3 (ints l)) (n : New w A') (b : Below w.heap.size w w') : PostI w l (.returned (.slice A' l.length cap')) w' :=
  ⟨A', cap', rfl, o, n, b⟩
/-- A list of cells of the call's own. -/
def PostC (w : World) (l : List (Int × Int)) (e : Ending) (w' : World) : Prop :=
  ∃ A' cap', e = .returned (.slice A' l.length cap') ∧ Own w' A' 104 (flat l) ∧ New w A' ∧ Below w.heap.size w w'
theorem PostC.mk {w w' : World} {l : List (Int × Int)} {A' : Option Addr} {cap' : Nat} (o : Own w' A' 104 (flat l)) (n : New w A') (b : Below w.heap.size w w') : PostC w l (.returned (.slice A' l.length cap')) w' :=
  ⟨A', cap', rfl, o, n, b⟩
/-- A board whose cells are the call's own, and whether it succeeds. -/
def PostB (w : World) (R C : Int) (l : List (Int × Int)) (ok : Bool) (e : Ending) (w' : World) : Prop :=
  ∃ A' cap', e = .returned (.tuple #[.agg #[.int .i64 R, .int .i64 C, .slice A' l.length cap'], .bool ok]) ∧ Own w' A' 104 (flat l) ∧ New w A' ∧ Below w.heap.size w w'
theorem PostB.mk {w w' : World} {R C : Int} {l : List (Int × Int)} {ok : Bool} {A' : Option Addr} {cap' : Nat} (o : Own w' A' 104 (flat l)) (n : New w A') (b : Below w.heap.size w w') : PostB w R C l ok (.returned (.tuple #[.agg #[.int .i64 R, .int .i64 C, .slice A' l.length cap'], .bool ok])) w' :=
  ⟨A', cap', rfl, o, n, b⟩
theorem PostB.none_ {w w' : World} (b : Below w.heap.size w w') : PostB w 0 0 [] false (.returned (.tuple #[.agg #[.int .i64 0, .int .i64 0, .slice none 0 0], .bool false])) w' :=
  PostB.mk (l := []) Own.none_ New.none_ b
theorem PostL.none_ {w w' : World} (b : Below w.heap.size w w') : PostL w [] false (.returned (.tuple #[.slice none 0 0, .bool false])) w' :=
  PostL.mk (l := []) Own.none_ New.none_ b
/-- A board whose cells are the call's own. -/
def PostD (w : World) (R C : Int) (l : List (Int × Int)) (e : Ending) (w' : World) : Prop :=
  ∃ A' cap', e = .returned (.agg #[.int .i64 R, .int .i64 C, .slice A' l.length cap']) ∧ Own w' A' 104 (flat l) ∧ New w A' ∧ Below w.heap.size w w'
theorem PostD.mk {w w' : World} {R C : Int} {l : List (Int × Int)} {A' : Option Addr} {cap' : Nat} (o : Own w' A' 104 (flat l)) (n : New w A') (b : Below w.heap.size w w') : PostD w R C l (.returned (.agg #[.int .i64 R, .int .i64 C, .slice A' l.length cap'])) w' :=
  ⟨A', cap', rfl, o, n, b⟩
theorem markIntS_n (A : Option Addr) (cap n : Nat) (xs : List Value) (k : Int) (w : World) (hx : xs.length = n) (hn : n ≤ 1048576) (h0 : 0 ≤ k) (h1 : k ≤ 16777216) (ho : Own w A 3 xs) :
    Calls Try.prog 26 #[.slice A n cap, .int .i64 k] w fun e w' => e = .returned (.int .i64 (k + n)) ∧ Own w' A 3 (marks k n) ∧ Fx w w' A n := by
  rcases Nat.eq_zero_or_pos n with hz | hp
  · subst hz
    clear ho
    go_enter Try.func26, Try.ntmps26
    go_wp2
    go_rounds 1
    go_returns
    exact ⟨ret_int (by simp), fun h => absurd h (by rw [marks_length]; omega), same_fx⟩
  · exact (markIntS_any A cap n xs k w hx hn h0 h1 ho).mono fun e w' ⟨a, b, c⟩ => ⟨a, b, only_fx c hp⟩
theorem markCellS_n (A : Option Addr) (cap n : Nat) (xs : List Value) (k : Int) (w : World) (hx : xs.length = 2 * n) (hn : n ≤ 1048576) (h0 : 0 ≤ k) (h1 : k ≤ 16777216) (ho : Own w A 104 xs) :
    Calls Try.prog 61 #[.slice A n cap, .int .i64 k] w fun e w' => e = .returned (.int .i64 (k + 2 * n)) ∧ Own w' A 104 (marks k (2 * n)) ∧ Fx w w' A n := by
  rcases Nat.eq_zero_or_pos n with hz | hp
  · subst hz
    clear ho hx
    go_enter Try.func61, Try.ntmps61
    go_wp2
    go_rounds 1
    go_returns
    exact ⟨ret_int (by simp), fun h => absurd h (by rw [marks_length]; omega), same_fx⟩
  · exact (markCellS_any A cap n xs k w hx hn h0 h1 ho).mono fun e w' ⟨a, b, c⟩ => ⟨a, b, only_fx c hp⟩
theorem fx_alloc {w w' : World} {o : Obj} {A : Option Addr} {n : Nat} (h : Fx (w.alloc o) w' A n) : Fx w w' A n := by
  have hs := h.size
  rw [World.size_alloc] at hs
  refine ⟨h.os.trans rfl, h.tape.trans rfl, h.output.trans rfl, by omega, fun i hi hne => (h.block i (by rw [World.size_alloc]; omega) hne).trans (Below.heap_alloc _ _ _ hi)⟩
theorem markBoard_n (R C : Int) (A : Option Addr) (cap n : Nat) (xs : List Value) (k : Int) (w : World) (hx : xs.length = 2 * n) (hn : n ≤ 1048576) (h0 : 0 ≤ k) (h1 : k ≤ 16777216) (ho : Own w A 104 xs) :
    Calls Try.prog 46 #[.agg #[.int .i64 R, .int .i64 C, .slice A n cap], .int .i64 k] w fun e w' => e = .returned (.int .i64 (k + 2 * n)) ∧ Own w' A 104 (marks k (2 * n)) ∧ Fx w w' A n := by
  go_enter Try.func46, Try.ntmps46
  go_wp2_with fail
  refine (markCellS_n _ _ n xs _ _ hx hn h0 h1 (ho.keep (by (repeat' (first | (with_reducible exact Below.refl _ _) | (with_reducible assumption) | (with_reducible refine Below.alloc ?_ ?_ _) | (with_reducible refine Below.setCell ?_ ?_ _) | (with_reducible refine Below.drew ?_) | (with_reducible refine below_drewN ?_ _) | (with_reducible refine Below.trans ?_ (Below.mono (by assumption) ?_)) | (with_reducible exact Nat.le_refl _) | (simp; done) | omega | (simp at *; omega)))))).mono ?_; rintro e w1 ⟨rfl, o1, s1⟩
  have S1 := Lib.hid (fx_alloc s1)
  clear s1
  go_wp2
  go_returns
  exact ⟨rfl, o1, S1.out⟩
end Go.Proofs.Ytlambflmabecfaa
