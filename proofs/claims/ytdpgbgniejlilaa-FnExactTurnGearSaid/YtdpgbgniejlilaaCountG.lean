/- CountGroups, program and model. -/
import Derived.Test.YtdpgbgniejlilaaGroupsOf
namespace Go.Proofs.Ytdpgbgniejlilaa
open Go.ChangeShapes Go.WideShapes Go.ChangeAt Go.RowKit Go.Joins Go.Deep
set_option linter.unusedSimpArgs false
set_option linter.unusedVariables false
set_option maxRecDepth 100000
set_option maxHeartbeats 2000000
def mostF (n k : Int) : Int := if k + 1 < n then n else k + 1
def most (xs : List Int) : Int := xs.foldl mostF 0
theorem mostF_le (a k : Int) : a ≤ mostF a k ∧ k + 1 ≤ mostF a k ∧ (mostF a k = a ∨ mostF a k = k + 1) := by
  unfold mostF
  split
  · exact ⟨by omega, by omega, .inl rfl⟩
  · exact ⟨by omega, by omega, .inr rfl⟩
theorem fold_most : ∀ (xs : List Int) (a : Int), a ≤ xs.foldl mostF a ∧ (∀ k ∈ xs, k + 1 ≤ xs.foldl mostF a) ∧ (xs.foldl mostF a = a ∨ ∃ k ∈ xs, xs.foldl mostF a = k + 1)
  | [], a => ⟨Int.le_refl _, fun k hk => absurd hk List.not_mem_nil, .inl rfl⟩
  | x :: xs, a => by
    obtain ⟨h1, h2, h3⟩ := fold_most xs (mostF a x)
    obtain ⟨m1, m2, m3⟩ := mostF_le a x
    show a ≤ xs.foldl mostF (mostF a x) ∧ (∀ k ∈ x :: xs, k + 1 ≤ xs.foldl mostF (mostF a x)) ∧ (xs.foldl mostF (mostF a x) = a ∨ ∃ k ∈ x :: xs, xs.foldl mostF (mostF a x) = k + 1)
    refine ⟨by omega, fun k hk => ?_, ?_⟩
    · rcases List.mem_cons.1 hk with e | e
      · subst e; omega
      · exact h2 k e
    · rcases h3 with e | ⟨k, hk, e⟩
      · rcases m3 with e' | e'
        · exact .inl (by omega)
        · exact .inr ⟨x, List.mem_cons_self .., by omega⟩
      · exact .inr ⟨k, List.mem_cons_of_mem _ hk, e⟩
theorem most_take {xs : List Int} {k : Nat} (h : k < xs.length) : most (xs.take (k + 1)) = mostF (most (xs.take k)) xs[k] := by
  unfold most
  rw [List.take_succ_eq_append_getElem h, List.foldl_append]
  rfl
theorem spec_l1Most (a b : Int) (w : World) : Calls Try.prog 56 #[.int .i64 a, .int .i64 b] w fun e w' => e = .returned (.int .i64 (if b < a then a else b)) ∧ w' = w := by
  go_enter Try.func56, Try.ntmps56
  go_wp2
  all_goals go_returns
  all_goals (first | (refine ⟨ret_int ?_, rfl⟩; simp_all; done) | (refine ⟨ret_int ?_, rfl⟩; split <;> omega))
theorem spec_ggCount (g cap : Nat) (rest : List Value) (xs : List Int) (w : World) (hn : xs.length ≤ 1048576) (hx : ∀ x ∈ xs, -1 ≤ x ∧ x ≤ 1048576) (hw : Whole w g 3 (ints xs ++ rest)) :
    Calls Try.prog 38 #[.slice (some ⟨g, 0, none⟩) xs.length cap] w fun e w' => e = .returned (.int .i64 (most xs)) ∧ w' = w := by
  go_enter Try.func38, Try.ntmps38
  go_wp2
  go_loopw [8, 3] (fun t m wr => ∃ k : Nat, t = .int .i64 k ∧ k ≤ xs.length ∧ m = .int .i64 (most (xs.take k)) ∧ wr = w) (fun t _ _ => xs.length - (intOf t).toNat)
  case atStart => exact ⟨0, rfl, Nat.zero_le _, rfl, rfl⟩
  case round =>
    obtain ⟨k, rfl, hk, rfl, rfl⟩ := hrel
    by_cases hlt : k < xs.length
    · have hc : wr.cell? ⟨g, k, none⟩ = some (.int .i64 xs[k]) := by rw [hw.cell k, List.getElem?_append_left (by rw [ints_length]; exact hlt), ints_at _ k hlt]
      have HT := Lib.hid (most_take hlt)
      obtain ⟨b1, b2⟩ := hx _ (List.getElem_mem hlt)
      generalize xs[k] = x at *
      generalize most (xs.take k) = m at *
      have m1 : IntKind.i64.wrap (x + 1) = x + 1 := IntWalk.i64_in _ (by omega)
      clear hx hw
      go_wp2_with fail
      refine (spec_l1Most _ _ _).mono ?_; rintro e w1 ⟨rfl, rfl⟩
      go_wp2
      go_roundw
      case rel => exact ⟨k + 1, by go_num, by omega, by rw [HT.out]; rfl, by first | trivial | rfl⟩
      case measure => simp [intOf]; omega
    · obtain rfl : k = xs.length := by omega
      rw [List.take_length] at *
      go_wp2
      go_returns
      exact ⟨rfl, rfl⟩
theorem most_num {r c : Nat} {l : List (Int × Int)} (hG : Geo r c l.length) : most (numL c l) = ((GG (c : Int) l).length : Int) := by
  have hA := groups_all hG
  obtain ⟨h1, h2, h3⟩ := fold_most (numL c l) 0
  have hval : ∀ k ∈ numL c l, ∃ x, x < l.length ∧ k = num (GG (c : Int) l) 0 x := by
    intro k hk
    unfold numL numV at hk
    obtain ⟨x, hx, rfl⟩ := List.mem_map.1 hk
    exact ⟨x, List.mem_range.1 hx, by unfold GG; rw [Int.toNat_natCast]⟩
  have hmem : ∀ x, x < l.length → num (GG (c : Int) l) 0 x ∈ numL c l := by
    intro x hx
    unfold numL numV GG
    rw [Int.toNat_natCast]
    exact List.mem_map.2 ⟨x, List.mem_range.2 hx, rfl⟩
  show (numL c l).foldl mostF 0 = _
  generalize hm : (numL c l).foldl mostF 0 = m at *
  rcases Nat.eq_zero_or_pos (GG (c : Int) l).length with hz | hp
  · rcases h3 with e | ⟨k, hk, e⟩
    · omega
    · obtain ⟨x, _, rfl⟩ := hval k hk
      have := (num_ge (j := x) (GG (c : Int) l) 0).2
      omega
  · have hle : m ≤ ((GG (c : Int) l).length : Int) := by
      rcases h3 with e | ⟨k, hk, e⟩
      · omega
      · obtain ⟨x, _, rfl⟩ := hval k hk
        have := (num_ge (j := x) (GG (c : Int) l) 0).2
        omega
    have hlast : (GG (c : Int) l).length - 1 < (GG (c : Int) l).length := by omega
    have hg := List.getElem_mem hlast
    have hne := hA.some_ _ hg
    obtain ⟨x, hx⟩ := List.exists_mem_of_ne_nil _ hne
    have hxn := (hA.cells _ hg x hx).1
    have e1 := (num_is (j := x) _ 0 _ hA.apart (List.getElem?_eq_getElem hlast)).2 hx
    have := h2 _ (hmem x hxn)
    omega
theorem numL_range {c : Nat} {l : List (Int × Int)} (hn : l.length ≤ 90) : ∀ x ∈ numL c l, -1 ≤ x ∧ x ≤ 1048576 := by
  intro k hk
  unfold numL numV at hk
  obtain ⟨x, hx, rfl⟩ := List.mem_map.1 hk
  have h1 := num_ge (j := x) (gat (J l) (nearL c l.length) l.length l.length) 0
  have h2 := gat_len (J l) (nearL c l.length) l.length l.length
  omega
def cntB (R C : Int) (l : List (Int × Int)) : Int := selI (goodB R C l) ((GG C l).length : Int)
theorem LRow.shape {w : World} {base : Nat} {v : Value} {L : List (List Nat)} (h : LRow w base v L) : ∃ A cap, v = .slice A L.length cap := by
  obtain ⟨hs, _, h2, _⟩ := h
  exact slice_of_row h2
end Go.Proofs.Ytdpgbgniejlilaa
