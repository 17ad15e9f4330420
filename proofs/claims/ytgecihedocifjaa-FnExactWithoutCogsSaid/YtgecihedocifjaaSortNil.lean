/- An empty list sorted by the library. -/
import Derived.Test.YtgecihedocifjaaSort
namespace Go.Proofs.Ytgecihedocifjaa
open Go.ChangeShapes Go.WideShapes Go.ChangeAt Go.RowKit Go.Joins Go.Deep
set_option linter.unusedSimpArgs false
set_option linter.unusedVariables false
set_option maxRecDepth 100000
set_option maxHeartbeats 1000000
theorem len64_zero (w : World) : Calls Try.prog 117 #[.int .u64 0] w fun e w' => e = .returned (.int .i64 0) ∧ w' = w := by
  go_enter Try.func117, Try.ntmps117
  go_wp2
  go_returns
  exact ⟨ret_int (by kernel_rfl), rfl⟩
theorem len_zero (w : World) : Calls Try.prog 99 #[.int .u64 0] w fun e w' => e = .returned (.int .i64 0) ∧ w' = w := by
  go_enter Try.func99, Try.ntmps99
  go_wp2_with fail
  refine (len64_zero _).mono ?_; rintro e w1 ⟨rfl, rfl⟩
  go_wp2
  go_returns
  exact ⟨rfl, rfl⟩
theorem insertion_nil (w : World) : Calls Try.prog 107 #[.slice none 0 0, .int .i64 0, .int .i64 0] w fun e w' => e = .returned (.tuple #[]) ∧ w' = w := by
  go_enter Try.func107, Try.ntmps107
  go_wp2
  go_loopw [6] (fun t wr => t = .int .i64 1 ∧ wr = w) (fun _ _ => 0)
  case atStart => exact ⟨rfl, rfl⟩
  case round =>
    obtain ⟨rfl, rfl⟩ := hrel
    go_wp2
    go_returns
    exact ⟨rfl, rfl⟩
theorem pdq_nil (w : World) : Calls Try.prog 98 #[.slice none 0 0, .int .i64 0, .int .i64 0, .int .i64 0] w fun e w' => e = .returned (.tuple #[]) ∧ w' = w := by
  go_enter Try.func98, Try.ntmps98
  go_wp2
  go_loopw [1, 2, 3] (fun x y t wr => x = .int .i64 0 ∧ y = .int .i64 0 ∧ t = .int .i64 0 ∧ wr = w) (fun _ _ _ _ => 0)
  case atStart => exact ⟨rfl, rfl, rfl, rfl⟩
  case round =>
    obtain ⟨rfl, rfl, rfl, rfl⟩ := hrel
    go_wp2_with fail
    refine (insertion_nil _).mono ?_; rintro e w1 ⟨rfl, rfl⟩
    go_wp2
    go_returns
    exact ⟨rfl, rfl⟩
theorem sort_nil (w : World) : Calls Try.prog 75 #[.slice none 0 0] w fun e w' => e = .returned (.tuple #[]) ∧ w' = w := by
  go_enter Try.func75, Try.ntmps75
  go_wp2_with fail
  refine (len_zero _).mono ?_; rintro e w1 ⟨rfl, rfl⟩
  go_wp2_with fail
  refine (pdq_nil _).mono ?_; rintro e w1 ⟨rfl, rfl⟩
  go_wp2
  go_returns
  exact ⟨rfl, rfl⟩
theorem sort_row0 {w : World} {base g cap n : Nat} {q : List Nat} (hrow : IRow w base (.slice (some ⟨g, 0, none⟩) q.length cap) (nI q)) (hd : q.Nodup) (hl : ∀ x ∈ q, x < n) (hq : q.length ≤ 1048576) :
    Calls Try.prog 75 #[.slice (some ⟨g, 0, none⟩) q.length cap] w fun e w' => e = .returned (.tuple #[]) ∧ IRow w' base (.slice (some ⟨g, 0, none⟩) q.length cap) (nI (sortN n q)) ∧ w.grownBy w' (some g) := by
  rcases hrow.2 with ⟨h0, _⟩ | ⟨g', cap', cur, e, hbase, hb, h1, h2, h3, h4⟩
  · cases h0
  rw [nI_length] at e
  cases e
  rw [nI_length] at h1
  have hH : Sort.Holds (Value.int .i64) w g 0 (nI q).toArray := holds_of_blockI hb (by rw [nI_length]; rw [nI_length, Nat.mul_one] at h4; exact h4)
  have hc := Try.slices_Sort_int g 0 cap (nI q) w hH (Array.getElem?_eq_some_iff.1 hb).1 (by rw [nI_length]; omega)
  rw [sorted_nI hd hl, nI_length] at hc
  refine hc.mono ?_
  rintro e w' ⟨rfl, nn, os, rfl⟩
  have hlen : (nI (sortN n q)).length = (nI q).length := by
    rw [← sorted_nI hd hl, List.length_mergeSort]
  refine ⟨rfl, ?_, grownBy_sortedI _⟩
  have h := ownsRow_sortedI (n := nn) (os := os) hlen hbase hb (by rw [nI_length]; exact h1) h2 h3
  unfold IRow
  rw [hlen]
  rw [nI_length] at h ⊢
  exact h
/-- A list of numbers of the call's own, empty or not, sorted by the library. -/
theorem sort_any {w : World} {base n : Nat} {v : Value} {q : List Nat} (hrow : IRow w base v (nI q)) (hd : q.Nodup) (hl : ∀ x ∈ q, x < n) (hq : q.length ≤ 1048576) (hs : base ≤ w.heap.size) :
    Calls Try.prog 75 #[v] w fun e w' => e = .returned (.tuple #[]) ∧ IRow w' base v (nI (sortN n q)) ∧ Below base w w' := by
  rcases hrow.2 with ⟨h0, h1⟩ | ⟨g, cap, cur, e, hbase, _⟩
  · subst h0
    rw [nI_length] at h1
    have e : q = [] := List.eq_nil_of_length_eq_zero h1
    subst e
    refine (sort_nil w).mono ?_
    rintro e w' ⟨rfl, rfl⟩
    have e2 : sortN n [] = [] := by unfold sortN; simp
    rw [e2]
    exact ⟨rfl, hrow, Below.refl _ _⟩
  · subst e
    rw [nI_length] at hrow ⊢
    refine (sort_row0 hrow hd hl hq).mono ?_
    rintro e w' ⟨rfl, h1, h2⟩
    exact ⟨rfl, h1, (Below.refl _ _).grown h2 hs (fun k hk => by cases hk; exact hbase)⟩
end Go.Proofs.Ytgecihedocifjaa
