/- A list of numbers sorted by the library. -/
import Derived.Sort.OwnSortedInts
import Derived.Test.YtdpgbgniejlilaaShelf
import Derived.Test.YtdpgbgniejlilaaSpreadW
namespace Go.Proofs.Ytdpgbgniejlilaa
open Go.ChangeShapes Go.WideShapes Go.ChangeAt Go.RowKit Go.Joins Go.Deep
set_option linter.unusedSimpArgs false
set_option linter.unusedVariables false
set_option maxRecDepth 100000
set_option maxHeartbeats 1000000
theorem IRow.form {w : World} {base : Nat} {v : Value} {l : List Int} (h : IRow w base v l) (hp : 0 < l.length) : ∃ g cap, v = .slice (some ⟨g, 0, none⟩) l.length cap ∧ base ≤ g := by
  rcases h.2 with ⟨_, h0⟩ | ⟨g, cap, cur, e, h1, _⟩
  · omega
  · exact ⟨g, cap, e, h1⟩
theorem IRow.mono {w : World} {base base' : Nat} {v : Value} {l : List Int} (h : IRow w base v l) (hb : base' ≤ base) : IRow w base' v l := by
  refine ⟨h.1, ?_⟩
  rcases h.2 with h2 | ⟨g, cap, cur, e, h1, h3⟩
  · exact .inl h2
  · exact .inr ⟨g, cap, cur, e, Nat.le_trans hb h1, h3⟩
theorem nI_toNat (q : List Nat) : (nI q).map Int.toNat = q := by
  unfold nI
  rw [List.map_map]
  exact (List.map_congr_left (fun x _ => by simp)).trans (List.map_id q)
theorem sorted_nI {n : Nat} {q : List Nat} (hd : q.Nodup) (hl : ∀ x ∈ q, x < n) : ((nI q).mergeSort fun x y => decide (x ≤ y)) = nI (sortN n q) := by
  have hp := List.mergeSort_perm (nI q) (fun x y => decide (x ≤ y))
  have hs := List.pairwise_mergeSort (le := fun x y : Int => decide (x ≤ y)) (fun a b c h1 h2 => by simp at *; omega) (fun a b => by simp; omega) (nI q)
  generalize hr : ((nI q).mergeSort fun x y => decide (x ≤ y)) = r at *
  have h0 : ∀ x ∈ r, 0 ≤ x := by
    intro x hx
    have := hp.mem_iff.1 hx
    unfold nI at this
    obtain ⟨k, _, rfl⟩ := List.mem_map.1 this
    omega
  have e : r.map Int.toNat = sortN n q := by
    refine sortN_of_perm ((hp.map _).trans (by rw [nI_toNat])) ?_ hd hl
    rw [List.pairwise_map]
    exact hs.imp (fun h => by simp at h; omega)
  rw [← e]
  unfold nI
  rw [List.map_map]
  exact ((List.map_congr_left (fun x hx => by have := h0 x hx; simp; omega)).trans (List.map_id r)).symm
theorem sort_row {w : World} {base g cap n : Nat} {q : List Nat} (hrow : IRow w base (.slice (some ⟨g, 0, none⟩) q.length cap) (nI q)) (hd : q.Nodup) (hl : ∀ x ∈ q, x < n) (hp : 0 < q.length) (hq : q.length ≤ 1048576) :
    Calls Try.prog 62 #[.slice (some ⟨g, 0, none⟩) q.length cap] w fun e w' => e = .returned (.tuple #[]) ∧ IRow w' base (.slice (some ⟨g, 0, none⟩) q.length cap) (nI (sortN n q)) ∧ w.grownBy w' (some g) := by
  rcases hrow.2 with ⟨h0, _⟩ | ⟨g', cap', cur, e, hbase, hb, h1, h2, h3, h4⟩
  · cases h0
  rw [nI_length] at e
  cases e
  rw [nI_length] at h1
  have hH : Sort.Holds (Value.int .i64) w g 0 (nI q).toArray := holds_of_blockI hb (by rw [nI_length]; rw [nI_length, Nat.mul_one] at h4; exact h4)
  have hc := Try.slices_Sort_int g 0 cap (nI q) w hH (Array.getElem?_eq_some_iff.1 hb).1 (by rw [nI_length]; omega)
  rw [sorted_nI hd hl, nI_length] at hc
  refine hc.mono ?_
  rintro e w' ⟨rfl, nn, os, rfl⟩
  have hlen : (nI (sortN n q)).length = (nI q).length := by
    rw [← sorted_nI hd hl, List.length_mergeSort]
  refine ⟨rfl, ?_, grownBy_sortedI _⟩
  have h := ownsRow_sortedI (n := nn) (os := os) hlen hbase hb (by rw [nI_length]; exact h1) h2 h3
  unfold IRow
  rw [hlen]
  rw [nI_length] at h ⊢
  exact h
end Go.Proofs.Ytdpgbgniejlilaa
