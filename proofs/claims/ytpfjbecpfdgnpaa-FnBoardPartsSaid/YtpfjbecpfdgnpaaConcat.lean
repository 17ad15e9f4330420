/- slices.Grow from nil, slices.Concat of two lists of cells. -/
import Derived.Lib.AppendZeros
import Derived.Test.YtpfjbecpfdgnpaaCut
namespace Go.Proofs.Ytpfjbecpfdgnpaa
open Go.ChangeShapes Go.WideShapes Go.ChangeAt Go.RowKit Go.Joins Go.Deep
set_option linter.unusedSimpArgs false
set_option linter.unusedVariables false
set_option maxRecDepth 100000
set_option maxHeartbeats 1000000
def PostG (w : World) (e : Ending) (w' : World) : Prop := ∃ g c, e = .returned (.slice (some ⟨g, 0, none⟩) 0 c) ∧ w'.ownsRow w.heap.size 27 2 (.slice (some ⟨g, 0, none⟩) 0 c) 0 [] ∧ Below w.heap.size w w'
theorem Grow_nil (n : Nat) (w : World) (h0 : 0 < n) (hn : n ≤ 1048576) :
    Calls Try.prog 114 #[.slice none 0 0, .int .i64 (n : Int)] w (PostG w) := by
  obtain ⟨i0, hi, hz0, hz1, hz2⟩ := info_parts cellInfo
  have hr := Lib.run_append_nil_zeros (P := Try.prog) w 23 3 23 27 i0 _ .i64 .i64 Try.underlying23 Try.underlying3 hi hz0 n h0 (by omega) (by omega) (by rw [hz2]; omega)
  have hge := grownCap_ge w n 0 27
  have hcm : grownCap w n 0 27 ≤ maxLen := grownCap_le_maxLen w n 0 _ (by unfold maxLen; omega)
  have hp : 0 < (n : Int) := by omega
  have hcap0 : 0 ≤ grownCap w n 0 27 := Nat.zero_le _
  generalize grownCap w n 0 27 = c at *
  have HR := Lib.hid hr
  clear hr
  go_enter Try.func114, Try.ntmps114
  go_wp2_with (first | (at_builtin; refine Lib.wpList_append_run _ rfl (.tmp 20) (.tmp 21) _ _ rfl _ _ rfl rfl _ _ HR.out ?_) | fail)
  go_returns
  refine ⟨w.heap.size, c, rfl, ⟨by simp, .inr ⟨w.heap.size, c, _, rfl, Nat.le_refl _, heap_alloc_new w.drew _, Nat.zero_le _, hcm, ?_, by simp⟩⟩, ((Below.refl _ _).drew).alloc (Nat.le_refl _) _⟩
  rw [Array.size_append, size_zeroCells, size_zeroCells]
  simp [Value.cells]
  omega
theorem Concat_two (sb sc b o cap b' o' cap' : Nat) (l m : List (Int × Int)) (w : World) (hl : 0 < l.length) (hm : 0 < m.length) (hnl : l.length ≤ 90) (hnm : m.length ≤ 90)
    (hs : Whole w sb 23 [.slice (some ⟨b, o, none⟩) l.length cap, .slice (some ⟨b', o', none⟩) m.length cap'])
    (hr : Rd w w.heap.size (some ⟨b, o, none⟩) (flat l)) (hr' : Rd w w.heap.size (some ⟨b', o', none⟩) (flat m)) :
    Calls Try.prog 80 #[.slice (some ⟨sb, 0, none⟩) 2 sc] w (PostC w (l ++ m)) := by
  obtain ⟨i0, hi, hz0, hz1, hz2⟩ := info_parts cellInfo
  have k0 : w.cell? ⟨sb, 0, none⟩ = some (.slice (some ⟨b, o, none⟩) l.length cap) := (hs.cell 0).trans rfl
  have k1 : w.cell? ⟨sb, 1, none⟩ = some (.slice (some ⟨b', o', none⟩) m.length cap') := (hs.cell 1).trans rfl
  go_enter Try.func80, Try.ntmps80
  go_wp2
  refine wp_loop_rounds 3 ?_
  rw [rounds_succ]
  go_wp2
  rw [rounds_succ]
  go_wp2
  rw [rounds_succ]
  go_wp2_with fail
  have hgr := Grow_nil (l.length + m.length) w (by omega) (by omega)
  rw [Int.natCast_add] at hgr
  refine hgr.mono ?_; rintro e w1 ⟨g1, c1, rfl, hown1, b1⟩
  clear hgr
  have hs1 := hs.below b1 hs.lt
  have k2 : w1.cell? ⟨sb, 0, none⟩ = some (.slice (some ⟨b, o, none⟩) l.length cap) := (hs1.cell 0).trans rfl
  have z1 := b1.size
  clear k0 k1
  go_wp2
  refine wp_loop_rounds 3 ?_
  rw [rounds_succ]
  go_wp2_with (first | (at_builtin; refine wpList_append_own _ rfl (.tmp 31) (.tmp 32) 23 rfl w.heap.size 27 i0 _ 2 16 Try.underlying23 hi hz0 hz1 hz2 rfl (by omega) _ 0 [] rfl hown1 ⟨b, o, none⟩ l.length cap (flat l) rfl (by rw [flat_length]; omega) (rd_news hr b1) (flat_one l) (by unfold maxLen; omega) (by omega) (by omega) ?_; intro v2 w2 hown2 hg2 _) | fail)
  have b2 : Below w.heap.size w w2 := row_below hown1 b1 z1 hg2
  have hs2 := hs1.grown hg2 (row_apart hown1 hs1 (by decide))
  rw [Nat.zero_add, List.nil_append] at hown2
  have k3 : w2.cell? ⟨sb, 1, none⟩ = some (.slice (some ⟨b', o', none⟩) m.length cap') := (hs2.cell 1).trans rfl
  have z2 := b2.size
  clear k2 hg2 hown1 hs1
  rw [rounds_succ]
  go_wp2_with (first | (at_builtin; refine wpList_append_own _ rfl (.tmp 31) (.tmp 32) 23 rfl w.heap.size 27 i0 _ 2 16 Try.underlying23 hi hz0 hz1 hz2 rfl (by omega) _ l.length (flat l) rfl hown2 ⟨b', o', none⟩ m.length cap' (flat m) rfl (by rw [flat_length]; omega) (rd_news hr' b2) (flat_one m) (by unfold maxLen; omega) (by omega) (by omega) ?_; intro v3 w3 hown3 hg3 _) | fail)
  have b3 : Below w.heap.size w w3 := row_below hown2 b2 z2 hg3
  rw [← flat_append] at hown3
  obtain ⟨A3, c3, rfl⟩ := slice_of_row hown3
  have ho := own_of_row hown3
  have hlen : l.length + m.length = (l ++ m).length := by rw [List.length_append]
  rw [hlen]
  clear hg3 hown2 k3 hown3
  rw [rounds_succ]
  go_wp2
  go_returns
  exact PostC.mk ho.1 ho.2 b3
end Go.Proofs.Ytpfjbecpfdgnpaa
