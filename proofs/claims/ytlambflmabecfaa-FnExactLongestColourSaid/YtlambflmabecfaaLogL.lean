/- LongestColour: the model's and the program's. -/
import Derived.BigQuiet
import Derived.Deep.Cut
import Derived.Test.YtlambflmabecfaaLogC
namespace Go.Proofs.Ytlambflmabecfaa
open Go.ChangeShapes Go.WideShapes Go.ChangeAt Go.RowKit Go.Joins Go.Deep
set_option linter.unusedSimpArgs false
set_option linter.unusedVariables false
set_option maxRecDepth 100000
set_option maxHeartbeats 4000000
theorem upd_range (k : Nat) : ∀ (xs : List Int) (s : Int × Int × Int), (∀ x ∈ xs, 0 ≤ x ∧ x ≤ k) → 0 ≤ s.1 → 0 ≤ s.2.1 → 0 ≤ s.2.2 → s.1 ≤ k → s.2.1 ≤ k → s.2.2 ≤ k → 0 ≤ (xs.foldl upd s).1 ∧ 0 ≤ (xs.foldl upd s).2.1 ∧ 0 ≤ (xs.foldl upd s).2.2 ∧ (xs.foldl upd s).1 ≤ k ∧ (xs.foldl upd s).2.1 ≤ k ∧ (xs.foldl upd s).2.2 ≤ k := by
  intro xs
  induction xs with
  | nil => intro s _ h1 h2 h3 h4 h5 h6; exact ⟨h1, h2, h3, h4, h5, h6⟩
  | cons x xs ih =>
    intro s hx h1 h2 h3 h4 h5 h6
    have h7 := hx x (by simp)
    refine ih _ (fun y hy => hx y (by simp [hy])) ?_ ?_ ?_ ?_ ?_ ?_ <;> unfold upd <;> dsimp only <;> (repeat' split) <;> omega
theorem chgK_range {l : List LE} {k : Nat} : ∀ x ∈ chgK l k, 0 ≤ x ∧ x ≤ k := by
  intro x hx
  unfold chgK at hx
  obtain ⟨y, h1, rfl⟩ := List.mem_map.1 hx
  have := List.mem_range.1 (List.mem_filter.1 h1).1
  omega
theorem LonK.ge {l : List LE} {k start : Nat} {best most : Int} (h : LonK l k best most start) : 0 ≤ best ∧ 0 ≤ most ∧ best ≤ k ∧ most ≤ k := by
  have h9 := upd_range k _ (0, 0, 0) (chgK_range (l := l)) (by decide) (by decide) (by decide) (Int.natCast_nonneg _) (Int.natCast_nonneg _) (Int.natCast_nonneg _)
  have e1 := h.b
  have e2 := h.m
  unfold upd stT at e1 e2
  dsimp only at e1 e2
  generalize (chgK l k).foldl upd (0, 0, 0) = s at *
  subst e1 e2
  (repeat' split) <;> omega
def lonA (l : List LE) : Int := selI (okLog l) (lonT l).1
def lonB (l : List LE) : Int := selI (okLog l) (lonT l).2.1
theorem spec_LongestColour (A : Option Addr) (cap : Nat) (l : List LE) (w : World) (hn : l.length ≤ 1048576) (hr : Rd w w.heap.size A (flatL l)) :
    Calls Try.prog 28 #[.slice A l.length cap] w fun e w' => e = .returned (.tuple #[.int .i64 (lonA l), .int .i64 (lonB l), .bool (okLog l)]) ∧ Below w.heap.size w w' := by
  go_enter Try.func28, Try.ntmps28
  go_wp2_with fail
  refine (spec_loGood _ _ _ _ hn hr).mono ?_; rintro e w1 ⟨rfl, b1⟩
  rcases Bool.eq_false_or_eq_true (okLog l) with h1 | h1
  · have HO := Lib.hid h1
    have HC := Lib.hid (show lonA l = (lonT l).1 ∧ lonB l = (lonT l).2.1 by unfold lonA lonB; rw [h1]; exact ⟨rfl, rfl⟩)
    rewrite [h1]
    clear h1
    go_wp2_with fail
    go_loopw [5, 6, 7, 16] (fun be mo st i wr => ∃ (k start : Nat) (best most : Int), k ≤ l.length ∧ i = .int .i64 k ∧ be = .int .i64 best ∧ mo = .int .i64 most ∧ st = .int .i64 start ∧ LonK l k best most start ∧ Below w.heap.size w wr) (fun _ _ _ i _ => l.length - (intOf i).toNat)
    case atStart => exact ⟨0, 0, 0, 0, Nat.zero_le _, rfl, rfl, rfl, rfl, LonK.zero l, b1⟩
    case round =>
      clear b1
      obtain ⟨k, start, best, most, hk, rfl, rfl, rfl, rfl, hK, hb⟩ := hrel
      have hs := hb.size
      by_cases hlt : k < l.length
      · have hst : start < l.length := by have := hK.in_; omega
        have hsk : start ≤ k := by have := hK.in_; omega
        (obtain ⟨b, o, rfl, hbl, hc⟩ := hr (by rw [flatL_len]; omega); obtain ⟨a0, a1, a2, a3⟩ := flatL_at l k hlt; have hc0 : wr.cell? ⟨b, o + k * 4, none⟩ = some (.int .i64 l[k].1) := (hb.cell (p := ⟨b, _, none⟩) hbl).trans (hc _ _ a0); have hc1 : wr.cell? ⟨b, o + k * 4 + 1, none⟩ = some (.int .i64 l[k].2.1) := (hb.cell (p := ⟨b, _, none⟩) hbl).trans (hc _ _ a1); have hc2 : wr.cell? ⟨b, o + k * 4 + 2, none⟩ = some (.int .i64 l[k].2.2.1) := (hb.cell (p := ⟨b, _, none⟩) hbl).trans (hc _ _ a2); have hc3 : wr.cell? ⟨b, o + k * 4 + 3, none⟩ = some (.int .i64 l[k].2.2.2) := (hb.cell (p := ⟨b, _, none⟩) hbl).trans (hc _ _ a3); clear a0 a1 a2 a3)
        have hcp : wr.cell? ⟨b, o + start * 4, none⟩ = some (.int .i64 l[start].1) := (hb.cell (p := ⟨b, _, none⟩) hbl).trans (hc _ _ (flatL_at l start hst).1)
        have HN := Lib.hid (fun h => hK.no hlt hst h)
        have HY := Lib.hid (fun h => hK.yes hlt hst h)
        have hge := hK.ge
        clear hc hr hK
        generalize l[start].1 = v at *
        (generalize l[k].1 = x at *; generalize l[k].2.1 = y at *; generalize l[k].2.2.1 = z at *; generalize l[k].2.2.2 = u at *)
        have bl : Below wr.heap.size wr (wr.alloc (.cells #[.int .i64 x, .int .i64 y, .int .i64 z, .int .i64 u] 61)) := (Below.refl _ _).alloc (Nat.le_refl _) _
        have hbl2 := hb.trans (bl.mono hs)
        have hsl := hbl2.size
        have hcpl := (bl.cell (p := ⟨b, o + start * 4, none⟩) (show b < wr.heap.size from Nat.lt_of_lt_of_le hbl hs)).trans hcp
        have hcx : (wr.alloc (.cells #[.int .i64 x, .int .i64 y, .int .i64 z, .int .i64 u] 61)).cell? ⟨wr.heap.size, 0, none⟩ = some (.int .i64 x) := Whole.cell (xs := [.int .i64 x, .int .i64 y, .int .i64 z, .int .i64 u]) (heap_alloc_new wr _) 0
        by_cases hxy : x = v
        · have hxb : (x != v) = false := by simpa using hxy
          have HX := Lib.hid (HN.out hxy)
          clear HY HN hxy
          go_upto_region 7 with (fail)
          generalize wr.alloc (.cells #[.int .i64 x, .int .i64 y, .int .i64 z, .int .i64 u] 61) = wl at *
          by_cases hm : most < (k : Int) + 1 - start
          · have HZ := Lib.hid (show LonK l (k + 1) start ((k : Int) + 1 - start) start by have h := HX.out; rw [if_pos hm, if_pos hm] at h; exact h)
            have hdm : decide (most < (k : Int) + 1 - start) = true := decide_eq_true hm
            go_quiet (fail)
            go_wp2
            have bq : Below wl.heap.size wl (wl.drewN nq) := below_drewN (Below.refl _ _) _
            first
              | exact ⟨⟨k + 1, start, _, _, by omega, by go_num, rfl, rfl, rfl, HZ.out, hbl2.trans (bq.mono hsl)⟩, by simp [intOf]; omega⟩
              | (go_roundw
                 case rel => exact ⟨k + 1, start, _, _, by omega, by go_num, rfl, rfl, rfl, HZ.out, hbl2.trans (bq.mono hsl)⟩
                 case measure => simp [intOf]; omega)
          · have HZ := Lib.hid (show LonK l (k + 1) best most start by have h := HX.out; rw [if_neg hm, if_neg hm] at h; exact h)
            have hdm : decide (most < (k : Int) + 1 - start) = false := decide_eq_false hm
            go_quiet (fail)
            go_wp2
            have bq : Below wl.heap.size wl (wl.drewN nq) := below_drewN (Below.refl _ _) _
            first
              | exact ⟨⟨k + 1, start, _, _, by omega, by go_num, rfl, rfl, rfl, HZ.out, hbl2.trans (bq.mono hsl)⟩, by simp [intOf]; omega⟩
              | (go_roundw
                 case rel => exact ⟨k + 1, start, _, _, by omega, by go_num, rfl, rfl, rfl, HZ.out, hbl2.trans (bq.mono hsl)⟩
                 case measure => simp [intOf]; omega)
        · have hxb : (x != v) = true := by simpa using hxy
          have HX := Lib.hid (HY.out hxy)
          have hm := (HY.out hxy).2
          have hdm : decide (most < (k : Int) + 1 - k) = false := decide_eq_false hm
          clear HY HN hxy
          go_upto_region 7 with (fail)
          generalize wr.alloc (.cells #[.int .i64 x, .int .i64 y, .int .i64 z, .int .i64 u] 61) = wl at *
          go_quiet (fail)
          go_wp2
          have bq : Below wl.heap.size wl (wl.drewN nq) := below_drewN (Below.refl _ _) _
          first
            | exact ⟨⟨k + 1, k, _, _, by omega, by go_num, rfl, rfl, rfl, HX.out.1, hbl2.trans (bq.mono hsl)⟩, by simp [intOf]; omega⟩
            | (go_roundw
               case rel => exact ⟨k + 1, k, _, _, by omega, by go_num, rfl, rfl, rfl, HX.out.1, hbl2.trans (bq.mono hsl)⟩
               case measure => simp [intOf]; omega)
      · obtain rfl : k = l.length := by omega
        have HX := Lib.hid hK.end_
        clear hK
        go_wp2
        go_returns
        exact ⟨by rw [HC.out.1, HC.out.2, HO.out, HX.out.1, HX.out.2]; rfl, hb⟩
  · have HO := Lib.hid h1
    have HC := Lib.hid (show lonA l = 0 ∧ lonB l = 0 by unfold lonA lonB; rw [h1]; exact ⟨rfl, rfl⟩)
    rewrite [h1]
    clear h1
    go_wp2
    go_returns
    exact ⟨by rw [HC.out.1, HC.out.2, HO.out]; rfl, b1⟩
def endsC (l : List LE) : List Int := chgL l ++ [(l.length : Int)]
theorem endsC_fold (l : List LE) : (endsC l).foldl upd (0, 0, 0) = lonT l := lonT_fold l
theorem endsC_range (l : List LE) : ∀ x ∈ endsC l, 0 ≤ x ∧ x ≤ l.length := by
  intro x hx
  unfold endsC at hx
  rcases List.mem_append.1 hx with h | h
  · exact chgK_range x h
  · rw [List.mem_singleton.1 h]
    exact ⟨Int.natCast_nonneg _, Int.le_refl _⟩
theorem endsC_step {l : List LE} {k : Nat} (h : k < (endsC l).length) : ((endsC l).take (k + 1)).foldl upd (0, 0, 0) = upd (((endsC l).take k).foldl upd (0, 0, 0)) (endsC l)[k] := by
  rw [List.take_succ_eq_append_getElem h, List.foldl_append]
  rfl
theorem impl_LongestColour (A : Option Addr) (cap : Nat) (l : List LE) (w : World) (hn : l.length ≤ 1048576) (hr : Rd w w.heap.size A (flatL l)) :
    Calls Try.prog 29 #[.slice A l.length cap] w fun e w' => e = .returned (.tuple #[.int .i64 (lonA l), .int .i64 (lonB l), .bool (okLog l)]) ∧ Below w.heap.size w w' := by
  obtain ⟨i0, hi, hz0, hz1, hz2⟩ := info_parts intInfo
  go_enter Try.func29, Try.ntmps29
  go_wp2_with fail
  refine (impl_ColoursChangeR _ _ _ _ hn hr).mono ?_; rintro e w1 hP
  obtain ⟨v, rfl, hown, b1⟩ := hP
  rcases Bool.eq_false_or_eq_true (okLog l) with h1 | h1
  · have HO := Lib.hid h1
    have HC := Lib.hid (show lonA l = (lonT l).1 ∧ lonB l = (lonT l).2.1 by unfold lonA lonB; rw [h1]; exact ⟨rfl, rfl⟩)
    have hl60 := (okLog_parts h1).1
    rw [show chO l = chgL l by unfold chO; rw [h1]; rfl] at hown
    rewrite [h1]
    clear h1
    have hle : (chgL l).length ≤ l.length := chgK_len _ _
    have hIs := Lib.hid (show ints (chgL l) ++ [.int .i64 (l.length : Int)] = ints (endsC l) from (ints_snoc _ _).symm)
    have hEl := Lib.hid (show (chgL l).length + 1 = (endsC l).length by unfold endsC; rw [List.length_append]; rfl)
    generalize chgL l = L at *
    have hs1 := b1.size
    go_wp2_with (first | (at_builtin; refine wpList_append_own _ rfl (.tmp 19) (.tmp 22) 47 rfl w.heap.size 3 i0 _ 1 8 Try.underlying47 hi hz0 hz1 hz2 rfl (by omega) _ L.length (ints L) rfl (hown.alloc _) ⟨w1.heap.size, 0, none⟩ 1 1 [.int .i64 (l.length : Int)] rfl rfl one_cellI one_oneI (by unfold maxLen; omega) (by omega) (by simp; omega) ?_; intro v3 w3 hown3 hg3 _) | fail)
    have hb3 : Below w.heap.size w w3 := row_below (hown.alloc _) (b1.alloc (by omega) _) (by simp; omega) hg3
    rw [hIs.out, hEl.out] at hown3
    obtain ⟨A7, cap7, rfl⟩ := slice_of_row hown3
    obtain ⟨g, rest, rfl, X⟩ := (own_of_row hown3).1 (by rw [ints_length, ← hEl.out]; omega)
    have hgl := X.lt
    have hE60 : (endsC l).length ≤ 61 := by have := hEl.out; omega
    have HR := Lib.hid (endsC_range l)
    have HF := Lib.hid (endsC_fold l)
    have HS := Lib.hid (fun k h => endsC_step (l := l) (k := k) h)
    clear hIs hEl hown3 hg3 hown b1
    generalize endsC l = E at *
    go_wp2
    rw [run_len_slice _ _ _ _ _ _ (by rfl)]
    go_wp2
    go_loop [7, 8, 9, 25] (fun bg lo le i => ∃ (k : Nat) (s : Int × Int × Int), k ≤ E.length ∧ i = .int .i64 k ∧ s = (E.take k).foldl upd (0, 0, 0) ∧ lo = .int .i64 s.1 ∧ le = .int .i64 s.2.1 ∧ bg = .int .i64 s.2.2 ∧ (0 ≤ s.1 ∧ 0 ≤ s.2.1 ∧ 0 ≤ s.2.2 ∧ s.1 ≤ l.length ∧ s.2.1 ≤ l.length ∧ s.2.2 ≤ l.length)) (fun _ _ _ i => E.length - (intOf i).toNat)
    case atStart => exact ⟨0, (0, 0, 0), Nat.zero_le _, rfl, rfl, rfl, rfl, rfl, by dsimp only; omega⟩
    case round =>
      obtain ⟨k, s, hk, rfl, hs, rfl, rfl, rfl, hg⟩ := hrel
      by_cases hlt : k < E.length
      · have hc : w3.cell? ⟨g, k, none⟩ = some (.int .i64 E[k]) := by rw [X.cell, List.getElem?_append_left (by rw [ints_length]; exact hlt), ints_at _ _ hlt]
        have hx := HR.out E[k] (List.getElem_mem hlt)
        have HT := Lib.hid (show upd s E[k] = (E.take (k + 1)).foldl upd (0, 0, 0) by rw [HS.out k hlt, hs])
        have HQ := Lib.hid (show 0 ≤ (upd s E[k]).1 ∧ 0 ≤ (upd s E[k]).2.1 ∧ 0 ≤ (upd s E[k]).2.2 ∧ (upd s E[k]).1 ≤ l.length ∧ (upd s E[k]).2.1 ≤ l.length ∧ (upd s E[k]).2.2 ≤ l.length by
          rw [HT.out]
          exact upd_range l.length _ _ (fun x hx => HR.out x (List.mem_of_mem_take hx)) (by decide) (by decide) (by decide) (Int.natCast_nonneg _) (Int.natCast_nonneg _) (Int.natCast_nonneg _))
        clear hs
        generalize E[k] = x at *
        obtain ⟨s0, s1, s2⟩ := s
        dsimp only at hg
        by_cases hm : s1 < x - s2
        · have hU : upd (s0, s1, s2) x = (s2, x - s2, x) := by unfold upd; dsimp only; rw [if_pos hm, if_pos hm]
          rw [hU] at HT HQ
          have hdm : decide (s1 < x - s2) = true := decide_eq_true hm
          clear hU
          go_wp2
          first
            | exact ⟨⟨k + 1, (s2, x - s2, x), by omega, by go_num, HT.out, rfl, rfl, rfl, HQ.out⟩, by simp [intOf]; omega⟩
            | (go_round
               case rel => exact ⟨k + 1, (s2, x - s2, x), by omega, by go_num, HT.out, rfl, rfl, rfl, HQ.out⟩
               case measure => simp [intOf]; omega)
        · have hU : upd (s0, s1, s2) x = (s0, s1, x) := by unfold upd; dsimp only; rw [if_neg hm, if_neg hm]
          rw [hU] at HT HQ
          have hdm : decide (s1 < x - s2) = false := decide_eq_false hm
          clear hU
          go_wp2
          first
            | exact ⟨⟨k + 1, (s0, s1, x), by omega, by go_num, HT.out, rfl, rfl, rfl, HQ.out⟩, by simp [intOf]; omega⟩
            | (go_round
               case rel => exact ⟨k + 1, (s0, s1, x), by omega, by go_num, HT.out, rfl, rfl, rfl, HQ.out⟩
               case measure => simp [intOf]; omega)
      · obtain rfl : k = E.length := by omega
        rw [List.take_length, HF.out] at hs
        have HX := Lib.hid hs
        clear hs
        go_wp2
        go_returns
        exact ⟨by rw [HC.out.1, HC.out.2, HO.out, ← HX.out]; rfl, hb3⟩
  · have HO := Lib.hid h1
    have HC := Lib.hid (show lonA l = 0 ∧ lonB l = 0 by unfold lonA lonB; rw [h1]; exact ⟨rfl, rfl⟩)
    rewrite [h1]
    clear h1 hown
    go_wp2
    go_returns
    exact ⟨by rw [HC.out.1, HC.out.2, HO.out]; rfl, b1⟩
end Go.Proofs.Ytlambflmabecfaa
