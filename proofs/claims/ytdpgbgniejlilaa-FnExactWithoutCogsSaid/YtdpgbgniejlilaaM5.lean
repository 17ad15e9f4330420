/- Contracts of the program and of the model, walked, part 5 of 5. No condition but what each says. -/
import Derived.Test.YtdpgbgniejlilaaM4
import Derived.BigQuiet
import Derived.Test.YtdpgbgniejlilaaM3
import Derived.Test.YtdpgbgniejlilaaM2
namespace Go.Proofs.Ytdpgbgniejlilaa
open Go.ChangeShapes Go.WideShapes Go.ChangeAt Go.RowKit Go.Joins Go.Deep
set_option linter.unusedSimpArgs false
set_option linter.unusedVariables false
set_option maxRecDepth 100000
set_option maxHeartbeats 8000000
theorem spec_ggGears (r c b o cap : Nat) (l : List (Int × Int)) (w : World) (hG : Geo r c l.length) (hg : goodB (r : Int) (c : Int) l = true) (hr : Rd w w.heap.size (some ⟨b, o, none⟩) (flat l)) :
    Calls Try.prog 43 #[.agg #[.int .i64 (r : Int), .int .i64 (c : Int), .slice (some ⟨b, o, none⟩) l.length cap]] w fun e w' => ∃ P, e = .returned (.slice (some ⟨P, 0, none⟩) (GG (c : Int) l).length (GG (c : Int) l).length) ∧ w.heap.size ≤ P ∧ GRow w' P (GG (c : Int) l).length (gpr (c : Int) l l.length) ∧ Below w.heap.size w w' := by
  have hpos := (goodB_parts hg).2.2
  have n90 := hG.n90
  have hGl := GG_len c l
  have HSt := Lib.hid (good_state hg)
  obtain ⟨b', o', e0, hbl, hc⟩ := hr (by rw [flat_length]; omega)
  cases e0
  have hr' : Rd w w.heap.size (some ⟨b, o, none⟩) (flat l) := fun _ => ⟨b, o, rfl, hbl, hc⟩
  have hmk := fun w => run_make_lists (GG (c : Int) l).length (by omega) w
  have hmost := most_num hG
  clear hg hr
  go_enter Try.func43, Try.ntmps43
  obtain ⟨v0, hv0⟩ : ∃ v, v = w.alloc (.cells #[.int .i64 (r : Int), .int .i64 (c : Int), .slice (some ⟨b, o, none⟩) l.length cap] 30) := ⟨_, rfl⟩
  have X0 : Whole v0 w.heap.size 30 [.int .i64 (r : Int), .int .i64 (c : Int), .slice (some ⟨b, o, none⟩) l.length cap] := by rw [hv0]; exact heap_alloc_new w _
  have hb : Below w.heap.size w v0 := by rw [hv0]; exact (Below.refl _ _).alloc (Nat.le_refl _) _
  have HV := Lib.hid hv0.symm
  clear hv0
  go_upto_region 1 with (fail)
  rewrite [HV.out]
  clear HV
  have X0k0 : v0.cell? ⟨w.heap.size, 0, none⟩ = some (.int .i64 (r : Int)) := (X0.cell 0).trans rfl; have X0k1 : v0.cell? ⟨w.heap.size, 1, none⟩ = some (.int .i64 (c : Int)) := (X0.cell 1).trans rfl; have X0k2 : v0.cell? ⟨w.heap.size, 2, none⟩ = some (.slice (some ⟨b, o, none⟩) l.length cap) := (X0.cell 2).trans rfl
  go_wp2_with fail
  refine (spec_ggGroupsN r c _ cap l _ hG ((hr'.below hb).mono hb.size)).mono ?_
  rintro e w3 ⟨A3, c3, rfl, o3, n3, b3⟩
  clear X0k0 X0k1 X0k2
  have hz0 := X0.lt
  have n3' : ∀ a, A3 = some a → w.heap.size < a.block := fun a ha => Nat.lt_of_lt_of_le hz0 (n3 a ha)
  clear n3
  replace X0 := X0.below b3 X0.lt
  replace hb := hb.trans (b3.mono hb.size)
  clear b3 hz0
  obtain ⟨g3, rest3, rfl, X3⟩ := o3 (by rw [ints_length, numL_len]; exact hpos)
  have h3 : w.heap.size < g3 := n3' _ rfl
  clear o3 n3'
  have hcnt := spec_ggCount g3 c3 rest3 (numL c l) w3 (by rw [numL_len]; omega) (numL_range n90) X3
  rw [numL_len, hmost] at hcnt
  generalize hng : (GG (c : Int) l).length = ng at *
  go_wp2_with fail
  refine hcnt.mono ?_; rintro e w4 ⟨rfl, rfl⟩
  clear hcnt hmost
  go_upto_region 3 with (fail)
  have X4 : Whole (w4.alloc (.cells (zlist ng).toArray 55)) w4.heap.size 55 (hdrs w4.heap.size ng 0) := heap_alloc_new w4 _
  have bd : Below w4.heap.size w4 (w4.alloc (.cells (zlist ng).toArray 55)) := (Below.refl _ _).alloc (Nat.le_refl _) _
  have hP0 : w.heap.size < w4.heap.size := X0.lt
  have hP3 : g3 < w4.heap.size := X3.lt
  replace X0 := X0.below bd X0.lt
  replace X3 := X3.below bd X3.lt
  replace hb := hb.trans (bd.mono hb.size)
  clear bd
  have hsz : (w4.alloc (.cells (zlist ng).toArray 55)).heap.size = w4.heap.size + 1 := World.size_alloc _ _
  generalize w4.alloc (.cells (zlist ng).toArray 55) = w5 at *
  generalize w4.heap.size = P at *
  clear hmk
  go_wp2_with fail
  go_loopw [15] (fun j wr => ∃ k : Nat, j = .int .i64 k ∧ k ≤ ng ∧ Whole wr w.heap.size 30 [.int .i64 (r : Int), .int .i64 (c : Int), .slice (some ⟨b, o, none⟩) l.length cap] ∧ Whole wr g3 3 (ints (numL c l) ++ rest3) ∧ Whole wr P 55 (hdrs P ng k) ∧ (∀ m, m < k → Whole wr (P + 1 + m) 3 (ints (gpr (c : Int) l 0 m))) ∧ wr.heap.size = P + 1 + k ∧ Below w.heap.size w wr) (fun j _ => ng - (intOf j).toNat)
  case atStart => exact ⟨0, rfl, Nat.zero_le _, X0, X3, X4, fun m hm => absurd hm (Nat.not_lt_zero m), hsz, hb⟩
  case round =>
    clear X0 X3 X4 hsz hb
    obtain ⟨k, rfl, hk, X0, X3, X4, hM, hsz, hb⟩ := hrel
    by_cases hlt : k < ng
    · have hk1 := (X4.cell k).trans (hdrs_no hlt)
      have hk2 := X4.frozen k
      have HS := Lib.hid (hdrs_set (P := P) hlt)
      have bd : Below wr.heap.size wr (wr.alloc (.cells #[.int .i64 0, .int .i64 0] 3)) := (Below.refl _ _).alloc (Nat.le_refl _) _
      have Xn : Whole (wr.alloc (.cells #[.int .i64 0, .int .i64 0] 3)) wr.heap.size 3 (ints (gpr (c : Int) l 0 k)) := heap_alloc_new wr _
      have hb1 := hb.trans (bd.mono hb.size)
      have hl0 := X0.lt
      have hl3 := X3.lt
      have hM1 : ∀ m, m < k → Whole (wr.alloc (.cells #[.int .i64 0, .int .i64 0] 3)) (P + 1 + m) 3 (ints (gpr (c : Int) l 0 m)) := fun m hm => (hM m hm).below bd (hM m hm).lt
      have X41 := X4.below bd X4.lt
      have hk11 := (X41.cell k).trans (hdrs_no hlt)
      have hk12 := X41.frozen k
      have HX := Lib.hid (⟨(X0.below bd X0.lt).set_far ⟨P, k, none⟩ (hdr P k) (show P ≠ w.heap.size by omega), (X3.below bd X3.lt).set_far ⟨P, k, none⟩ (hdr P k) (show P ≠ g3 by omega), X41.set k (hdr P k), fun m (hm : m < k + 1) => (show Whole ((wr.alloc (.cells #[.int .i64 0, .int .i64 0] 3)).setCell ⟨P, k, none⟩ (hdr P k)) (P + 1 + m) 3 (ints (gpr (c : Int) l 0 m)) by
        by_cases q : m < k
        · exact (hM1 m q).set_far _ _ (by show P ≠ P + 1 + m; omega)
        · obtain rfl : m = k := by omega
          rw [← hsz]
          exact Xn.set_far _ _ (by show P ≠ wr.heap.size; omega)), by rw [World.size_setCell, World.size_alloc, hsz]; omega, hb1.setCell (p := ⟨P, k, none⟩) (by show w.heap.size ≤ P; omega) (hdr P k)⟩ : _ ∧ _ ∧ _ ∧ _ ∧ ((wr.alloc (.cells #[.int .i64 0, .int .i64 0] 3)).setCell ⟨P, k, none⟩ (hdr P k)).heap.size = P + 1 + (k + 1) ∧ _)
      clear X0 X3 X4 X41 hM hM1 Xn hb hb1 bd
      go_wp2
      obtain ⟨hX0, hX3, hX4, hM', hsz', hb'⟩ := HX.out
      rw [HS.out] at hX4
      go_roundw
      case rel => exact ⟨k + 1, by go_num, by omega, hX0, hX3, hX4, hM', hsz', hb'⟩
      case measure => simp [intOf]; omega
    · obtain rfl : ng = k := by omega
      rw [hdrs_all] at X4
      have hR : GRow wr P ng (gpr (c : Int) l 0) := ⟨X4, hM⟩
      clear X4 hM hsz hk hlt
      go_wp2_with fail
      go_loopw [25] (fun t wr => ∃ k : Nat, t = .int .i64 k ∧ k ≤ l.length ∧ Whole wr w.heap.size 30 [.int .i64 (r : Int), .int .i64 (c : Int), .slice (some ⟨b, o, none⟩) l.length cap] ∧ Whole wr g3 3 (ints (numL c l) ++ rest3) ∧ GRow wr P ng (gpr (c : Int) l k) ∧ Below w.heap.size w wr) (fun t _ => l.length - (intOf t).toNat)
      case atStart => exact ⟨0, rfl, Nat.zero_le _, X0, X3, hR, hb⟩
      case round =>
        clear X0 X3 hR hb
        obtain ⟨k, rfl, hk, X0, X3, hR, hb⟩ := hrel
        by_cases hlt : k < l.length
        · obtain ⟨hc0, hc1⟩ := cell_at2 hb hbl hc hlt
          have hget : l.getD k (0, 0) = l[k] := by rw [List.getD_eq_getElem?_getD, List.getElem?_eq_getElem hlt]; rfl
          have hc3 : wr.cell? ⟨g3, k, none⟩ = some (.int .i64 (nmb (c : Int) l k)) := (X3.cell k).trans ((List.getElem?_append_left (by rw [ints_length, numL_len]; exact hlt)).trans (numL_at hlt))
          have X0k0 : wr.cell? ⟨w.heap.size, 0, none⟩ = some (.int .i64 (r : Int)) := (X0.cell 0).trans rfl; have X0k1 : wr.cell? ⟨w.heap.size, 1, none⟩ = some (.int .i64 (c : Int)) := (X0.cell 1).trans rfl; have X0k2 : wr.cell? ⟨w.heap.size, 2, none⟩ = some (.slice (some ⟨b, o, none⟩) l.length cap) := (X0.cell 2).trans rfl
          by_cases h66 : l[k].1 = 6
          · have hk6 : (l.getD k (0, 0)).1 = 6 := by rw [hget]; exact h66
            have hgk : gearK l k = true := by unfold gearK; rw [hk6]; rfl
            obtain ⟨m, hm, hmn⟩ := nmb_gear hG hlt hk6
            rw [hng] at hmn
            rw [hm] at hc3
            rw [h66] at hc0
            have hmn' : (m : Int) < (ng : Int) := by omega
            have hm0 : (0 : Int) ≤ (m : Int) := by omega
            clear h66 hk6
            have hs2 := HSt.out k hlt
            rw [← hget] at hc1
            rcases hs2 with hs0 | hs0
            · clear hget
              have hlen := gpr_len (c : Int) l k m
              have q2 := hR.2 m hmn
              have q1 : wr.cell? ⟨P, m, none⟩ = some (.slice (some ⟨P + 1 + m, 0, none⟩) 2 2) := (hR.1.cell m).trans (hdrs_at hmn)
              have q3 : wr.cell? ⟨P + 1 + m, 0, none⟩ = some (.int .i64 ((gcn (c : Int) l k (m : Int) 0 : Nat) : Int)) := (q2.cell 0).trans rfl
              have f3 := q2.frozen 0
              have hle := gcn_le (c : Int) l k (m : Int) 0
              have HR := Lib.hid (hR.set (m := m) (j := 0) (x := ((gcn (c : Int) l k (m : Int) 0 : Nat) : Int) + 1) (g := gpr (c : Int) l (k + 1)) (gpr_0 hgk hm hs0) (fun m' _ hne => gpr_skip (.inr (by omega))))
              have hX0 := X0.set_far ⟨P + 1 + m, 0, none⟩ (.int .i64 (((gcn (c : Int) l k (m : Int) 0 : Nat) : Int) + 1)) (show P + 1 + m ≠ w.heap.size by omega)
              have hX3 := X3.set_far ⟨P + 1 + m, 0, none⟩ (.int .i64 (((gcn (c : Int) l k (m : Int) 0 : Nat) : Int) + 1)) (show P + 1 + m ≠ g3 by omega)
              have hb' := hb.setCell (p := ⟨P + 1 + m, 0, none⟩) (by show w.heap.size ≤ P + 1 + m; omega) (.int .i64 (((gcn (c : Int) l k (m : Int) 0 : Nat) : Int) + 1))
              have HX := Lib.hid (⟨hX0, hX3, HR.out, hb'⟩ : _ ∧ _ ∧ _ ∧ _)
              clear hX0 hX3 HR hb' hR q2 hm hgk hlen X3
              generalize gcn (c : Int) l k (m : Int) 0 = v at *
              have hv1 : IntKind.i64.wrap ((v : Int) + 1) = (v : Int) + 1 := IntWalk.i64_in _ (by omega)
              rw [hs0] at hc1
              clear hs0
              go_upto_region 12 with (fail)
              go_region_law (fail)
              all_goals obtain ⟨hX0, hX3, hR', hb'⟩ := HX.out
              all_goals (clear HX; go_wp2; go_roundw)
              all_goals first
                | exact ⟨k + 1, by go_num, by omega, hX0, hX3, hR', hb'.drew⟩
                | (simp [intOf]; omega)
                | fail
            · clear hget
              have hlen := gpr_len (c : Int) l k m
              have q2 := hR.2 m hmn
              have q1 : wr.cell? ⟨P, m, none⟩ = some (.slice (some ⟨P + 1 + m, 0, none⟩) 2 2) := (hR.1.cell m).trans (hdrs_at hmn)
              have q3 : wr.cell? ⟨P + 1 + m, 1, none⟩ = some (.int .i64 ((gcn (c : Int) l k (m : Int) 1 : Nat) : Int)) := (q2.cell 1).trans rfl
              have f3 := q2.frozen 1
              have hle := gcn_le (c : Int) l k (m : Int) 1
              have HR := Lib.hid (hR.set (m := m) (j := 1) (x := ((gcn (c : Int) l k (m : Int) 1 : Nat) : Int) + 1) (g := gpr (c : Int) l (k + 1)) (gpr_1 hgk hm hs0) (fun m' _ hne => gpr_skip (.inr (by omega))))
              have hX0 := X0.set_far ⟨P + 1 + m, 1, none⟩ (.int .i64 (((gcn (c : Int) l k (m : Int) 1 : Nat) : Int) + 1)) (show P + 1 + m ≠ w.heap.size by omega)
              have hX3 := X3.set_far ⟨P + 1 + m, 1, none⟩ (.int .i64 (((gcn (c : Int) l k (m : Int) 1 : Nat) : Int) + 1)) (show P + 1 + m ≠ g3 by omega)
              have hb' := hb.setCell (p := ⟨P + 1 + m, 1, none⟩) (by show w.heap.size ≤ P + 1 + m; omega) (.int .i64 (((gcn (c : Int) l k (m : Int) 1 : Nat) : Int) + 1))
              have HX := Lib.hid (⟨hX0, hX3, HR.out, hb'⟩ : _ ∧ _ ∧ _ ∧ _)
              clear hX0 hX3 HR hb' hR q2 hm hgk hlen X3
              generalize gcn (c : Int) l k (m : Int) 1 = v at *
              have hv1 : IntKind.i64.wrap ((v : Int) + 1) = (v : Int) + 1 := IntWalk.i64_in _ (by omega)
              rw [hs0] at hc1
              clear hs0
              go_upto_region 12 with (fail)
              go_region_law (fail)
              all_goals obtain ⟨hX0, hX3, hR', hb'⟩ := HX.out
              all_goals (clear HX; go_wp2; go_roundw)
              all_goals first
                | exact ⟨k + 1, by go_num, by omega, hX0, hX3, hR', hb'.drew⟩
                | (simp [intOf]; omega)
                | fail
          · have hgk : gearK l k = false := by unfold gearK; rw [hget]; simpa using h66
            have hR' := hR.congr (fun m _ => gpr_skip (C := (c : Int)) (m := m) (.inl hgk))
            clear hgk hget hR
            generalize l[k].1 = kd at *
            generalize nmb (c : Int) l k = nk at *
            go_wp2_with fail
            go_roundw
            case rel => exact ⟨k + 1, by go_num, by omega, X0, X3, hR', hb⟩
            case measure => simp [intOf]; omega
        · obtain rfl : k = l.length := by omega
          go_wp2
          go_returns
          subst hng
          exact ⟨P, rfl, by omega, hR, hb⟩
theorem spec_ggGearsA (r c : Nat) (A : Option Addr) (cap : Nat) (l : List (Int × Int)) (w : World) (hG : Geo r c l.length) (hg : goodB (r : Int) (c : Int) l = true) (hr : Rd w w.heap.size A (flat l)) :
    Calls Try.prog 43 #[.agg #[.int .i64 (r : Int), .int .i64 (c : Int), .slice A l.length cap]] w fun e w' => ∃ P, e = .returned (.slice (some ⟨P, 0, none⟩) (GG (c : Int) l).length (GG (c : Int) l).length) ∧ w.heap.size ≤ P ∧ GRow w' P (GG (c : Int) l).length (gpr (c : Int) l l.length) ∧ Below w.heap.size w w' := by
  have hpos := (goodB_parts hg).2.2
  obtain ⟨b, o, rfl, _, _⟩ := hr (by rw [flat_length]; omega)
  exact spec_ggGears r c b o cap l w hG hg hr
/-- The two numbers of a group. -/
theorem GRow.pair {w : World} {P n m : Nat} {C : Int} {l : List (Int × Int)} {k : Nat} (h : GRow w P n (gpr C l k)) (hm : m < n) :
    w.cell? ⟨P, m, none⟩ = some (.slice (some ⟨P + 1 + m, 0, none⟩) 2 2) ∧ w.cell? ⟨P + 1 + m, 0, none⟩ = some (.int .i64 ((gcn C l k (m : Int) 0 : Nat) : Int)) ∧ w.cell? ⟨P + 1 + m, 1, none⟩ = some (.int .i64 ((gcn C l k (m : Int) 1 : Nat) : Int)) :=
  ⟨(h.1.cell m).trans (hdrs_at hm), ((h.2 m hm).cell 0).trans rfl, ((h.2 m hm).cell 1).trans rfl⟩
end Go.Proofs.Ytdpgbgniejlilaa
namespace Go.Proofs.Ytdpgbgniejlilaa
open Go.ChangeShapes Go.WideShapes Go.ChangeAt Go.RowKit Go.Joins Go.Deep
set_option linter.unusedSimpArgs false
set_option linter.unusedVariables false
set_option maxRecDepth 100000
set_option maxHeartbeats 4000000
def gct (C : Int) (l : List (Int × Int)) (m : Nat) : Nat := ((List.range l.length).filter fun x => gearK l x && decide (nmb C l x = (m : Int))).length
theorem gcn_sum {C : Int} {l : List (Int × Int)} {m : Int} (h : ∀ y, y < l.length → (l.getD y (0, 0)).2 = 0 ∨ (l.getD y (0, 0)).2 = 1) : ∀ k, k ≤ l.length → gcn C l k m 0 + gcn C l k m 1 = ((List.range k).filter fun x => gearK l x && decide (nmb C l x = m)).length := by
  intro k
  induction k with
  | zero => intro _; rfl
  | succ k ih =>
    intro hk
    rw [gcn_step, gcn_step, List.range_succ, List.filter_append, List.length_append, ← ih (by omega)]
    have e : (List.filter (fun x => gearK l x && decide (nmb C l x = m)) [k]).length = if gearK l k && decide (nmb C l k = m) then 1 else 0 := by
      by_cases q : (gearK l k && decide (nmb C l k = m)) = true
      · rw [if_pos q]; simp only [List.filter_cons, q, if_true]; rfl
      · rw [if_neg q]; simp only [List.filter_cons, q]; rfl
    rw [e]
    rcases h k (by omega) with q | q
    · rw [q]; simp; omega
    · rw [q]; simp; omega
theorem gct_sum {r c : Int} {l : List (Int × Int)} (hg : goodB r c l = true) (m : Nat) : gcn c l l.length (m : Int) 0 + gcn c l l.length (m : Int) 1 = gct c l m := gcn_sum (good_state hg) _ (Nat.le_refl _)
theorem gct_le (C : Int) (l : List (Int × Int)) (m : Nat) : gct C l m ≤ l.length := by
  unfold gct
  have := List.length_filter_le (fun x => gearK l x && decide (nmb C l x = (m : Int))) (List.range l.length)
  rw [List.length_range] at this
  exact this
theorem gct_srt {r c t : Nat} {l : List (Int × Int)} (hG : Geo r c l.length) (ht : t < (srtG c l).length) : (((srtG c l)[t]).filter (gearK l)).length = gct (c : Int) l t := by
  rw [gs_eq hG ht]
  rfl
/-- The first place with the greatest number, and that number. -/
def lgT (t : Nat → Nat) : Nat → Nat × Nat
  | 0 => (0, 0)
  | k + 1 => if (lgT t k).2 < t k then (k, t k) else lgT t k
theorem lgT_yes {t : Nat → Nat} {k : Nat} (h : (lgT t k).2 < t k) : lgT t (k + 1) = (k, t k) := by
  show (if _ then _ else _) = _
  rw [if_pos h]
theorem lgT_no {t : Nat → Nat} {k : Nat} (h : ¬ (lgT t k).2 < t k) : lgT t (k + 1) = lgT t k := by
  show (if _ then _ else _) = _
  rw [if_neg h]
theorem lgT_one {t : Nat → Nat} : lgT t 1 = (0, t 0) := by
  show (if 0 < t 0 then (0, t 0) else (0, 0)) = _
  split
  · rfl
  · rw [show t 0 = 0 by omega]
theorem lgT_le {t : Nat → Nat} {B : Nat} (h : ∀ k, t k ≤ B) : ∀ k, (lgT t k).1 ≤ k ∧ (lgT t k).2 ≤ B
  | 0 => ⟨Nat.le_refl _, Nat.zero_le _⟩
  | k + 1 => by
    have ih := lgT_le h k
    show (if (lgT t k).2 < t k then (k, t k) else lgT t k).1 ≤ k + 1 ∧ (if (lgT t k).2 < t k then (k, t k) else lgT t k).2 ≤ B
    split
    · exact ⟨by show k ≤ k + 1; omega, h k⟩
    · exact ⟨by omega, ih.2⟩
def lgP (C : Int) (l : List (Int × Int)) : Nat × Nat := lgT (gct C l) (GG C l).length
def okL (R C : Int) (l : List (Int × Int)) : Bool := goodB R C l && decide (0 < (GG C l).length)
def lgA (R C : Int) (l : List (Int × Int)) : Int := selI (goodB R C l) ((lgP C l).1 : Int)
def lgM (R C : Int) (l : List (Int × Int)) : Int := selI (goodB R C l) ((lgP C l).2 : Int)
theorem srtG_length (c : Nat) (l : List (Int × Int)) : (srtG c l).length = (GG (c : Int) l).length := by unfold srtG; rw [List.length_map]
theorem srtG_lt (c : Nat) (l : List (Int × Int)) (t : Nat) (ht : t < (srtG c l).length) : ∀ x ∈ (srtG c l)[t], x < l.length := fun x hx => by
  have e : (srtG c l)[t] = sortN l.length ((GG (c : Int) l)[t]'(by unfold srtG at ht; rwa [List.length_map] at ht)) := by simp only [srtG, List.getElem_map]
  rw [e, mem_sortN] at hx
  exact hx.1
end Go.Proofs.Ytdpgbgniejlilaa
namespace Go.Proofs.Ytdpgbgniejlilaa
open Go.ChangeShapes Go.WideShapes Go.ChangeAt Go.RowKit Go.Joins Go.Deep
set_option linter.unusedSimpArgs false
set_option linter.unusedVariables false
set_option maxRecDepth 100000
set_option maxHeartbeats 2000000
def lone (C : Int) (l : List (Int × Int)) (x : Nat) : Bool := gearK l x && decide (((List.range l.length).filter fun y => gearK l y && decide (nmb C l y = nmb C l x)).length = 1)
def loneTo (C : Int) (l : List (Int × Int)) (k : Nat) : List Nat := (List.range k).filter (lone C l)
def loneB (R C : Int) (l : List (Int × Int)) : List Int := if goodB R C l then nI (loneTo C l l.length) else []
theorem loneTo_le (C : Int) (l : List (Int × Int)) (k : Nat) : (loneTo C l k).length ≤ k := by
  unfold loneTo
  have := List.length_filter_le (lone C l) (List.range k)
  rw [List.length_range] at this
  exact this
theorem loneB_len (R C : Int) (l : List (Int × Int)) (h : l.length ≤ 1048576) : (loneB R C l).length ≤ 1048576 := by
  unfold loneB
  split
  · rw [nI_length]; have := loneTo_le C l l.length; omega
  · simp
theorem lone_gear {C : Int} {l : List (Int × Int)} {x m : Nat} (hg : gearK l x = true) (hm : nmb C l x = (m : Int)) : lone C l x = decide (gct C l m = 1) := by
  unfold lone gct
  rw [hg, hm, Bool.true_and]
theorem loneTo_yes {C : Int} {l : List (Int × Int)} {k : Nat} (h : lone C l k = true) : loneTo C l (k + 1) = loneTo C l k ++ [k] := by
  unfold loneTo
  rw [List.range_succ, List.filter_append]
  simp only [List.filter_cons, h, if_true]
  rfl
theorem loneTo_no {C : Int} {l : List (Int × Int)} {k : Nat} (h : lone C l k = false) : loneTo C l (k + 1) = loneTo C l k := by
  unfold loneTo
  rw [List.range_succ, List.filter_append]
  simp only [List.filter_cons, h]
  simp
/-- The gears of a group that has one only. -/
def gl (C : Int) (l : List (Int × Int)) (s : Nat) : List Nat := if gct C l s = 1 then (List.range l.length).filter (fun x => gearK l x && decide (nmb C l x = (s : Int))) else []
def lsR (C : Int) (l : List (Int × Int)) : Nat → List Nat
  | 0 => []
  | t + 1 => lsR C l t ++ gl C l t
theorem mem_gl {C : Int} {l : List (Int × Int)} {s x : Nat} : x ∈ gl C l s ↔ gct C l s = 1 ∧ x < l.length ∧ gearK l x = true ∧ nmb C l x = (s : Int) := by
  unfold gl
  split
  · rw [List.mem_filter, List.mem_range, Bool.and_eq_true, decide_eq_true_eq]
    simp_all
  · simp_all
theorem mem_lsR {C : Int} {l : List (Int × Int)} {x : Nat} : ∀ t, x ∈ lsR C l t ↔ ∃ s, s < t ∧ x ∈ gl C l s
  | 0 => by simp [lsR]
  | t + 1 => by
    show x ∈ lsR C l t ++ gl C l t ↔ _
    rw [List.mem_append, mem_lsR t]
    constructor
    · rintro (⟨s, h1, h2⟩ | h)
      · exact ⟨s, by omega, h2⟩
      · exact ⟨t, by omega, h⟩
    · rintro ⟨s, h1, h2⟩
      rcases Nat.eq_or_lt_of_le (show s ≤ t by omega) with e | e
      · subst e; exact .inr h2
      · exact .inl ⟨s, e, h2⟩
theorem gl_len (C : Int) (l : List (Int × Int)) (s : Nat) : (gl C l s).length ≤ 1 := by
  unfold gl
  split
  · rename_i h; unfold gct at h; omega
  · simp
theorem lsR_len (C : Int) (l : List (Int × Int)) : ∀ t, (lsR C l t).length ≤ t
  | 0 => Nat.le_refl _
  | t + 1 => by
    show (lsR C l t ++ gl C l t).length ≤ t + 1
    have h1 := lsR_len C l t
    have h2 := gl_len C l t
    rw [List.length_append]
    omega
theorem lsR_nodup (C : Int) (l : List (Int × Int)) : ∀ t, (lsR C l t).Nodup
  | 0 => List.nodup_nil
  | t + 1 => by
    show (lsR C l t ++ gl C l t).Nodup
    rw [List.nodup_append]
    refine ⟨lsR_nodup C l t, ?_, fun a ha b hb e => ?_⟩
    · unfold gl
      split
      · exact List.nodup_range.filter _
      · exact List.nodup_nil
    · subst e
      obtain ⟨s, hs, h1⟩ := (mem_lsR t).1 ha
      have e1 := (mem_gl.1 h1).2.2.2
      have e2 := (mem_gl.1 hb).2.2.2
      omega
theorem lsR_lt {C : Int} {l : List (Int × Int)} {t : Nat} : ∀ x ∈ lsR C l t, x < l.length := fun x hx => by
  obtain ⟨s, _, h⟩ := (mem_lsR t).1 hx
  exact (mem_gl.1 h).2.1
theorem lsR_yes {r c t : Nat} {l : List (Int × Int)} (hG : Geo r c l.length) (ht : t < (srtG c l).length) (h : (((srtG c l)[t]).filter (gearK l)).length = 1) : nI (lsR (c : Int) l (t + 1)) = nI (lsR (c : Int) l t) ++ [(((((srtG c l)[t]).filter (gearK l))[0] : Nat) : Int)] ∧ (lsR (c : Int) l (t + 1)).length = (lsR (c : Int) l t).length + 1 := by
  have e1 : gct (c : Int) l t = 1 := by rw [← gct_srt hG ht]; exact h
  have e2 : gl (c : Int) l t = ((srtG c l)[t]).filter (gearK l) := by unfold gl; rw [if_pos e1, gs_eq hG ht]
  have e3 : gl (c : Int) l t = [(((srtG c l)[t]).filter (gearK l))[0]] := by
    rw [e2]
    apply List.ext_getElem (h.trans rfl)
    intro i h1 h2
    have : i = 0 := by simp at h2; omega
    subst this
    rfl
  show nI (lsR (c : Int) l t ++ gl (c : Int) l t) = _ ∧ (lsR (c : Int) l t ++ gl (c : Int) l t).length = _
  rw [e3]
  exact ⟨by unfold nI; rw [List.map_append]; rfl, by rw [List.length_append]; rfl⟩
theorem lsR_no {r c t : Nat} {l : List (Int × Int)} (hG : Geo r c l.length) (ht : t < (srtG c l).length) (h : ¬ (((srtG c l)[t]).filter (gearK l)).length = 1) : lsR (c : Int) l (t + 1) = lsR (c : Int) l t := by
  show lsR (c : Int) l t ++ gl (c : Int) l t = _
  rw [gct_srt hG ht] at h
  unfold gl
  rw [if_neg h, List.append_nil]
theorem lsR_all {r c : Nat} {l : List (Int × Int)} (hG : Geo r c l.length) : sortN l.length (lsR (c : Int) l (srtG c l).length) = loneTo (c : Int) l l.length := by
  unfold sortN loneTo
  refine List.filter_congr fun x hx => ?_
  rw [List.mem_range] at hx
  rw [Bool.eq_iff_iff, List.contains_iff_mem, mem_lsR]
  constructor
  · rintro ⟨s, hs, h⟩
    obtain ⟨h1, _, h3, h4⟩ := mem_gl.1 h
    rw [lone_gear h3 h4, decide_eq_true h1]
  · intro h
    have h3 : gearK l x = true := by unfold lone at h; rw [Bool.and_eq_true] at h; exact h.1
    obtain ⟨m, hm, hmn⟩ := nmb_gear hG hx (by unfold gearK at h3; simpa using h3)
    rw [lone_gear h3 hm, decide_eq_true_eq] at h
    exact ⟨m, by rw [srtG_length]; exact hmn, mem_gl.2 ⟨h, hx, h3, hm⟩⟩
theorem GRow.lt {w : World} {P n : Nat} {f : Nat → List Int} (h : GRow w P n f) : P + 1 + n ≤ w.heap.size := by
  cases n with
  | zero => have := h.1.lt; omega
  | succ n => have := (h.2 n (by omega)).lt; omega
theorem lsR_yes0 {r c t : Nat} {l : List (Int × Int)} (hG : Geo r c l.length) (ht : t < (srtG c l).length) (h : (((srtG c l)[t]).filter (gearK l)).length = 1) : nI (lsR (c : Int) l (t + 1)) = nI (lsR (c : Int) l t) ++ [((((srtG c l)[t]).filter (gearK l)).getD 0 0 : Int)] := by
  rw [(lsR_yes hG ht h).1, List.getD_eq_getElem?_getD, List.getElem?_eq_getElem (show 0 < (((srtG c l)[t]).filter (gearK l)).length by omega)]
  rfl
end Go.Proofs.Ytdpgbgniejlilaa
namespace Go.Proofs.Ytdpgbgniejlilaa
open Go.ChangeShapes Go.WideShapes Go.ChangeAt Go.RowKit Go.Joins Go.Deep
set_option linter.unusedSimpArgs false
set_option linter.unusedVariables false
set_option maxRecDepth 100000
set_option maxHeartbeats 2000000
def cogK (l : List (Int × Int)) (x : Nat) : Bool := decide ((l.getD x (0, 0)).1 = 7)
def wo (C : Int) (l : List (Int × Int)) (x : Nat) : Bool := cogK l x && decide (((List.range l.length).filter fun y => gearK l y && decide (nmb C l y = nmb C l x)).length ≤ 1)
def zc : Nat → Int × Int := fun _ => (0, 0)
def woL (C : Int) (l : List (Int × Int)) : List (Int × Int) := mixS l zc (wo C l)
def woB (R C : Int) (l : List (Int × Int)) : List (Int × Int) := if goodB R C l then woL C l else []
theorem woB_len (R C : Int) (l : List (Int × Int)) (h : l.length ≤ 1048576) : (woB R C l).length ≤ 1048576 := by
  unfold woB woL
  split
  · rw [mixS_len]; exact h
  · simp
theorem woB_post {w w' : World} {R C : Int} {l : List (Int × Int)} {e : Ending} {ok : Bool} (h : goodB R C l = ok) (hp : if ok then PostB w R C (woL C l) true e w' else PostB w 0 0 [] false e w') :
    PostB w (selI (goodB R C l) R) (selI (goodB R C l) C) (woB R C l) (goodB R C l) e w' := by
  unfold woB
  rw [h]
  cases ok
  · exact hp
  · exact hp
theorem nmb_joins {r c k : Nat} {l : List (Int × Int)} (hG : Geo r c l.length) (hk : k < l.length) (hJ : J l k = true) : ∃ m : Nat, nmb (c : Int) l k = (m : Int) ∧ m < (GG (c : Int) l).length := by
  have hA := groups_all hG
  obtain ⟨g, hg, hxg⟩ := List.mem_flatten.1 (hA.all k hk hJ)
  obtain ⟨t, ht, rfl⟩ := List.getElem_of_mem hg
  have hn := num_is (j := k) _ 0 t hA.apart (List.getElem?_eq_getElem ht)
  rw [Nat.zero_add] at hn
  exact ⟨t, hn.2 hxg, ht⟩
theorem cog_J {l : List (Int × Int)} {k : Nat} (h : (l.getD k (0, 0)).1 = 7) : J l k = true := by unfold J; rw [h]; rfl
theorem wo_cog {C : Int} {l : List (Int × Int)} {x m : Nat} (hg : cogK l x = true) (hm : nmb C l x = (m : Int)) : wo C l x = decide (gct C l m ≤ 1) := by
  unfold wo gct
  rw [hg, hm, Bool.true_and]
def upW (C : Int) (l : List (Int × Int)) (k x : Nat) : Bool := decide (x < k) && wo C l x
theorem upW_zero {C : Int} {l : List (Int × Int)} : mixS l zc (upW C l 0) = l := by
  rw [show mixS l zc (upW C l 0) = mixS l zc (fun _ => false) from mixS_congr fun x _ => by simp [upW]]
  exact mixS_none
theorem upW_all {C : Int} {l : List (Int × Int)} : mixS l zc (upW C l l.length) = woL C l := mixS_congr fun x hx => by simp [upW, hx]
theorem upW_no {C : Int} {l : List (Int × Int)} {k : Nat} (h : wo C l k = false) : mixS l zc (upW C l (k + 1)) = mixS l zc (upW C l k) := mixS_congr fun x _ => by
  unfold upW
  by_cases e : x = k
  · subst e; rw [h, Bool.and_false, Bool.and_false]
  · have : decide (x < k + 1) = decide (x < k) := by by_cases h1 : x < k <;> simp <;> omega
    rw [this]
theorem upW_yes {C : Int} {l : List (Int × Int)} {k : Nat} (hk : k < l.length) (h : wo C l k = true) : (mixS l zc (upW C l k)).set k (0, 0) = mixS l zc (upW C l (k + 1)) := mixS_set (v := zc) hk fun x _ => by
  unfold upW
  by_cases e : x = k
  · subst e; rw [h]; simp
  · have : decide (x < k + 1) = decide (x < k) := by by_cases h1 : x < k <;> simp <;> omega
    rw [this]
    have : (x == k) = false := by simpa using e
    rw [this, Bool.or_false]
/-- The cells that are done behind the first t groups; and behind j cells of the next one. -/
def dW (c : Nat) (l : List (Int × Int)) (t x : Nat) : Bool := wo (c : Int) l x && ((srtG c l).take t).flatten.contains x
def dWJ (c : Nat) (l : List (Int × Int)) (t j : Nat) (q : List Nat) (x : Nat) : Bool := dW c l t x || (wo (c : Int) l x && (q.take j).contains x)
theorem dW_zero {c : Nat} {l : List (Int × Int)} : mixS l zc (dW c l 0) = l := by
  rw [show mixS l zc (dW c l 0) = mixS l zc (fun _ => false) from mixS_congr fun x _ => by simp [dW]]
  exact mixS_none
theorem dWJ_start {c t : Nat} {l : List (Int × Int)} {q : List Nat} : mixS l zc (dWJ c l t 0 q) = mixS l zc (dW c l t) := mixS_congr fun x _ => by simp [dWJ]
theorem dWJ_yes {c t j : Nat} {l : List (Int × Int)} {q : List Nat} (hj : j < q.length) (hx : q[j] < l.length) (h : wo (c : Int) l q[j] = true) : (mixS l zc (dWJ c l t j q)).set q[j] (0, 0) = mixS l zc (dWJ c l t (j + 1) q) := mixS_set (v := zc) hx fun x _ => by
  unfold dWJ
  rw [List.take_succ_eq_append_getElem hj, List.contains_eq_any_beq, List.contains_eq_any_beq, List.any_append, Bool.or_assoc]
  by_cases e : x = q[j]
  · subst e; rw [h]; simp
  · have : (x == q[j]) = false := by simpa using e
    simp [this]
theorem dWJ_no {c t j : Nat} {l : List (Int × Int)} {q : List Nat} (hj : j < q.length) (h : wo (c : Int) l q[j] = false) : mixS l zc (dWJ c l t (j + 1) q) = mixS l zc (dWJ c l t j q) := mixS_congr fun x _ => by
  unfold dWJ
  rw [List.take_succ_eq_append_getElem hj, List.contains_eq_any_beq, List.contains_eq_any_beq, List.any_append]
  by_cases e : x = q[j]
  · subst e; rw [h]; simp
  · have : (x == q[j]) = false := by simpa using e
    simp [this]
theorem dWJ_all {c t : Nat} {l : List (Int × Int)} (ht : t < (srtG c l).length) : mixS l zc (dWJ c l t ((srtG c l)[t]).length ((srtG c l)[t])) = mixS l zc (dW c l (t + 1)) := mixS_congr fun x _ => by
  unfold dWJ dW
  rw [List.take_length, List.take_succ_eq_append_getElem ht, flatten_snoc, List.contains_eq_any_beq, List.contains_eq_any_beq, List.contains_eq_any_beq, List.any_append, Bool.and_or_distrib_left]
theorem srt_nmb {r c t x : Nat} {l : List (Int × Int)} (hG : Geo r c l.length) (ht : t < (srtG c l).length) (hx : x ∈ (srtG c l)[t]) : nmb (c : Int) l x = (t : Int) := by
  have hA := groups_all hG
  have ht' : t < (GG (c : Int) l).length := by unfold srtG at ht; rwa [List.length_map] at ht
  have e : (srtG c l)[t] = sortN l.length (GG (c : Int) l)[t] := by simp only [srtG, List.getElem_map]
  rw [e, mem_sortN] at hx
  have h := num_is (j := x) _ 0 t hA.apart (List.getElem?_eq_getElem ht')
  rw [Nat.zero_add] at h
  exact h.2 hx.2
theorem wo_in {r c t x : Nat} {l : List (Int × Int)} (hG : Geo r c l.length) (ht : t < (srtG c l).length) (hx : x ∈ (srtG c l)[t]) : wo (c : Int) l x = (cogK l x && decide (gct (c : Int) l t ≤ 1)) := by
  unfold wo gct
  rw [srt_nmb hG ht hx]
theorem dW_skip {r c t : Nat} {l : List (Int × Int)} (hG : Geo r c l.length) (ht : t < (srtG c l).length) (h : ¬ gct (c : Int) l t ≤ 1) : mixS l zc (dW c l (t + 1)) = mixS l zc (dW c l t) := mixS_congr fun x _ => by
  unfold dW
  rw [List.take_succ_eq_append_getElem ht, flatten_snoc, List.contains_eq_any_beq, List.contains_eq_any_beq, List.any_append, Bool.and_or_distrib_left]
  have : (wo (c : Int) l x && ((srtG c l)[t]).any fun y => x == y) = false := by
    rcases Bool.eq_false_or_eq_true (((srtG c l)[t]).any fun y => x == y) with q | q
    · have hm : x ∈ (srtG c l)[t] := by rw [← List.contains_iff_mem, List.contains_eq_any_beq]; exact q
      rw [wo_in hG ht hm, decide_eq_false h, Bool.and_false, Bool.false_and]
    · rw [q, Bool.and_false]
  rw [this, Bool.or_false]
theorem dW_end {r c : Nat} {l : List (Int × Int)} (hG : Geo r c l.length) : mixS l zc (dW c l (srtG c l).length) = woL (c : Int) l := mixS_congr fun x hx => by
  unfold dW
  rw [List.take_length, Bool.eq_iff_iff, Bool.and_eq_true, List.contains_iff_mem]
  refine ⟨fun h => h.1, fun h => ⟨h, ?_⟩⟩
  have hA := groups_all hG
  have hJ : J l x = true := by
    unfold wo at h
    rw [Bool.and_eq_true] at h
    have h7 := h.1
    unfold cogK at h7
    exact cog_J (by simpa using h7)
  obtain ⟨g, hg, hxg⟩ := List.mem_flatten.1 (hA.all x hx hJ)
  exact List.mem_flatten.2 ⟨sortN l.length g, List.mem_map.2 ⟨g, hg, rfl⟩, mem_sortN.2 ⟨hx, hxg⟩⟩
/-- A cell that is not done yet is as it was. -/
theorem dWJ_at {c t j y : Nat} {l : List (Int × Int)} {q : List Nat} (hy : y < l.length) (h1 : y ∉ ((srtG c l).take t).flatten) (h2 : y ∉ q.take j) (hl : y < (mixS l zc (dWJ c l t j q)).length) : (mixS l zc (dWJ c l t j q))[y] = l[y] := by
  rw [mixS_at hl]
  have : dWJ c l t j q y = false := by
    unfold dWJ dW
    have e1 : ((srtG c l).take t).flatten.contains y = false := by simpa using h1
    have e2 : (q.take j).contains y = false := by simpa using h2
    rw [e1, e2]
    simp
  rw [this, List.getD_eq_getElem?_getD, List.getElem?_eq_getElem hy]
  rfl
end Go.Proofs.Ytdpgbgniejlilaa
namespace Go.Proofs.Ytdpgbgniejlilaa
open Go.ChangeShapes Go.WideShapes Go.ChangeAt Go.RowKit Go.Joins Go.Deep
set_option linter.unusedSimpArgs false
set_option linter.unusedVariables false
set_option maxRecDepth 100000
set_option maxHeartbeats 8000000
theorem spec_WithoutCogs_yes (r c : Nat) (b o cap : Nat) (l : List (Int × Int)) (w : World) (hG : Geo r c l.length) (hg : goodB (r : Int) (c : Int) l = true) (hn : l.length ≤ 1048576) (hr : Rd w w.heap.size (some ⟨b, o, none⟩) (flat l)) :
    Calls Try.prog 19 #[.agg #[.int .i64 (r : Int), .int .i64 (c : Int), .slice (some ⟨b, o, none⟩) l.length cap]] w (PostB w (r : Int) (c : Int) (woL (c : Int) l) true) := by
  have hpos := (goodB_parts hg).2.2
  have HG := Lib.hid hg
  have n90 := hG.n90
  have hGl := GG_len c l
  have HS := Lib.hid (gct_sum hg)
  obtain ⟨b', o', e0, hbl, hc⟩ := hr (by rw [flat_length]; omega)
  cases e0
  have hr' : Rd w w.heap.size (some ⟨b, o, none⟩) (flat l) := fun _ => ⟨b, o, rfl, hbl, hc⟩
  have HGs := Lib.hid (fun w' => spec_ggGears r c b o cap l w' hG hg)
  have HGr := Lib.hid (fun w' => spec_ggGroupsN r c (some ⟨b, o, none⟩) cap l w' hG)
  have HNm := Lib.hid (fun k hk hJ => nmb_joins (k := k) hG hk hJ)
  generalize (GG (c : Int) l).length = ng at *
  clear hg hr
  go_enter Try.func19, Try.ntmps19
  obtain ⟨v0, hv0, X0, X1, B0, hz0⟩ := two_boxes w [.int .i64 (r : Int), .int .i64 (c : Int), .slice (some ⟨b, o, none⟩) l.length cap] 30 [.int .i64 0, .int .i64 0, .slice none 0 0] 30; have HV := Lib.hid hv0; have hz : w.heap.size + 1 < v0.heap.size := (by omega); have hy : w.heap.size < v0.heap.size := (by omega); have hb0 := B0.size; clear hv0 hz0; go_wp2_with fail; rewrite [show (w.alloc (.cells ([.int .i64 (r : Int), .int .i64 (c : Int), .slice (some ⟨b, o, none⟩) l.length cap] : List Value).toArray 30)).alloc (.cells ([.int .i64 0, .int .i64 0, .slice none 0 0] : List Value).toArray 30) = v0 from HV.out]; clear HV
  refine (spec_boGood _ _ _ _ l _ hn ((hr'.below B0).mono B0.size)).mono ?_; rintro e w1 ⟨rfl, b1⟩
  rewrite [HG.out]
  replace X0 := X0.below b1 X0.lt; replace X1 := X1.below b1 X1.lt; replace B0 := B0.trans (b1.mono B0.size); have hy := X0.lt; have hz := X1.lt; have hb0 := B0.size; clear b1
  have X0k0 : w1.cell? ⟨w.heap.size, 0, none⟩ = some (.int .i64 (r : Int)) := (X0.cell 0).trans rfl; have X0k1 : w1.cell? ⟨w.heap.size, 1, none⟩ = some (.int .i64 (c : Int)) := (X0.cell 1).trans rfl; have X0k2 : w1.cell? ⟨w.heap.size, 2, none⟩ = some (.slice (some ⟨b, o, none⟩) l.length cap) := (X0.cell 2).trans rfl
  go_upto_region 3 with (fail)
  have hz0 := X0.lt
  have KS := Lib.hid (fun (w' : World) (h : Below w1.heap.size w1 w') => (⟨(h.cell (p := ⟨w.heap.size, 0, none⟩) hz0).trans X0k0, (h.cell (p := ⟨w.heap.size, 1, none⟩) hz0).trans X0k1, (h.cell (p := ⟨w.heap.size, 2, none⟩) hz0).trans X0k2⟩ : w'.cell? ⟨w.heap.size, 0, none⟩ = some (.int .i64 (r : Int)) ∧ w'.cell? ⟨w.heap.size, 1, none⟩ = some (.int .i64 (c : Int)) ∧ w'.cell? ⟨w.heap.size, 2, none⟩ = some (.slice (some ⟨b, o, none⟩) l.length cap)))
  have hr1 := (hr'.below B0).mono B0.size
  clear X0k0 X0k1 X0k2
  go_region_held3 (fun w' => w'.cell? ⟨w.heap.size, 0, none⟩ = some (.int .i64 (r : Int)) ∧ w'.cell? ⟨w.heap.size, 1, none⟩ = some (.int .i64 (c : Int)) ∧ w'.cell? ⟨w.heap.size, 2, none⟩ = some (.slice (some ⟨b, o, none⟩) l.length cap))
    (first | exact KS.out _ (by (repeat' (first | (with_reducible exact Below.refl _ _) | (with_reducible assumption) | (with_reducible refine Below.alloc ?_ ?_ _) | (with_reducible refine Below.setCell ?_ ?_ _) | (with_reducible refine Below.drew ?_) | (with_reducible refine below_drewN ?_ _) | (with_reducible refine Below.trans ?_ (Below.mono (by assumption) ?_)) | go_size))) | fail)
    ((first
      | (go_at_call 34; (with_reducible refine (HGr.out _ ?_).mono ?_); (focus exact (hr1.below (by (repeat' (first | (with_reducible exact Below.refl _ _) | (with_reducible assumption) | (with_reducible refine Below.alloc ?_ ?_ _) | (with_reducible refine Below.setCell ?_ ?_ _) | (with_reducible refine Below.drew ?_) | (with_reducible refine below_drewN ?_ _) | (with_reducible refine Below.trans ?_ (Below.mono (by assumption) ?_)) | go_size)))).mono (by (repeat' (first | (with_reducible exact Below.refl _ _) | (with_reducible assumption) | (with_reducible refine Below.alloc ?_ ?_ _) | (with_reducible refine Below.setCell ?_ ?_ _) | (with_reducible refine Below.drew ?_) | (with_reducible refine below_drewN ?_ _) | (with_reducible refine Below.trans ?_ (Below.mono (by assumption) ?_)) | go_size)) : Below w1.heap.size w1 _).size); rintro e w3 ⟨A3, c3, rfl, o3, n3, b3⟩; have bb3 : Below w1.heap.size w1 w3 := (by (repeat' (first | (with_reducible exact Below.refl _ _) | (with_reducible assumption) | (with_reducible refine Below.alloc ?_ ?_ _) | (with_reducible refine Below.setCell ?_ ?_ _) | (with_reducible refine Below.drew ?_) | (with_reducible refine below_drewN ?_ _) | (with_reducible refine Below.trans ?_ (Below.mono (by assumption) ?_)) | go_size))); have s3 : w1.heap.size ≤ w3.heap.size := bb3.size)
      | (go_at_call 43; (with_reducible refine (HGs.out _ ?_).mono ?_); (focus exact (hr1.below (by (repeat' (first | (with_reducible exact Below.refl _ _) | (with_reducible assumption) | (with_reducible refine Below.alloc ?_ ?_ _) | (with_reducible refine Below.setCell ?_ ?_ _) | (with_reducible refine Below.drew ?_) | (with_reducible refine below_drewN ?_ _) | (with_reducible refine Below.trans ?_ (Below.mono (by assumption) ?_)) | go_size)))).mono (by (repeat' (first | (with_reducible exact Below.refl _ _) | (with_reducible assumption) | (with_reducible refine Below.alloc ?_ ?_ _) | (with_reducible refine Below.setCell ?_ ?_ _) | (with_reducible refine Below.drew ?_) | (with_reducible refine below_drewN ?_ _) | (with_reducible refine Below.trans ?_ (Below.mono (by assumption) ?_)) | go_size)) : Below w1.heap.size w1 _).size); rintro e w4 ⟨P, rfl, hP, hR, b4⟩; have bb4 : Below w1.heap.size w1 w4 := (by (repeat' (first | (with_reducible exact Below.refl _ _) | (with_reducible assumption) | (with_reducible refine Below.alloc ?_ ?_ _) | (with_reducible refine Below.setCell ?_ ?_ _) | (with_reducible refine Below.drew ?_) | (with_reducible refine below_drewN ?_ _) | (with_reducible refine Below.trans ?_ (Below.mono (by assumption) ?_)) | go_size))))
      | fail))
  have hn3 : ∀ a, A3 = some a → w.heap.size + 1 < a.block := fun a ha => by have h1 := n3 a ha; have h2 : w1.drew.heap.size = w1.heap.size := rfl; omega
  obtain ⟨g3, rest3, rfl, X3⟩ := o3 (by rw [ints_length, numL_len]; exact hpos)
  have h3 : w.heap.size + 1 < g3 := hn3 _ rfl
  have hg3P : g3 < P := by have := X3.lt; omega
  replace X3 := X3.below b4 X3.lt
  have hPl := hR.lt
  have hl3 := X3.lt
  clear KS b3 bb3 b4 o3 n3 hn3 hP s3 HGr HGs hz0 hr1
  replace X0 := X0.below bb4 X0.lt; replace X1 := X1.below bb4 X1.lt; replace B0 := B0.trans (bb4.mono B0.size); have hy := X0.lt; have hz := X1.lt; have hb0 := B0.size; clear bb4
  have X0k0 : w4.cell? ⟨w.heap.size, 0, none⟩ = some (.int .i64 (r : Int)) := (X0.cell 0).trans rfl; have X0k1 : w4.cell? ⟨w.heap.size, 1, none⟩ = some (.int .i64 (c : Int)) := (X0.cell 1).trans rfl; have X0k2 : w4.cell? ⟨w.heap.size, 2, none⟩ = some (.slice (some ⟨b, o, none⟩) l.length cap) := (X0.cell 2).trans rfl
  go_wp2_with fail
  refine (spec_boOwn _ _ b o cap l _ hpos (by omega) ((hr'.below B0).mono B0.size)).mono ?_
  rintro e w6 ⟨A5, c5, rfl, o5, n5, b6⟩
  clear X0k0 X0k1 X0k2
  have n5' : ∀ a, A5 = some a → w4.heap.size ≤ a.block := n5
  clear n5
  replace X3 := X3.below b6 X3.lt
  replace hR := hR.keep b6
  replace X0 := X0.below b6 X0.lt; replace X1 := X1.below b6 X1.lt; replace B0 := B0.trans (b6.mono B0.size); have hy := X0.lt; have hz := X1.lt; have hb0 := B0.size; clear b6
  go_upto_region 5 with (fail)
  obtain ⟨w7, hw7⟩ : ∃ v, v = w6.alloc (.cells #[.int .i64 (r : Int), .int .i64 (c : Int), .slice A5 l.length c5] 30) := ⟨_, rfl⟩
  have X5 : Whole w7 w6.heap.size 30 [.int .i64 (r : Int), .int .i64 (c : Int), .slice A5 l.length c5] := by rw [hw7]; exact heap_alloc_new w6 _
  have b7 : Below w6.heap.size w6 w7 := by rw [hw7]; exact (Below.refl _ _).alloc (Nat.le_refl _) _
  rewrite [← hw7]
  clear hw7
  obtain ⟨g5, rest5, rfl, X7⟩ := o5 (by rw [flat_length]; omega)
  have h5 : w4.heap.size ≤ g5 := n5' _ rfl
  have h5' : g5 < w6.heap.size := X7.lt
  replace X7 := X7.below b7 X7.lt
  replace X3 := X3.below b7 X3.lt
  replace hR := hR.keep b7
  replace X0 := X0.below b7 X0.lt; replace X1 := X1.below b7 X1.lt; replace B0 := B0.trans (b7.mono B0.size); have hy := X0.lt; have hz := X1.lt; have hb0 := B0.size; clear b7
  clear o5 n5'
  rw [← upW_zero (C := (c : Int)) (l := l)] at X7
  generalize w6.heap.size = G5 at *
  generalize w4.heap.size = G4 at *
  have X0k0 : w7.cell? ⟨w.heap.size, 0, none⟩ = some (.int .i64 (r : Int)) := (X0.cell 0).trans rfl; have X0k1 : w7.cell? ⟨w.heap.size, 1, none⟩ = some (.int .i64 (c : Int)) := (X0.cell 1).trans rfl; have X0k2 : w7.cell? ⟨w.heap.size, 2, none⟩ = some (.slice (some ⟨b, o, none⟩) l.length cap) := (X0.cell 2).trans rfl
  go_wp2_with fail
  clear X0k0 X0k1 X0k2
  go_loopw [22] (fun t wr => ∃ k : Nat, t = .int .i64 k ∧ k ≤ l.length ∧ Whole wr (w.heap.size + 1) 30 [.int .i64 0, .int .i64 0, .slice none 0 0] ∧ Whole wr G5 30 [.int .i64 (r : Int), .int .i64 (c : Int), .slice (some ⟨g5, 0, none⟩) l.length c5] ∧ Whole wr g3 3 (ints (numL c l) ++ rest3) ∧ Whole wr g5 34 (flat (mixS l zc (upW (c : Int) l k)) ++ rest5) ∧ GRow wr P ng (gpr (c : Int) l l.length) ∧ Below w.heap.size w wr) (fun t _ => l.length - (intOf t).toNat)
  case atStart => exact ⟨0, rfl, Nat.zero_le _, X1, X5, X3, X7, hR, B0⟩
  case round =>
    clear X0 X1 X5 X3 X7 hR B0
    obtain ⟨k, rfl, hk, X1, X5, X3, X7, hR, hb⟩ := hrel
    by_cases hlt : k < l.length
    · obtain ⟨hc0, hc1⟩ := cell_at2 hb hbl hc hlt
      have hget : l.getD k (0, 0) = l[k] := by rw [List.getD_eq_getElem?_getD, List.getElem?_eq_getElem hlt]; rfl
      have hs := hb.size
      go_upto_region 8 with (fail)
      obtain ⟨w9, hw9⟩ : ∃ v, v = wr.alloc (.cells #[.int .i64 l[k].1, .int .i64 l[k].2] 34) := ⟨_, rfl⟩
      have X9 : Whole w9 wr.heap.size 34 [.int .i64 l[k].1, .int .i64 l[k].2] := by rw [hw9]; exact heap_alloc_new wr _
      have b9 : Below wr.heap.size wr w9 := by rw [hw9]; exact (Below.refl _ _).alloc (Nat.le_refl _) _
      rewrite [← hw9]
      clear hw9
      replace X1 := X1.below b9 X1.lt
      replace X5 := X5.below b9 X5.lt
      replace X3 := X3.below b9 X3.lt
      replace X7 := X7.below b9 X7.lt
      replace hR := hR.keep b9
      replace hb := hb.trans (b9.mono hs)
      clear b9 hs hc0 hc1
      generalize wr.heap.size = gx at *
      have e0 : w9.cell? ⟨gx, 0, none⟩ = some (.int .i64 l[k].1) := (X9.cell 0).trans rfl
      have e1 : w9.cell? ⟨gx, 1, none⟩ = some (.int .i64 l[k].2) := (X9.cell 1).trans rfl
      clear X9
      by_cases h77 : l[k].1 = 7
      · have hk7 : (l.getD k (0, 0)).1 = 7 := by rw [hget]; exact h77
        have hck : cogK l k = true := by unfold cogK; rw [hk7]; rfl
        obtain ⟨m, hm, hmn⟩ := HNm.out k hlt (cog_J hk7)
        have HW := Lib.hid (wo_cog hck hm)
        have hc3 : w9.cell? ⟨g3, k, none⟩ = some (.int .i64 (m : Int)) := by rw [← hm]; exact (X3.cell k).trans ((List.getElem?_append_left (by rw [ints_length, numL_len]; exact hlt)).trans (numL_at hlt))
        obtain ⟨q1, q2, q3⟩ := hR.pair hmn
        have hmn' : (m : Int) < (ng : Int) := by omega
        have hm0 : (0 : Int) ≤ (m : Int) := by omega
        have hsm := HS.out m
        have hct := gct_le (c : Int) l m
        have HY := Lib.hid (upW_yes (C := (c : Int)) hlt)
        have HN := Lib.hid (upW_no (C := (c : Int)) (l := l) (k := k))
        have ee : ((gcn (c : Int) l l.length (m : Int) 0 : Nat) : Int) + ((gcn (c : Int) l l.length (m : Int) 1 : Nat) : Int) = ((gct (c : Int) l m : Nat) : Int) := by omega
        rw [h77] at e0
        clear h77 hk7 hck hm hget
        generalize gcn (c : Int) l l.length (m : Int) 0 = n0 at *
        generalize gcn (c : Int) l l.length (m : Int) 1 = n1 at *
        have e2 : IntKind.i64.wrap ((n0 : Int) + (n1 : Int)) = ((gct (c : Int) l m : Nat) : Int) := by rw [ee]; exact IntWalk.i64_in _ (by omega)
        generalize l[k].2 = st at *
        generalize gct (c : Int) l m = gc at *
        by_cases h1 : gc ≤ 1
        · have HE := Lib.hid (HY.out (by rw [HW.out, decide_eq_true h1]))
          have h1' : (gc : Int) ≤ 1 := by omega
          have hTl : k < (mixS l zc (upW (c : Int) l k)).length := by rw [mixS_len]; exact hlt
          have HSet := flat_set (mixS l zc (upW (c : Int) l k)) k 0 0 hTl rest5
          rw [HE.out] at HSet
          have HSet' := Lib.hid HSet
          have p0 : ∃ u, w9.cell? ⟨g5, k * 2, none⟩ = some u := ⟨_, by rw [X7.cell, List.getElem?_append_left (by rw [flat_length]; omega)]; exact (flat_at _ k hTl).1⟩
          have p1 : ∃ u, w9.cell? ⟨g5, k * 2 + 1, none⟩ = some u := ⟨_, by rw [X7.cell, List.getElem?_append_left (by rw [flat_length]; omega)]; exact (flat_at _ k hTl).2⟩
          obtain ⟨u0, p0⟩ := p0
          obtain ⟨u1, p1⟩ := p1
          have f0 := X7.frozen (k * 2)
          have f1 := X7.frozen (k * 2 + 1)
          have d5 : w9.cell? ⟨G5, 2, none⟩ = some (.slice (some ⟨g5, 0, none⟩) l.length c5) := (X5.cell 2).trans rfl
          have X1' := X1.two_far (u := .int .i64 0) (u' := .int .i64 0) (j := k * 2) (j' := k * 2 + 1) (show w.heap.size + 1 ≠ g5 by omega)
          have X5' := X5.two_far (u := .int .i64 0) (u' := .int .i64 0) (j := k * 2) (j' := k * 2 + 1) (show G5 ≠ g5 by omega)
          have X3' := X3.two_far (u := .int .i64 0) (u' := .int .i64 0) (j := k * 2) (j' := k * 2 + 1) (show g3 ≠ g5 by omega)
          have X7' := (X7.set (k * 2) (.int .i64 0)).set (k * 2 + 1) (.int .i64 0)
          rw [HSet'.out] at X7'
          have hR' : GRow ((w9.setCell ⟨g5, k * 2, none⟩ (.int .i64 0)).setCell ⟨g5, k * 2 + 1, none⟩ (.int .i64 0)) P ng (gpr (c : Int) l l.length) := ⟨hR.1.two_far (show P ≠ g5 by omega), fun m' hm' => (hR.2 m' hm').two_far (show P + 1 + m' ≠ g5 by omega)⟩
          have hb' := (hb.setCell (p := ⟨g5, k * 2, none⟩) (by show w.heap.size ≤ g5; omega) (.int .i64 0)).setCell (p := ⟨g5, k * 2 + 1, none⟩) (by show w.heap.size ≤ g5; omega) (.int .i64 0)
          have HX := Lib.hid (⟨X1', X5', X3', X7', hR', hb'⟩ : _ ∧ _ ∧ _ ∧ _ ∧ _ ∧ _)
          clear X1' X5' X3' X7' hR' hb' HSet HE HY HN HW hsm hct ee h1 X1 X3 X5 X7 hR
          go_quiet (fail)
          go_wp2
          go_roundw
          case rel =>
            obtain ⟨X1', X5', X3', X7', hR', -⟩ := HX.out
            exact ⟨k + 1, by go_num, by omega, X1', X5', X3', X7', hR', ((below_drewN hb nq).setCell (p := ⟨g5, k * 2, none⟩) (by show w.heap.size ≤ g5; omega) (.int .i64 0)).setCell (p := ⟨g5, k * 2 + 1, none⟩) (by show w.heap.size ≤ g5; omega) (.int .i64 0)⟩
          case measure => simp [intOf]; omega
        · have HE := Lib.hid (HN.out (by rw [HW.out, decide_eq_false h1]))
          have h1' : ¬ (gc : Int) ≤ 1 := by omega
          clear HY HN HW hsm hct ee h1
          go_quiet (fail)
          go_wp2
          go_roundw
          case rel => exact ⟨k + 1, by go_num, by omega, X1, X5, X3, by rw [HE.out]; exact X7, hR, below_drewN hb _⟩
          case measure => simp [intOf]; omega
      · have hck : cogK l k = false := by unfold cogK; rw [hget]; simpa using h77
        have HE := Lib.hid (upW_no (C := (c : Int)) (l := l) (k := k) (by unfold wo; rw [hck, Bool.false_and]))
        clear hck hget HS HNm
        generalize l[k].1 = kd at *
        generalize l[k].2 = st at *
        have h77' : decide (kd = 7) = false := by simpa using h77
        go_quiet (fail)
        go_wp2
        go_roundw
        case rel => exact ⟨k + 1, by go_num, by omega, X1, X5, X3, by rw [HE.out]; exact X7, hR, below_drewN hb _⟩
        case measure => simp [intOf]; omega
    · obtain rfl : k = l.length := by omega
      rw [upW_all] at X7
      have hl := mixS_len l zc (wo (c : Int) l)
      have X5k0 : wr.cell? ⟨G5, 0, none⟩ = some (.int .i64 (r : Int)) := (X5.cell 0).trans rfl; have X5k1 : wr.cell? ⟨G5, 1, none⟩ = some (.int .i64 (c : Int)) := (X5.cell 1).trans rfl; have X5k2 : wr.cell? ⟨G5, 2, none⟩ = some (.slice (some ⟨g5, 0, none⟩) l.length c5) := (X5.cell 2).trans rfl
      have X1k0 : wr.cell? ⟨w.heap.size + 1, 0, none⟩ = some (.int .i64 0) := (X1.cell 0).trans rfl; have X1k1 : wr.cell? ⟨w.heap.size + 1, 1, none⟩ = some (.int .i64 0) := (X1.cell 1).trans rfl; have X1k2 : wr.cell? ⟨w.heap.size + 1, 2, none⟩ = some (.slice none 0 0) := (X1.cell 2).trans rfl
      have X1f0 := X1.frozen 0; have X1f1 := X1.frozen 1; have X1f2 := X1.frozen 2
      have hap : ∀ a, some (⟨g5, 0, none⟩ : Addr) = some a → w.heap.size + 1 ≠ a.block := fun a ha => by cases ha; show w.heap.size + 1 ≠ g5; omega
      have hnw : New w (some ⟨g5, 0, none⟩) := fun a ha => by cases ha; show w.heap.size ≤ g5; omega
      have ho : Own wr (some ⟨g5, 0, none⟩) 34 (flat (woL (c : Int) l)) := fun _ => ⟨g5, rest5, rfl, X7⟩
      have hl' : (woL (c : Int) l).length = l.length := hl
      go_wp2
      refine bodyPost_ret (v := .tuple #[.agg #[.int .i64 (r : Int), .int .i64 (c : Int), .slice (some ⟨g5, 0, none⟩) l.length c5], .bool true]) ?_ rfl ?_; (focus (simp [results, Try.results19, go_sem, *]; done))
      rw [← hl']
      exact PostB.mk (((ho.set_far _ _ hap).set_far _ _ hap).set_far _ _ hap) hnw (by (repeat' (first | (with_reducible exact Below.refl _ _) | (with_reducible assumption) | (with_reducible refine Below.alloc ?_ ?_ _) | (with_reducible refine Below.setCell ?_ ?_ _) | (with_reducible refine Below.drew ?_) | (with_reducible refine below_drewN ?_ _) | (with_reducible refine Below.trans ?_ (Below.mono (by assumption) ?_)) | (with_reducible exact Nat.le_refl _) | (simp; done) | omega | (simp at *; omega))))
end Go.Proofs.Ytdpgbgniejlilaa
namespace Go.Proofs.Ytdpgbgniejlilaa
open Go.ChangeShapes Go.WideShapes Go.ChangeAt Go.RowKit Go.Joins Go.Deep
set_option linter.unusedSimpArgs false
set_option linter.unusedVariables false
set_option maxRecDepth 100000
set_option maxHeartbeats 8000000
theorem impl_WithoutCogs_yes (r c : Nat) (A : Option Addr) (cap : Nat) (l : List (Int × Int)) (w : World) (hG : Geo r c l.length) (hg : goodB (r : Int) (c : Int) l = true) (hn : l.length ≤ 1048576) (hr : Rd w w.heap.size A (flat l)) :
    Calls Try.prog 20 #[.agg #[.int .i64 (r : Int), .int .i64 (c : Int), .slice A l.length cap]] w (PostB w (r : Int) (c : Int) (woL (c : Int) l) true) := by
  have hpos := (goodB_parts hg).2.2
  have HG := Lib.hid hg
  have n90 := hG.n90
  obtain ⟨b, o, rfl, hbl, hc⟩ := hr (by rw [flat_length]; omega)
  have hr' : Rd w w.heap.size (some ⟨b, o, none⟩) (flat l) := fun _ => ⟨b, o, rfl, hbl, hc⟩
  have hLn := srtG_len c l
  have HCell := Lib.hid (srtG_cell c l)
  have HLt := Lib.hid (srtG_lt c l)
  have HT := Lib.hid (fun t ht => gct_srt hG (t := t) ht)
  have HNew := Lib.hid (fun t j => srtG_new (t := t) (j := j) hG)
  have HSk := Lib.hid (fun t ht => dW_skip (t := t) hG ht)
  have HAll := Lib.hid (fun t ht => dWJ_all (c := c) (l := l) (t := t) ht)
  have HIn := Lib.hid (fun t x ht hx => wo_in (t := t) (x := x) hG ht hx)
  have HEnd := Lib.hid (dW_end (c := c) hG)
  clear hg hr
  go_enter Try.func20, Try.ntmps20
  obtain ⟨v0, hv0, X0, X1, B0, hz0⟩ := two_boxes w [.int .i64 (r : Int), .int .i64 (c : Int), .slice (some ⟨b, o, none⟩) l.length cap] 30 [.int .i64 0, .int .i64 0, .slice none 0 0] 30; have HV := Lib.hid hv0; have hz : w.heap.size + 1 < v0.heap.size := (by omega); have hy : w.heap.size < v0.heap.size := (by omega); have hb0 := B0.size; clear hv0 hz0; go_wp2_with fail; rewrite [show (w.alloc (.cells ([.int .i64 (r : Int), .int .i64 (c : Int), .slice (some ⟨b, o, none⟩) l.length cap] : List Value).toArray 30)).alloc (.cells ([.int .i64 0, .int .i64 0, .slice none 0 0] : List Value).toArray 30) = v0 from HV.out]; clear HV
  refine (impl_IsBoard _ _ _ _ l _ hn ((hr'.below B0).mono B0.size)).mono ?_; rintro e w1 ⟨rfl, b1⟩
  rewrite [HG.out]
  replace X0 := X0.below b1 X0.lt; replace X1 := X1.below b1 X1.lt; replace B0 := B0.trans (b1.mono B0.size); have hy := X0.lt; have hz := X1.lt; have hb0 := B0.size; clear b1
  have X0k0 : w1.cell? ⟨w.heap.size, 0, none⟩ = some (.int .i64 (r : Int)) := (X0.cell 0).trans rfl; have X0k1 : w1.cell? ⟨w.heap.size, 1, none⟩ = some (.int .i64 (c : Int)) := (X0.cell 1).trans rfl; have X0k2 : w1.cell? ⟨w.heap.size, 2, none⟩ = some (.slice (some ⟨b, o, none⟩) l.length cap) := (X0.cell 2).trans rfl
  go_wp2_with fail
  refine (impl_cloneBoard (r : Int) (c : Int) b o cap l _ hn ((hr'.below B0).mono B0.size)).mono ?_
  rintro e w2 ⟨A5, c5, rfl, o5, n5, b2⟩
  clear X0k0 X0k1 X0k2
  obtain ⟨g5, rest5, rfl, X7⟩ := o5 (by rw [flat_length]; omega)
  have h5 : w.heap.size + 1 < g5 := Nat.lt_of_lt_of_le hz (n5 _ rfl)
  clear n5 o5
  replace X0 := X0.below b2 X0.lt; replace X1 := X1.below b2 X1.lt; replace B0 := B0.trans (b2.mono B0.size); have hy := X0.lt; have hz := X1.lt; have hb0 := B0.size; clear b2
  go_upto_region 4 with (fail)
  obtain ⟨v4, hv4⟩ : ∃ v4, v4 = w2.alloc (.cells #[.int .i64 (r : Int), .int .i64 (c : Int), .slice (some ⟨g5, 0, none⟩) l.length c5] 30) := ⟨_, rfl⟩
  have X8 : Whole v4 w2.heap.size 30 [.int .i64 (r : Int), .int .i64 (c : Int), .slice (some ⟨g5, 0, none⟩) l.length c5] := by rw [hv4]; exact heap_alloc_new _ _
  have b4 : Below w2.heap.size w2 v4 := by rw [hv4]; exact (Below.refl _ _).alloc (Nat.le_refl _) _
  rewrite [← hv4]
  clear hv4
  have h8w : w.heap.size + 1 < w2.heap.size := hz
  have h58 : g5 < w2.heap.size := X7.lt
  replace X7 := X7.below b4 X7.lt
  replace X0 := X0.below b4 X0.lt; replace X1 := X1.below b4 X1.lt; replace B0 := B0.trans (b4.mono B0.size); have hy := X0.lt; have hz := X1.lt; have hb0 := B0.size; clear b4
  have h8l := X8.lt
  generalize w2.heap.size = g8 at *
  have h58n : g8 ≠ g5 := by omega
  have X0k0 : v4.cell? ⟨w.heap.size, 0, none⟩ = some (.int .i64 (r : Int)) := (X0.cell 0).trans rfl; have X0k1 : v4.cell? ⟨w.heap.size, 1, none⟩ = some (.int .i64 (c : Int)) := (X0.cell 1).trans rfl; have X0k2 : v4.cell? ⟨w.heap.size, 2, none⟩ = some (.slice (some ⟨b, o, none⟩) l.length cap) := (X0.cell 2).trans rfl
  go_wp2_with fail
  refine (impl_groupsOf r c _ cap l _ hG ((hr'.below B0).mono B0.size)).mono ?_
  rintro e w3 ⟨v, rfl, hL0, b3⟩
  have hL : LRow w3 v4.heap.size v (srtG c l) := hL0
  clear hL0
  have h5' : g5 < v4.heap.size := X7.lt
  have h8' : g8 < v4.heap.size := X8.lt
  replace X7 := X7.below b3 X7.lt
  replace X8 := X8.below b3 X8.lt
  clear X0k0 X0k1 X0k2
  replace X0 := X0.below b3 X0.lt; replace X1 := X1.below b3 X1.lt; replace B0 := B0.trans (b3.mono B0.size); have hy := X0.lt; have hz := X1.lt; have hb0 := B0.size; clear b3
  obtain ⟨A3, c3, rfl⟩ := hL.shape
  rw [← dW_zero (c := c) (l := l)] at X7
  generalize v4.heap.size = base at *
  go_wp2_with fail
  go_loopw [18] (fun t wr => ∃ k : Nat, t = .int .i64 k ∧ k ≤ (srtG c l).length ∧ Whole wr w.heap.size 30 [.int .i64 (r : Int), .int .i64 (c : Int), .slice (some ⟨b, o, none⟩) l.length cap] ∧ Whole wr (w.heap.size + 1) 30 [.int .i64 0, .int .i64 0, .slice none 0 0] ∧ Whole wr g8 30 [.int .i64 (r : Int), .int .i64 (c : Int), .slice (some ⟨g5, 0, none⟩) l.length c5] ∧ Whole wr g5 34 (flat (mixS l zc (dW c l k)) ++ rest5) ∧ LRow wr base (.slice A3 (srtG c l).length c3) (srtG c l) ∧ Below w.heap.size w wr) (fun t _ => (srtG c l).length - (intOf t).toNat)
  case atStart => exact ⟨0, rfl, Nat.zero_le _, X0, X1, X8, X7, hL, B0⟩
  case round =>
    clear X0 X1 X8 X7 hL B0 hy hz hb0
    obtain ⟨k, rfl, hk, X0, X1, X8, X7, hL, hb⟩ := hrel
    by_cases hlt : k < (srtG c l).length
    · obtain ⟨go, cap0, A4, c4, e4, hh, ho4, hb4, hgo⟩ := hL.at_ hlt
      have eA : A3 = some ⟨go, 0, none⟩ := by injection e4
      subst eA
      clear e4
      have hqn := HCell.out k hlt
      have hqx := HLt.out k hlt
      have hs := hb.size
      have X0k0 : wr.cell? ⟨w.heap.size, 0, none⟩ = some (.int .i64 (r : Int)) := (X0.cell 0).trans rfl; have X0k1 : wr.cell? ⟨w.heap.size, 1, none⟩ = some (.int .i64 (c : Int)) := (X0.cell 1).trans rfl; have X0k2 : wr.cell? ⟨w.heap.size, 2, none⟩ = some (.slice (some ⟨b, o, none⟩) l.length cap) := (X0.cell 2).trans rfl
      go_wp2_with fail
      refine (impl_gearsAmongN (r : Int) (c : Int) _ cap l A4 c4 (srtG c l)[k] _ ((hr'.below hb).mono hs) (by omega) hqx ho4.rd).mono ?_
      rintro e w4 ⟨A6, c6, rfl, o6, n6, b4⟩
      clear X0k0 X0k1 X0k2
      replace X0 := X0.below b4 X0.lt
      replace X1 := X1.below b4 X1.lt
      replace X8 := X8.below b4 X8.lt
      replace X7 := X7.below b4 X7.lt
      replace hL := hL.keep b4
      replace ho4 := ho4.keep b4
      replace hb := hb.trans (b4.mono hs)
      clear b4 hh hgo n6 hs o6
      rewrite [HT.out k hlt]
      have HSk' := Lib.hid (HSk.out k hlt)
      have HAll' := Lib.hid (HAll.out k hlt)
      have HIn' := Lib.hid (fun x hx => HIn.out k x hlt hx)
      have HNew' := Lib.hid (fun j hj => HNew.out k j hlt hj)
      generalize gct (c : Int) l k = gc at *
      by_cases h1 : gc ≤ 1
      · have h1' : ¬ (1 : Int) < (gc : Int) := by omega
        rw [← dWJ_start (q := (srtG c l)[k])] at X7
        clear HSk'
        go_wp2_with fail
        go_loopw [29] (fun t wr => ∃ j : Nat, t = .int .i64 j ∧ j ≤ (srtG c l)[k].length ∧ Whole wr w.heap.size 30 [.int .i64 (r : Int), .int .i64 (c : Int), .slice (some ⟨b, o, none⟩) l.length cap] ∧ Whole wr (w.heap.size + 1) 30 [.int .i64 0, .int .i64 0, .slice none 0 0] ∧ Whole wr g8 30 [.int .i64 (r : Int), .int .i64 (c : Int), .slice (some ⟨g5, 0, none⟩) l.length c5] ∧ Whole wr g5 34 (flat (mixS l zc (dWJ c l k j (srtG c l)[k])) ++ rest5) ∧ Own wr A4 3 (ints (nI (srtG c l)[k])) ∧ LRow wr base (.slice (some ⟨go, 0, none⟩) (srtG c l).length c3) (srtG c l) ∧ Below w.heap.size w wr) (fun t _ => (srtG c l)[k].length - (intOf t).toNat)
        case atStart => exact ⟨0, rfl, Nat.zero_le _, X0, X1, X8, X7, ho4, hL, hb⟩
        case round =>
          clear X0 X1 X8 X7 hL hb ho4
          obtain ⟨j, rfl, hj, X0, X1, X8, X7, ho4, hL, hb⟩ := hrel
          by_cases hjl : j < (srtG c l)[k].length
          · obtain ⟨hyl, hyv, hyq⟩ := HNew'.out j hjl
            obtain ⟨g4, rest4, rfl, X4⟩ := ho4 (by rw [ints_length, nI_length]; omega)
            have h4 : base ≤ g4 := hb4 _ rfl
            have hcj := row_num X4 hjl
            have hTl : (srtG c l)[k][j] < (mixS l zc (dWJ c l k j (srtG c l)[k])).length := by rw [mixS_len]; exact hyl
            have hT := dWJ_at hyl hyv hyq hTl
            have hmem : (srtG c l)[k][j] ∈ (srtG c l)[k] := List.getElem_mem hjl
            have HW := Lib.hid (HIn'.out _ hmem)
            have HY := Lib.hid (dWJ_yes (c := c) (t := k) hjl hyl)
            have HN := Lib.hid (dWJ_no (c := c) (l := l) (t := k) hjl)
            have hget : l.getD (srtG c l)[k][j] (0, 0) = l[(srtG c l)[k][j]] := by rw [List.getD_eq_getElem?_getD, List.getElem?_eq_getElem hyl]; rfl
            have HSet := Lib.hid (flat_set (mixS l zc (dWJ c l k j (srtG c l)[k])) (srtG c l)[k][j] 0 0 hTl rest5)
            have q0 : wr.cell? ⟨g5, (srtG c l)[k][j] * 2, none⟩ = some (.int .i64 l[(srtG c l)[k][j]].1) := by rw [X7.cell, List.getElem?_append_left (by rw [flat_length]; omega), (flat_at _ _ hTl).1, hT]
            have q1 : wr.cell? ⟨g5, (srtG c l)[k][j] * 2 + 1, none⟩ = some (.int .i64 l[(srtG c l)[k][j]].2) := by rw [X7.cell, List.getElem?_append_left (by rw [flat_length]; omega), (flat_at _ _ hTl).2, hT]
            obtain ⟨hd0, hd1⟩ := cell_at2 hb hbl hc hyl
            have k2 : wr.cell? ⟨w.heap.size, 2, none⟩ = some (.slice (some ⟨b, o, none⟩) l.length cap) := (X0.cell 2).trans rfl
            have k82 : wr.cell? ⟨g8, 2, none⟩ = some (.slice (some ⟨g5, 0, none⟩) l.length c5) := (X8.cell 2).trans rfl
            have hck : cogK l (srtG c l)[k][j] = decide (l[(srtG c l)[k][j]].1 = 7) := by unfold cogK; rw [hget]
            have HCk := Lib.hid hck
            clear hT hmem hget hck HIn' HNew' HAll' hyv hyq hqx
            generalize l[(srtG c l)[k][j]].2 = st at *
            generalize l[(srtG c l)[k][j]].1 = kd at *
            generalize hyy : (srtG c l)[k][j] = y at *
            by_cases h7 : kd = 7
            · subst h7
              have HE := HY.out (by rw [HW.out, HCk.out, decide_eq_true h1]; rfl)
              have f0 := X7.frozen (y * 2)
              have f1 := X7.frozen (y * 2 + 1)
              have X0' := X0.two_far (u := .int .i64 0) (u' := .int .i64 0) (j := y * 2) (j' := y * 2 + 1) (show w.heap.size ≠ g5 by omega)
              have X1' := X1.two_far (u := .int .i64 0) (u' := .int .i64 0) (j := y * 2) (j' := y * 2 + 1) (show w.heap.size + 1 ≠ g5 by omega)
              have X8' := X8.two_far (u := .int .i64 0) (u' := .int .i64 0) (j := y * 2) (j' := y * 2 + 1) (show g8 ≠ g5 by omega)
              have X4' := X4.two_far (u := .int .i64 0) (u' := .int .i64 0) (j := y * 2) (j' := y * 2 + 1) (show g4 ≠ g5 by omega)
              have X7' := (X7.set (y * 2) (.int .i64 0)).set (y * 2 + 1) (.int .i64 0)
              rw [HSet.out, HE] at X7'
              have hL' := hL.setTwo (j := y * 2) (j' := y * 2 + 1) (u := .int .i64 0) (u' := .int .i64 0) h5'
              have hb' := (hb.setCell (p := ⟨g5, y * 2, none⟩) (by show w.heap.size ≤ g5; omega) (.int .i64 0)).setCell (p := ⟨g5, y * 2 + 1, none⟩) (by show w.heap.size ≤ g5; omega) (.int .i64 0)
              have HX := Lib.hid (⟨X0', X1', X8', X7', X4', hL', hb'⟩ : _ ∧ _ ∧ _ ∧ _ ∧ _ ∧ _ ∧ _)
              clear X0' X1' X8' X7' X4' hL' hb' HE HY HN HW HCk HSet X0 X1 X8 X7 X4 hL hb
              go_wp2_with fail
              obtain ⟨X0', X1', X8', X7', X4', hL', hb'⟩ := HX.out
              go_roundw
              case rel => exact ⟨j + 1, by go_num, by omega, X0', X1', X8', X7', fun _ => ⟨g4, rest4, rfl, X4'⟩, hL', hb'⟩
              case measure => simp [intOf]; omega
            · have HE := Lib.hid (HN.out (by rw [HW.out, HCk.out, decide_eq_false h7, Bool.false_and]))
              clear HY HN HW HCk HSet
              go_wp2
              go_roundw
              case rel => exact ⟨j + 1, by go_num, by omega, X0, X1, X8, by rw [HE.out]; exact X7, fun _ => ⟨g4, rest4, rfl, X4⟩, hL, hb⟩
              case measure => simp [intOf]; omega
          · obtain rfl : j = (srtG c l)[k].length := by omega
            rw [HAll'.out] at X7
            go_wp2
            go_roundw
            case rel => exact ⟨k + 1, by go_num, by omega, X0, X1, X8, X7, hL, hb⟩
            case measure => simp [intOf]; omega
      · have h1' : (1 : Int) < (gc : Int) := by omega
        rw [← HSk'.out h1] at X7
        clear HSk' HAll' HIn' HNew'
        go_wp2
        go_roundw
        case rel => exact ⟨k + 1, by go_num, by omega, X0, X1, X8, X7, hL, hb⟩
        case measure => simp [intOf]; omega
    · obtain rfl : k = (srtG c l).length := by omega
      rw [HEnd.out] at X7
      have hl : (woL (c : Int) l).length = l.length := mixS_len l zc (wo (c : Int) l)
      have X8k0 : wr.cell? ⟨g8, 0, none⟩ = some (.int .i64 (r : Int)) := (X8.cell 0).trans rfl; have X8k1 : wr.cell? ⟨g8, 1, none⟩ = some (.int .i64 (c : Int)) := (X8.cell 1).trans rfl; have X8k2 : wr.cell? ⟨g8, 2, none⟩ = some (.slice (some ⟨g5, 0, none⟩) l.length c5) := (X8.cell 2).trans rfl
      have X1k0 : wr.cell? ⟨w.heap.size + 1, 0, none⟩ = some (.int .i64 0) := (X1.cell 0).trans rfl; have X1k1 : wr.cell? ⟨w.heap.size + 1, 1, none⟩ = some (.int .i64 0) := (X1.cell 1).trans rfl; have X1k2 : wr.cell? ⟨w.heap.size + 1, 2, none⟩ = some (.slice none 0 0) := (X1.cell 2).trans rfl
      have X1f0 := X1.frozen 0; have X1f1 := X1.frozen 1; have X1f2 := X1.frozen 2
      have hap : ∀ a, some (⟨g5, 0, none⟩ : Addr) = some a → w.heap.size + 1 ≠ a.block := fun a ha => by cases ha; show w.heap.size + 1 ≠ g5; omega
      have hnw : New w (some ⟨g5, 0, none⟩) := fun a ha => by cases ha; show w.heap.size ≤ g5; omega
      have ho : Own wr (some ⟨g5, 0, none⟩) 34 (flat (woL (c : Int) l)) := fun _ => ⟨g5, rest5, rfl, X7⟩
      go_wp2
      refine bodyPost_ret (v := .tuple #[.agg #[.int .i64 (r : Int), .int .i64 (c : Int), .slice (some ⟨g5, 0, none⟩) l.length c5], .bool true]) ?_ rfl ?_; (focus (simp [results, Try.results20, go_sem, *]; done))
      rw [← hl]
      exact PostB.mk (((ho.set_far _ _ hap).set_far _ _ hap).set_far _ _ hap) hnw (by (repeat' (first | (with_reducible exact Below.refl _ _) | (with_reducible assumption) | (with_reducible refine Below.alloc ?_ ?_ _) | (with_reducible refine Below.setCell ?_ ?_ _) | (with_reducible refine Below.drew ?_) | (with_reducible refine below_drewN ?_ _) | (with_reducible refine Below.trans ?_ (Below.mono (by assumption) ?_)) | (with_reducible exact Nat.le_refl _) | (simp; done) | omega | (simp at *; omega))))
end Go.Proofs.Ytdpgbgniejlilaa
namespace Go.Proofs.Ytdpgbgniejlilaa
open Go.ChangeShapes Go.WideShapes Go.ChangeAt Go.RowKit Go.Joins Go.Deep
set_option linter.unusedSimpArgs false
set_option linter.unusedVariables false
set_option maxRecDepth 100000
set_option maxHeartbeats 4000000
theorem spec_WithoutCogs_not (R C : Int) (A : Option Addr) (cap : Nat) (l : List (Int × Int)) (w : World) (hh : goodB R C l = false) (hn : l.length ≤ 1048576) (hr : Rd w w.heap.size A (flat l)) :
    Calls Try.prog 19 #[.agg #[.int .i64 R, .int .i64 C, .slice A l.length cap]] w (PostB w 0 0 [] false) := by
  have HH := Lib.hid hh
  clear hh
  go_enter Try.func19, Try.ntmps19
  obtain ⟨v0, hv0, X0, X1, B0, hz0⟩ := two_boxes w [.int .i64 R, .int .i64 C, .slice A l.length cap] 30 [.int .i64 0, .int .i64 0, .slice none 0 0] 30; have HV := Lib.hid hv0; have hz : w.heap.size + 1 < v0.heap.size := (by omega); have hy : w.heap.size < v0.heap.size := (by omega); have hb0 := B0.size; clear hv0 hz0; go_wp2_with fail; rewrite [show (w.alloc (.cells ([.int .i64 R, .int .i64 C, .slice A l.length cap] : List Value).toArray 30)).alloc (.cells ([.int .i64 0, .int .i64 0, .slice none 0 0] : List Value).toArray 30) = v0 from HV.out]; clear HV
  refine (spec_boGood _ _ _ _ l _ hn ((hr.below B0).mono B0.size)).mono ?_; rintro e w1 ⟨rfl, b1⟩
  rewrite [HH.out]
  replace X0 := X0.below b1 X0.lt; replace X1 := X1.below b1 X1.lt; replace B0 := B0.trans (b1.mono B0.size); have hy := X0.lt; have hz := X1.lt; have hb0 := B0.size; clear b1
  (have X1k0 : w1.cell? ⟨w.heap.size + 1, 0, none⟩ = some (.int .i64 0) := (X1.cell 0).trans rfl; have X1k1 : w1.cell? ⟨w.heap.size + 1, 1, none⟩ = some (.int .i64 0) := (X1.cell 1).trans rfl; have X1k2 : w1.cell? ⟨w.heap.size + 1, 2, none⟩ = some (.slice none 0 0) := (X1.cell 2).trans rfl; have X1f0 := X1.frozen 0; have X1f1 := X1.frozen 1; have X1f2 := X1.frozen 2)
  go_wp2
  refine bodyPost_ret (v := .tuple #[.agg #[.int .i64 0, .int .i64 0, .slice none 0 0], .bool false]) ?_ rfl ?_; (focus (simp [results, Try.results19, go_sem, *]; done))
  exact PostB.none_ (by (repeat' (first | (with_reducible exact Below.refl _ _) | (with_reducible assumption) | (with_reducible refine Below.alloc ?_ ?_ _) | (with_reducible refine Below.setCell ?_ ?_ _) | (with_reducible refine Below.drew ?_) | (with_reducible refine below_drewN ?_ _) | (with_reducible refine Below.trans ?_ (Below.mono (by assumption) ?_)) | (with_reducible exact Nat.le_refl _) | (simp; done) | omega | (simp at *; omega))))
theorem spec_WithoutCogs (R C : Int) (A : Option Addr) (cap : Nat) (l : List (Int × Int)) (w : World) (hn : l.length ≤ 1048576) (hr : Rd w w.heap.size A (flat l)) :
    Calls Try.prog 19 #[.agg #[.int .i64 R, .int .i64 C, .slice A l.length cap]] w (PostB w (selI (goodB R C l) R) (selI (goodB R C l) C) (woB R C l) (goodB R C l)) := by
  rcases Bool.eq_false_or_eq_true (goodB R C l) with hg | hg
  · have hpos := (goodB_parts hg).2.2
    obtain ⟨r, c, rfl, rfl, hG⟩ := geo_of hg
    obtain ⟨b, o, rfl, _, _⟩ := hr (by rw [flat_length]; omega)
    exact (spec_WithoutCogs_yes r c b o cap l w hG hg hn hr).mono fun e w' h => woB_post (ok := true) hg h
  · exact (spec_WithoutCogs_not R C A cap l w hg hn hr).mono fun e w' h => woB_post (ok := false) hg h
theorem impl_WithoutCogs_not (R C : Int) (A : Option Addr) (cap : Nat) (l : List (Int × Int)) (w : World) (hh : goodB R C l = false) (hn : l.length ≤ 1048576) (hr : Rd w w.heap.size A (flat l)) :
    Calls Try.prog 20 #[.agg #[.int .i64 R, .int .i64 C, .slice A l.length cap]] w (PostB w 0 0 [] false) := by
  have HH := Lib.hid hh
  clear hh
  go_enter Try.func20, Try.ntmps20
  obtain ⟨v0, hv0, X0, X1, B0, hz0⟩ := two_boxes w [.int .i64 R, .int .i64 C, .slice A l.length cap] 30 [.int .i64 0, .int .i64 0, .slice none 0 0] 30; have HV := Lib.hid hv0; have hz : w.heap.size + 1 < v0.heap.size := (by omega); have hy : w.heap.size < v0.heap.size := (by omega); have hb0 := B0.size; clear hv0 hz0; go_wp2_with fail; rewrite [show (w.alloc (.cells ([.int .i64 R, .int .i64 C, .slice A l.length cap] : List Value).toArray 30)).alloc (.cells ([.int .i64 0, .int .i64 0, .slice none 0 0] : List Value).toArray 30) = v0 from HV.out]; clear HV
  refine (impl_IsBoard _ _ _ _ l _ hn ((hr.below B0).mono B0.size)).mono ?_; rintro e w1 ⟨rfl, b1⟩
  rewrite [HH.out]
  replace X0 := X0.below b1 X0.lt; replace X1 := X1.below b1 X1.lt; replace B0 := B0.trans (b1.mono B0.size); have hy := X0.lt; have hz := X1.lt; have hb0 := B0.size; clear b1
  (have X1k0 : w1.cell? ⟨w.heap.size + 1, 0, none⟩ = some (.int .i64 0) := (X1.cell 0).trans rfl; have X1k1 : w1.cell? ⟨w.heap.size + 1, 1, none⟩ = some (.int .i64 0) := (X1.cell 1).trans rfl; have X1k2 : w1.cell? ⟨w.heap.size + 1, 2, none⟩ = some (.slice none 0 0) := (X1.cell 2).trans rfl; have X1f0 := X1.frozen 0; have X1f1 := X1.frozen 1; have X1f2 := X1.frozen 2)
  go_wp2
  refine bodyPost_ret (v := .tuple #[.agg #[.int .i64 0, .int .i64 0, .slice none 0 0], .bool false]) ?_ rfl ?_; (focus (simp [results, Try.results20, go_sem, *]; done))
  exact PostB.none_ (by (repeat' (first | (with_reducible exact Below.refl _ _) | (with_reducible assumption) | (with_reducible refine Below.alloc ?_ ?_ _) | (with_reducible refine Below.setCell ?_ ?_ _) | (with_reducible refine Below.drew ?_) | (with_reducible refine below_drewN ?_ _) | (with_reducible refine Below.trans ?_ (Below.mono (by assumption) ?_)) | (with_reducible exact Nat.le_refl _) | (simp; done) | omega | (simp at *; omega))))
theorem impl_WithoutCogs (R C : Int) (A : Option Addr) (cap : Nat) (l : List (Int × Int)) (w : World) (hn : l.length ≤ 1048576) (hr : Rd w w.heap.size A (flat l)) :
    Calls Try.prog 20 #[.agg #[.int .i64 R, .int .i64 C, .slice A l.length cap]] w (PostB w (selI (goodB R C l) R) (selI (goodB R C l) C) (woB R C l) (goodB R C l)) := by
  rcases Bool.eq_false_or_eq_true (goodB R C l) with hg | hg
  · have hpos := (goodB_parts hg).2.2
    obtain ⟨r, c, rfl, rfl, hG⟩ := geo_of hg
    skip
    exact (impl_WithoutCogs_yes r c A cap l w hG hg hn hr).mono fun e w' h => woB_post (ok := true) hg h
  · exact (impl_WithoutCogs_not R C A cap l w hg hn hr).mono fun e w' h => woB_post (ok := false) hg h
end Go.Proofs.Ytdpgbgniejlilaa
