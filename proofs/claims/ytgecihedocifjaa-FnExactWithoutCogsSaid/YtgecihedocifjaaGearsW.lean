/- The model's counted gears, walked. -/
import Derived.Test.YtgecihedocifjaaGears
namespace Go.Proofs.Ytgecihedocifjaa
open Go.ChangeShapes Go.WideShapes Go.ChangeAt Go.RowKit Go.Joins Go.Deep
set_option linter.unusedSimpArgs false
set_option linter.unusedVariables false
set_option maxRecDepth 100000
set_option maxHeartbeats 8000000
theorem spec_ggGears (r c b o cap : Nat) (l : List (Int × Int)) (w : World) (hG : Geo r c l.length) (hg : goodB (r : Int) (c : Int) l = true) (hr : Rd w w.heap.size (some ⟨b, o, none⟩) (flat l)) :
    Calls Try.prog 74 #[.agg #[.int .i64 (r : Int), .int .i64 (c : Int), .slice (some ⟨b, o, none⟩) l.length cap]] w fun e w' => ∃ P, e = .returned (.slice (some ⟨P, 0, none⟩) (GG (c : Int) l).length (GG (c : Int) l).length) ∧ w.heap.size ≤ P ∧ GRow w' P (GG (c : Int) l).length (gpr (c : Int) l l.length) ∧ Below w.heap.size w w' := by
  have hpos := (goodB_parts hg).2.2
  have n90 := hG.n90
  have hGl := GG_len c l
  have HSt := Lib.hid (good_state hg)
  obtain ⟨b', o', e0, hbl, hc⟩ := hr (by rw [flat_length]; omega)
  cases e0
  have hr' : Rd w w.heap.size (some ⟨b, o, none⟩) (flat l) := fun _ => ⟨b, o, rfl, hbl, hc⟩
  have hmk := fun w => run_make_lists (GG (c : Int) l).length (by omega) w
  have hmost := most_num hG
  clear hg hr
  go_enter Try.func74, Try.ntmps74
  obtain ⟨v0, hv0⟩ : ∃ v, v = w.alloc (.cells #[.int .i64 (r : Int), .int .i64 (c : Int), .slice (some ⟨b, o, none⟩) l.length cap] 31) := ⟨_, rfl⟩
  have X0 : Whole v0 w.heap.size 31 [.int .i64 (r : Int), .int .i64 (c : Int), .slice (some ⟨b, o, none⟩) l.length cap] := by rw [hv0]; exact heap_alloc_new w _
  have hb : Below w.heap.size w v0 := by rw [hv0]; exact (Below.refl _ _).alloc (Nat.le_refl _) _
  have HV := Lib.hid hv0.symm
  clear hv0
  go_upto_region 1 with (fail)
  rewrite [HV.out]
  clear HV
  have X0k0 : v0.cell? ⟨w.heap.size, 0, none⟩ = some (.int .i64 (r : Int)) := (X0.cell 0).trans rfl; have X0k1 : v0.cell? ⟨w.heap.size, 1, none⟩ = some (.int .i64 (c : Int)) := (X0.cell 1).trans rfl; have X0k2 : v0.cell? ⟨w.heap.size, 2, none⟩ = some (.slice (some ⟨b, o, none⟩) l.length cap) := (X0.cell 2).trans rfl
  go_wp2_with fail
  refine (spec_ggGroupsN r c _ cap l _ hG ((hr'.below hb).mono hb.size)).mono ?_
  rintro e w3 ⟨A3, c3, rfl, o3, n3, b3⟩
  clear X0k0 X0k1 X0k2
  have hz0 := X0.lt
  have n3' : ∀ a, A3 = some a → w.heap.size < a.block := fun a ha => Nat.lt_of_lt_of_le hz0 (n3 a ha)
  clear n3
  replace X0 := X0.below b3 X0.lt
  replace hb := hb.trans (b3.mono hb.size)
  clear b3 hz0
  obtain ⟨g3, rest3, rfl, X3⟩ := o3 (by rw [ints_length, numL_len]; exact hpos)
  have h3 : w.heap.size < g3 := n3' _ rfl
  clear o3 n3'
  have hcnt := spec_ggCount g3 c3 rest3 (numL c l) w3 (by rw [numL_len]; omega) (numL_range n90) X3
  rw [numL_len, hmost] at hcnt
  generalize hng : (GG (c : Int) l).length = ng at *
  go_wp2_with fail
  refine hcnt.mono ?_; rintro e w4 ⟨rfl, rfl⟩
  clear hcnt hmost
  go_upto_region 3 with (fail)
  have X4 : Whole (w4.alloc (.cells (zlist ng).toArray 26)) w4.heap.size 26 (hdrs w4.heap.size ng 0) := heap_alloc_new w4 _
  have bd : Below w4.heap.size w4 (w4.alloc (.cells (zlist ng).toArray 26)) := (Below.refl _ _).alloc (Nat.le_refl _) _
  have hP0 : w.heap.size < w4.heap.size := X0.lt
  have hP3 : g3 < w4.heap.size := X3.lt
  replace X0 := X0.below bd X0.lt
  replace X3 := X3.below bd X3.lt
  replace hb := hb.trans (bd.mono hb.size)
  clear bd
  have hsz : (w4.alloc (.cells (zlist ng).toArray 26)).heap.size = w4.heap.size + 1 := World.size_alloc _ _
  generalize w4.alloc (.cells (zlist ng).toArray 26) = w5 at *
  generalize w4.heap.size = P at *
  clear hmk
  go_wp2_with fail
  go_loopw [15] (fun j wr => ∃ k : Nat, j = .int .i64 k ∧ k ≤ ng ∧ Whole wr w.heap.size 31 [.int .i64 (r : Int), .int .i64 (c : Int), .slice (some ⟨b, o, none⟩) l.length cap] ∧ Whole wr g3 3 (ints (numL c l) ++ rest3) ∧ Whole wr P 26 (hdrs P ng k) ∧ (∀ m, m < k → Whole wr (P + 1 + m) 3 (ints (gpr (c : Int) l 0 m))) ∧ wr.heap.size = P + 1 + k ∧ Below w.heap.size w wr) (fun j _ => ng - (intOf j).toNat)
  case atStart => exact ⟨0, rfl, Nat.zero_le _, X0, X3, X4, fun m hm => absurd hm (Nat.not_lt_zero m), hsz, hb⟩
  case round =>
    clear X0 X3 X4 hsz hb
    obtain ⟨k, rfl, hk, X0, X3, X4, hM, hsz, hb⟩ := hrel
    by_cases hlt : k < ng
    · have hk1 := (X4.cell k).trans (hdrs_no hlt)
      have hk2 := X4.frozen k
      have HS := Lib.hid (hdrs_set (P := P) hlt)
      have bd : Below wr.heap.size wr (wr.alloc (.cells #[.int .i64 0, .int .i64 0] 3)) := (Below.refl _ _).alloc (Nat.le_refl _) _
      have Xn : Whole (wr.alloc (.cells #[.int .i64 0, .int .i64 0] 3)) wr.heap.size 3 (ints (gpr (c : Int) l 0 k)) := heap_alloc_new wr _
      have hb1 := hb.trans (bd.mono hb.size)
      have hl0 := X0.lt
      have hl3 := X3.lt
      have hM1 : ∀ m, m < k → Whole (wr.alloc (.cells #[.int .i64 0, .int .i64 0] 3)) (P + 1 + m) 3 (ints (gpr (c : Int) l 0 m)) := fun m hm => (hM m hm).below bd (hM m hm).lt
      have X41 := X4.below bd X4.lt
      have hk11 := (X41.cell k).trans (hdrs_no hlt)
      have hk12 := X41.frozen k
      have HX := Lib.hid (⟨(X0.below bd X0.lt).set_far ⟨P, k, none⟩ (hdr P k) (show P ≠ w.heap.size by omega), (X3.below bd X3.lt).set_far ⟨P, k, none⟩ (hdr P k) (show P ≠ g3 by omega), X41.set k (hdr P k), fun m (hm : m < k + 1) => (show Whole ((wr.alloc (.cells #[.int .i64 0, .int .i64 0] 3)).setCell ⟨P, k, none⟩ (hdr P k)) (P + 1 + m) 3 (ints (gpr (c : Int) l 0 m)) by
        by_cases q : m < k
        · exact (hM1 m q).set_far _ _ (by show P ≠ P + 1 + m; omega)
        · obtain rfl : m = k := by omega
          rw [← hsz]
          exact Xn.set_far _ _ (by show P ≠ wr.heap.size; omega)), by rw [World.size_setCell, World.size_alloc, hsz]; omega, hb1.setCell (p := ⟨P, k, none⟩) (by show w.heap.size ≤ P; omega) (hdr P k)⟩ : _ ∧ _ ∧ _ ∧ _ ∧ ((wr.alloc (.cells #[.int .i64 0, .int .i64 0] 3)).setCell ⟨P, k, none⟩ (hdr P k)).heap.size = P + 1 + (k + 1) ∧ _)
      clear X0 X3 X4 X41 hM hM1 Xn hb hb1 bd
      go_wp2
      obtain ⟨hX0, hX3, hX4, hM', hsz', hb'⟩ := HX.out
      rw [HS.out] at hX4
      go_roundw
      case rel => exact ⟨k + 1, by go_num, by omega, hX0, hX3, hX4, hM', hsz', hb'⟩
      case measure => simp [intOf]; omega
    · obtain rfl : ng = k := by omega
      rw [hdrs_all] at X4
      have hR : GRow wr P ng (gpr (c : Int) l 0) := ⟨X4, hM⟩
      clear X4 hM hsz hk hlt
      go_wp2_with fail
      go_loopw [25] (fun t wr => ∃ k : Nat, t = .int .i64 k ∧ k ≤ l.length ∧ Whole wr w.heap.size 31 [.int .i64 (r : Int), .int .i64 (c : Int), .slice (some ⟨b, o, none⟩) l.length cap] ∧ Whole wr g3 3 (ints (numL c l) ++ rest3) ∧ GRow wr P ng (gpr (c : Int) l k) ∧ Below w.heap.size w wr) (fun t _ => l.length - (intOf t).toNat)
      case atStart => exact ⟨0, rfl, Nat.zero_le _, X0, X3, hR, hb⟩
      case round =>
        clear X0 X3 hR hb
        obtain ⟨k, rfl, hk, X0, X3, hR, hb⟩ := hrel
        by_cases hlt : k < l.length
        · obtain ⟨hc0, hc1⟩ := cell_at2 hb hbl hc hlt
          have hget : l.getD k (0, 0) = l[k] := by rw [List.getD_eq_getElem?_getD, List.getElem?_eq_getElem hlt]; rfl
          have hc3 : wr.cell? ⟨g3, k, none⟩ = some (.int .i64 (nmb (c : Int) l k)) := (X3.cell k).trans ((List.getElem?_append_left (by rw [ints_length, numL_len]; exact hlt)).trans (numL_at hlt))
          have X0k0 : wr.cell? ⟨w.heap.size, 0, none⟩ = some (.int .i64 (r : Int)) := (X0.cell 0).trans rfl; have X0k1 : wr.cell? ⟨w.heap.size, 1, none⟩ = some (.int .i64 (c : Int)) := (X0.cell 1).trans rfl; have X0k2 : wr.cell? ⟨w.heap.size, 2, none⟩ = some (.slice (some ⟨b, o, none⟩) l.length cap) := (X0.cell 2).trans rfl
          by_cases h66 : l[k].1 = 6
          · have hk6 : (l.getD k (0, 0)).1 = 6 := by rw [hget]; exact h66
            have hgk : gearK l k = true := by unfold gearK; rw [hk6]; rfl
            obtain ⟨m, hm, hmn⟩ := nmb_gear hG hlt hk6
            rw [hng] at hmn
            rw [hm] at hc3
            rw [h66] at hc0
            have hmn' : (m : Int) < (ng : Int) := by omega
            have hm0 : (0 : Int) ≤ (m : Int) := by omega
            clear h66 hk6
            have hs2 := HSt.out k hlt
            rw [← hget] at hc1
            rcases hs2 with hs0 | hs0
            · clear hget
              have hlen := gpr_len (c : Int) l k m
              have q2 := hR.2 m hmn
              have q1 : wr.cell? ⟨P, m, none⟩ = some (.slice (some ⟨P + 1 + m, 0, none⟩) 2 2) := (hR.1.cell m).trans (hdrs_at hmn)
              have q3 : wr.cell? ⟨P + 1 + m, 0, none⟩ = some (.int .i64 ((gcn (c : Int) l k (m : Int) 0 : Nat) : Int)) := (q2.cell 0).trans rfl
              have f3 := q2.frozen 0
              have hle := gcn_le (c : Int) l k (m : Int) 0
              have HR := Lib.hid (hR.set (m := m) (j := 0) (x := ((gcn (c : Int) l k (m : Int) 0 : Nat) : Int) + 1) (g := gpr (c : Int) l (k + 1)) (gpr_0 hgk hm hs0) (fun m' _ hne => gpr_skip (.inr (by omega))))
              have hX0 := X0.set_far ⟨P + 1 + m, 0, none⟩ (.int .i64 (((gcn (c : Int) l k (m : Int) 0 : Nat) : Int) + 1)) (show P + 1 + m ≠ w.heap.size by omega)
              have hX3 := X3.set_far ⟨P + 1 + m, 0, none⟩ (.int .i64 (((gcn (c : Int) l k (m : Int) 0 : Nat) : Int) + 1)) (show P + 1 + m ≠ g3 by omega)
              have hb' := hb.setCell (p := ⟨P + 1 + m, 0, none⟩) (by show w.heap.size ≤ P + 1 + m; omega) (.int .i64 (((gcn (c : Int) l k (m : Int) 0 : Nat) : Int) + 1))
              have HX := Lib.hid (⟨hX0, hX3, HR.out, hb'⟩ : _ ∧ _ ∧ _ ∧ _)
              clear hX0 hX3 HR hb' hR q2 hm hgk hlen X3
              generalize gcn (c : Int) l k (m : Int) 0 = v at *
              have hv1 : IntKind.i64.wrap ((v : Int) + 1) = (v : Int) + 1 := IntWalk.i64_in _ (by omega)
              rw [hs0] at hc1
              clear hs0
              go_upto_region 12 with (fail)
              go_region_law (fail)
              all_goals obtain ⟨hX0, hX3, hR', hb'⟩ := HX.out
              all_goals (clear HX; go_wp2; go_roundw)
              all_goals first
                | exact ⟨k + 1, by go_num, by omega, hX0, hX3, hR', hb'.drew⟩
                | (simp [intOf]; omega)
                | fail
            · clear hget
              have hlen := gpr_len (c : Int) l k m
              have q2 := hR.2 m hmn
              have q1 : wr.cell? ⟨P, m, none⟩ = some (.slice (some ⟨P + 1 + m, 0, none⟩) 2 2) := (hR.1.cell m).trans (hdrs_at hmn)
              have q3 : wr.cell? ⟨P + 1 + m, 1, none⟩ = some (.int .i64 ((gcn (c : Int) l k (m : Int) 1 : Nat) : Int)) := (q2.cell 1).trans rfl
              have f3 := q2.frozen 1
              have hle := gcn_le (c : Int) l k (m : Int) 1
              have HR := Lib.hid (hR.set (m := m) (j := 1) (x := ((gcn (c : Int) l k (m : Int) 1 : Nat) : Int) + 1) (g := gpr (c : Int) l (k + 1)) (gpr_1 hgk hm hs0) (fun m' _ hne => gpr_skip (.inr (by omega))))
              have hX0 := X0.set_far ⟨P + 1 + m, 1, none⟩ (.int .i64 (((gcn (c : Int) l k (m : Int) 1 : Nat) : Int) + 1)) (show P + 1 + m ≠ w.heap.size by omega)
              have hX3 := X3.set_far ⟨P + 1 + m, 1, none⟩ (.int .i64 (((gcn (c : Int) l k (m : Int) 1 : Nat) : Int) + 1)) (show P + 1 + m ≠ g3 by omega)
              have hb' := hb.setCell (p := ⟨P + 1 + m, 1, none⟩) (by show w.heap.size ≤ P + 1 + m; omega) (.int .i64 (((gcn (c : Int) l k (m : Int) 1 : Nat) : Int) + 1))
              have HX := Lib.hid (⟨hX0, hX3, HR.out, hb'⟩ : _ ∧ _ ∧ _ ∧ _)
              clear hX0 hX3 HR hb' hR q2 hm hgk hlen X3
              generalize gcn (c : Int) l k (m : Int) 1 = v at *
              have hv1 : IntKind.i64.wrap ((v : Int) + 1) = (v : Int) + 1 := IntWalk.i64_in _ (by omega)
              rw [hs0] at hc1
              clear hs0
              go_upto_region 12 with (fail)
              go_region_law (fail)
              all_goals obtain ⟨hX0, hX3, hR', hb'⟩ := HX.out
              all_goals (clear HX; go_wp2; go_roundw)
              all_goals first
                | exact ⟨k + 1, by go_num, by omega, hX0, hX3, hR', hb'.drew⟩
                | (simp [intOf]; omega)
                | fail
          · have hgk : gearK l k = false := by unfold gearK; rw [hget]; simpa using h66
            have hR' := hR.congr (fun m _ => gpr_skip (C := (c : Int)) (m := m) (.inl hgk))
            clear hgk hget hR
            generalize l[k].1 = kd at *
            generalize nmb (c : Int) l k = nk at *
            go_wp2_with fail
            go_roundw
            case rel => exact ⟨k + 1, by go_num, by omega, X0, X3, hR', hb⟩
            case measure => simp [intOf]; omega
        · obtain rfl : k = l.length := by omega
          go_wp2
          go_returns
          subst hng
          exact ⟨P, rfl, by omega, hR, hb⟩
theorem spec_ggGearsA (r c : Nat) (A : Option Addr) (cap : Nat) (l : List (Int × Int)) (w : World) (hG : Geo r c l.length) (hg : goodB (r : Int) (c : Int) l = true) (hr : Rd w w.heap.size A (flat l)) :
    Calls Try.prog 74 #[.agg #[.int .i64 (r : Int), .int .i64 (c : Int), .slice A l.length cap]] w fun e w' => ∃ P, e = .returned (.slice (some ⟨P, 0, none⟩) (GG (c : Int) l).length (GG (c : Int) l).length) ∧ w.heap.size ≤ P ∧ GRow w' P (GG (c : Int) l).length (gpr (c : Int) l l.length) ∧ Below w.heap.size w w' := by
  have hpos := (goodB_parts hg).2.2
  obtain ⟨b, o, rfl, _, _⟩ := hr (by rw [flat_length]; omega)
  exact spec_ggGears r c b o cap l w hG hg hr
/-- The two numbers of a group. -/
theorem GRow.pair {w : World} {P n m : Nat} {C : Int} {l : List (Int × Int)} {k : Nat} (h : GRow w P n (gpr C l k)) (hm : m < n) :
    w.cell? ⟨P, m, none⟩ = some (.slice (some ⟨P + 1 + m, 0, none⟩) 2 2) ∧ w.cell? ⟨P + 1 + m, 0, none⟩ = some (.int .i64 ((gcn C l k (m : Int) 0 : Nat) : Int)) ∧ w.cell? ⟨P + 1 + m, 1, none⟩ = some (.int .i64 ((gcn C l k (m : Int) 1 : Nat) : Int)) :=
  ⟨(h.1.cell m).trans (hdrs_at hm), ((h.2 m hm).cell 0).trans rfl, ((h.2 m hm).cell 1).trans rfl⟩
end Go.Proofs.Ytgecihedocifjaa
