/- ColoursChange: the model's and the program's. -/
import Derived.BigQuiet
import Derived.Laws.AppendOwnNone
import Derived.Test.YtlambflmabecfaaPush
import Derived.Test.YtlambflmabecfaaLogP
namespace Go.Proofs.Ytlambflmabecfaa
open Go.ChangeShapes Go.WideShapes Go.ChangeAt Go.RowKit Go.Joins Go.Deep
set_option linter.unusedSimpArgs false
set_option linter.unusedVariables false
set_option maxRecDepth 100000
set_option maxHeartbeats 4000000
theorem chg_yes {l : List LE} {k : Nat} (h : k < l.length) (h0 : 0 < k) (hne : ¬ l[k].1 = (l[k - 1]'(by omega)).1) : chgK l (k + 1) = chgK l k ++ [(k : Int)] :=
  chgK_yes (by rw [chg_at h h0]; exact decide_eq_true hne)
theorem chg_no {l : List LE} {k : Nat} (h : k < l.length) (h0 : 0 < k) (he : l[k].1 = (l[k - 1]'(by omega)).1) : chgK l (k + 1) = chgK l k :=
  chgK_no (by rw [chg_at h h0]; exact decide_eq_false (fun hne => hne he))
theorem ints_snoc (l : List Int) (x : Int) : ints (l ++ [x]) = ints l ++ [.int .i64 x] := by simp [ints]
theorem spec_ColoursChange (A : Option Addr) (cap : Nat) (l : List LE) (w : World) (hn : l.length ≤ 1048576) (hr : Rd w w.heap.size A (flatL l)) :
    Calls Try.prog 34 #[.slice A l.length cap] w (PostL w (chO l) (okLog l)) := by
  obtain ⟨i0, hi, hz0, hz1, hz2⟩ := info_parts intInfo
  go_enter Try.func34, Try.ntmps34
  go_wp2_with fail
  refine (spec_loGood _ _ _ _ hn hr).mono ?_; rintro e w1 ⟨rfl, b1⟩
  rcases Bool.eq_false_or_eq_true (okLog l) with h1 | h1
  · have HC := Lib.hid (show chO l = chgL l by unfold chO; rw [h1]; rfl)
    have HO := Lib.hid h1
    rewrite [h1]
    clear h1
    have hown : w1.ownsRow w.heap.size 3 1 (.slice none 0 0) 0 [] := World.ownsRow_nil _ _ _ _
    go_wp2_with fail
    go_loopw [4, 5] (fun v i wr => ∃ k : Nat, 1 ≤ k ∧ (k ≤ l.length ∨ k = 1) ∧ i = .int .i64 k ∧ wr.ownsRow w.heap.size 3 1 v (chgK l k).length (ints (chgK l k)) ∧ Below w.heap.size w wr) (fun _ i _ => l.length - (intOf i).toNat)
    case atStart => exact ⟨1, Nat.le_refl _, .inr rfl, rfl, by rw [chgK_one]; exact hown, b1⟩
    case round =>
      clear hown b1
      obtain ⟨k, hk1, hk, rfl, hown, hb⟩ := hrel
      have hs := hb.size
      by_cases hlt : k < l.length
      · obtain ⟨b, o, rfl, hbl, hc⟩ := hr (by rw [flatL_len]; omega)
        have hc0 : wr.cell? ⟨b, o + k * 4, none⟩ = some (.int .i64 l[k].1) := (hb.cell (p := ⟨b, _, none⟩) hbl).trans (hc _ _ (flatL_at l k hlt).1)
        have hc1 : wr.cell? ⟨b, o + (k - 1) * 4, none⟩ = some (.int .i64 (l[k - 1]'(by omega)).1) := (hb.cell (p := ⟨b, _, none⟩) hbl).trans (hc _ _ (flatL_at l (k - 1) (by omega)).1)
        have HY := Lib.hid (chg_yes hlt hk1)
        have HN := Lib.hid (chg_no hlt hk1)
        have hle := chgK_len l k
        have hk2 : (k : Int) - 1 = ((k - 1 : Nat) : Int) := by omega
        have hk3 : ((k : Int) - 1).toNat = k - 1 := by omega
        clear hc hr
        generalize (l[k - 1]'(by omega)).1 = y at *
        generalize l[k].1 = x at *
        by_cases hxy : x = y
        · have hxb : (x != y) = false := by simpa using hxy
          have HX := Lib.hid (HN.out hxy)
          clear HY HN hxy
          go_wp2
          go_quiet (fail)
          go_wp2
          have bq : Below wr.heap.size wr (wr.drewN nq) := below_drewN (Below.refl _ _) _
          first
            | exact ⟨⟨k + 1, by omega, by omega, by go_num, by rw [HX.out]; exact row_keep hown bq, hb.trans (bq.mono hs)⟩, by simp [intOf]; omega⟩
            | (go_roundw
               case rel => exact ⟨k + 1, by omega, by omega, by go_num, by rw [HX.out]; exact row_keep hown bq, hb.trans (bq.mono hs)⟩
               case measure => simp [intOf]; omega)
        · have hxb : (x != y) = true := by simpa using hxy
          have HX := Lib.hid (HY.out hxy)
          clear HY HN hxy
          generalize hL : chgK l k = L at *
          go_wp2
          go_quiet (fail)
          have bq : Below wr.heap.size wr (wr.drewN nq) := below_drewN (Below.refl _ _) _
          replace hown := row_keep hown bq
          replace hb := hb.trans (bq.mono hs)
          clear bq hc0 hc1
          replace hs := hb.size
          generalize wr.drewN nq = wq at *
          go_wp2_with (first | (at_builtin; refine wpList_append_own _ rfl (.tmp 27) (.tmp 29) 47 rfl w.heap.size 3 i0 _ 1 8 Try.underlying47 hi hz0 hz1 hz2 rfl (by omega) _ L.length (ints L) rfl (hown.alloc _) ⟨wq.heap.size, 0, none⟩ 1 1 [.int .i64 (k : Int)] rfl rfl one_cellI one_oneI (by unfold maxLen; omega) (by omega) (by simp; omega) ?_; intro v3 w3 hown3 hg3 _) | fail)
          have hb3 : Below w.heap.size w w3 := row_below (hown.alloc _) (hb.alloc (by omega) _) (by simp; omega) hg3
          rw [← ints_snoc, ← HX.out] at hown3
          first
            | exact ⟨⟨k + 1, by omega, by omega, by go_num, by rw [show (chgK l (k + 1)).length = L.length + 1 by rw [HX.out, List.length_append]; rfl]; exact hown3, hb3⟩, by simp [intOf]; omega⟩
            | (go_roundw
               case rel => exact ⟨k + 1, by omega, by omega, by go_num, by rw [show (chgK l (k + 1)).length = L.length + 1 by rw [HX.out, List.length_append]; rfl]; exact hown3, hb3⟩
               case measure => simp [intOf]; omega)
      · have hL : chgK l k = chgL l := by
          rcases hk with h | h
          · rw [show k = l.length by omega]; rfl
          · rcases (show l.length = 1 ∨ l.length = 0 by omega) with h2 | h2
            · unfold chgL; rw [h, h2]
            · unfold chgL; rw [h, h2, chgK_one]; rfl
        rw [hL] at hown
        obtain ⟨A7, cap7, rfl⟩ := slice_of_row hown
        have ho := own_of_row hown
        clear hL
        go_wp2
        go_returns
        rewrite [HC.out, HO.out]
        exact PostL.mk ho.1 ho.2 hb
  · have HC := Lib.hid (show chO l = [] by unfold chO; rw [h1]; rfl)
    have HO := Lib.hid h1
    rewrite [h1]
    clear h1
    go_wp2
    go_returns
    rewrite [HC.out, HO.out]
    exact PostL.none_ b1
/-- A row of numbers of the call's own, and whether it succeeds. -/
def PostR (w : World) (l : List Int) (ok : Bool) (e : Ending) (w' : World) : Prop :=
  ∃ v, e = .returned (.tuple #[v, .bool ok]) ∧ w'.ownsRow w.heap.size 3 1 v l.length (ints l) ∧ Below w.heap.size w w'
theorem PostR.mk {w w' : World} {l : List Int} {ok : Bool} {v : Value} (h : w'.ownsRow w.heap.size 3 1 v l.length (ints l)) (b : Below w.heap.size w w') : PostR w l ok (.returned (.tuple #[v, .bool ok])) w' := ⟨v, rfl, h, b⟩
theorem PostR.toL {w w' : World} {l : List Int} {ok : Bool} {e : Ending} (h : PostR w l ok e w') : PostL w l ok e w' := by
  obtain ⟨v, rfl, h1, b⟩ := h
  obtain ⟨A7, cap7, rfl⟩ := slice_of_row h1
  have ho := own_of_row h1
  exact PostL.mk ho.1 ho.2 b
theorem impl_ColoursChangeR (A : Option Addr) (cap : Nat) (l : List LE) (w : World) (hn : l.length ≤ 1048576) (hr : Rd w w.heap.size A (flatL l)) :
    Calls Try.prog 35 #[.slice A l.length cap] w (PostR w (chO l) (okLog l)) := by
  obtain ⟨i0, hi, hz0, hz1, hz2⟩ := info_parts intInfo
  go_enter Try.func35, Try.ntmps35
  go_wp2_with fail
  refine (impl_IsLog _ _ _ _ hn hr).mono ?_; rintro e w1 ⟨rfl, b1⟩
  rcases Bool.eq_false_or_eq_true (okLog l) with h1 | h1
  · have HC := Lib.hid (show chO l = chgL l by unfold chO; rw [h1]; rfl)
    have HO := Lib.hid h1
    rewrite [h1]
    clear h1
    have hown : w1.ownsRow w.heap.size 3 1 (.slice none 0 0) 0 [] := World.ownsRow_nil _ _ _ _
    go_wp2_with fail
    go_loopw [4, 12] (fun v i wr => ∃ k : Nat, k ≤ l.length ∧ i = .int .i64 k ∧ wr.ownsRow w.heap.size 3 1 v (chgK l k).length (ints (chgK l k)) ∧ Below w.heap.size w wr) (fun _ i _ => l.length - (intOf i).toNat)
    case atStart => exact ⟨0, Nat.zero_le _, rfl, hown, b1⟩
    case round =>
      clear hown b1
      obtain ⟨k, hk, rfl, hown, hb⟩ := hrel
      have hs := hb.size
      by_cases hlt : k < l.length
      · (obtain ⟨b, o, rfl, hbl, hc⟩ := hr (by rw [flatL_len]; omega); obtain ⟨a0, a1, a2, a3⟩ := flatL_at l k hlt; have hc0 : wr.cell? ⟨b, o + k * 4, none⟩ = some (.int .i64 l[k].1) := (hb.cell (p := ⟨b, _, none⟩) hbl).trans (hc _ _ a0); have hc1 : wr.cell? ⟨b, o + k * 4 + 1, none⟩ = some (.int .i64 l[k].2.1) := (hb.cell (p := ⟨b, _, none⟩) hbl).trans (hc _ _ a1); have hc2 : wr.cell? ⟨b, o + k * 4 + 2, none⟩ = some (.int .i64 l[k].2.2.1) := (hb.cell (p := ⟨b, _, none⟩) hbl).trans (hc _ _ a2); have hc3 : wr.cell? ⟨b, o + k * 4 + 3, none⟩ = some (.int .i64 l[k].2.2.2) := (hb.cell (p := ⟨b, _, none⟩) hbl).trans (hc _ _ a3); clear a0 a1 a2 a3)
        by_cases hk1 : 0 < k
        · have hd : decide ((0 : Int) < (k : Int)) = true := by simp; omega
          have hcp : wr.cell? ⟨b, o + (k - 1) * 4, none⟩ = some (.int .i64 (l[k - 1]'(by omega)).1) := (hb.cell (p := ⟨b, _, none⟩) hbl).trans (hc _ _ (flatL_at l (k - 1) (by omega)).1)
          have HY := Lib.hid (chg_yes hlt hk1)
          have HN := Lib.hid (chg_no hlt hk1)
          have hle := chgK_len l k
          have hk2 : (k : Int) - 1 = ((k - 1 : Nat) : Int) := by omega
          have hk3 : ((k : Int) - 1).toNat = k - 1 := by omega
          clear hc hr
          generalize (l[k - 1]'(by omega)).1 = v at *
          (generalize l[k].1 = x at *; generalize l[k].2.1 = y at *; generalize l[k].2.2.1 = z at *; generalize l[k].2.2.2 = u at *)
          have bl : Below wr.heap.size wr (wr.alloc (.cells #[.int .i64 x, .int .i64 y, .int .i64 z, .int .i64 u] 61)) := (Below.refl _ _).alloc (Nat.le_refl _) _
          have hownl := row_keep hown bl
          have hbl2 := hb.trans (bl.mono hs)
          have hsl := hbl2.size
          have hcpl := (bl.cell (p := ⟨b, o + (k - 1) * 4, none⟩) (show b < wr.heap.size from Nat.lt_of_lt_of_le hbl hs)).trans hcp
          have hcx : (wr.alloc (.cells #[.int .i64 x, .int .i64 y, .int .i64 z, .int .i64 u] 61)).cell? ⟨wr.heap.size, 0, none⟩ = some (.int .i64 x) := Whole.cell (xs := [.int .i64 x, .int .i64 y, .int .i64 z, .int .i64 u]) (heap_alloc_new wr _) 0
          by_cases hxy : x = v
          · have hxb : (x != v) = false := by simpa using hxy
            have HX := Lib.hid (HN.out hxy)
            clear HY HN hxy
            go_upto_region 7 with (fail)
            generalize wr.alloc (.cells #[.int .i64 x, .int .i64 y, .int .i64 z, .int .i64 u] 61) = wl at *
            go_quiet (fail)
            go_wp2
            have bq : Below wl.heap.size wl (wl.drewN nq) := below_drewN (Below.refl _ _) _
            first
              | exact ⟨⟨k + 1, by omega, by go_num, by rw [HX.out]; exact row_keep hownl bq, hbl2.trans (bq.mono hsl)⟩, by simp [intOf]; omega⟩
              | (go_roundw
                 case rel => exact ⟨k + 1, by omega, by go_num, by rw [HX.out]; exact row_keep hownl bq, hbl2.trans (bq.mono hsl)⟩
                 case measure => simp [intOf]; omega)
          · have hxb : (x != v) = true := by simpa using hxy
            have HX := Lib.hid (HY.out hxy)
            clear HY HN hxy
            generalize hL : chgK l k = L at *
            go_upto_region 7 with (fail)
            generalize wr.alloc (.cells #[.int .i64 x, .int .i64 y, .int .i64 z, .int .i64 u] 61) = wl at *
            go_quiet (fail)
            have bq : Below wl.heap.size wl (wl.drewN nq) := below_drewN (Below.refl _ _) _
            replace hown := row_keep hownl bq
            replace hb := hbl2.trans (bq.mono hsl)
            clear bq hcx hcpl hcp hownl hbl2 hsl hc0 hc1 hc2 hc3 bl
            replace hs := hb.size
            generalize wl.drewN nq = wq at *
            go_wp2_with (first | (at_builtin; refine wpList_append_own _ rfl (.tmp 30) (.tmp 32) 47 rfl w.heap.size 3 i0 _ 1 8 Try.underlying47 hi hz0 hz1 hz2 rfl (by omega) _ L.length (ints L) rfl (hown.alloc _) ⟨wq.heap.size, 0, none⟩ 1 1 [.int .i64 (k : Int)] rfl rfl one_cellI one_oneI (by unfold maxLen; omega) (by omega) (by simp; omega) ?_; intro v3 w3 hown3 hg3 _) | fail)
            have hb3 : Below w.heap.size w w3 := row_below (hown.alloc _) (hb.alloc (by omega) _) (by simp; omega) hg3
            rw [← ints_snoc, ← HX.out] at hown3
            first
              | exact ⟨⟨k + 1, by omega, by go_num, by rw [show (chgK l (k + 1)).length = L.length + 1 by rw [HX.out, List.length_append]; rfl]; exact hown3, hb3⟩, by simp [intOf]; omega⟩
              | (go_roundw
                 case rel => exact ⟨k + 1, by omega, by go_num, by rw [show (chgK l (k + 1)).length = L.length + 1 by rw [HX.out, List.length_append]; rfl]; exact hown3, hb3⟩
                 case measure => simp [intOf]; omega)
        · obtain rfl : k = 0 := by omega
          have hd : decide ((0 : Int) < ((0 : Nat) : Int)) = false := by simp
          have HX := Lib.hid (show chgK l (0 + 1) = chgK l 0 from chgK_one l)
          clear hc hr
          (generalize l[0].1 = x at *; generalize l[0].2.1 = y at *; generalize l[0].2.2.1 = z at *; generalize l[0].2.2.2 = u at *)
          simp only [Nat.zero_mul, Nat.add_zero] at hc0 hc1 hc2 hc3
          have bl : Below wr.heap.size wr (wr.alloc (.cells #[.int .i64 x, .int .i64 y, .int .i64 z, .int .i64 u] 61)) := (Below.refl _ _).alloc (Nat.le_refl _) _
          have hownl := row_keep hown bl
          have hbl2 := hb.trans (bl.mono hs)
          have hsl := hbl2.size
          go_upto_region 7 with (fail)
          generalize wr.alloc (.cells #[.int .i64 x, .int .i64 y, .int .i64 z, .int .i64 u] 61) = wl at *
          go_quiet (fail)
          go_wp2
          have bq : Below wl.heap.size wl (wl.drewN nq) := below_drewN (Below.refl _ _) _
          first
            | exact ⟨⟨0 + 1, by omega, by go_num, by rw [HX.out]; exact row_keep hownl bq, hbl2.trans (bq.mono hsl)⟩, by simp [intOf]; omega⟩
            | (go_roundw
               case rel => exact ⟨0 + 1, by omega, by go_num, by rw [HX.out]; exact row_keep hownl bq, hbl2.trans (bq.mono hsl)⟩
               case measure => simp [intOf]; omega)
      · obtain rfl : k = l.length := by omega
        have hown2 : wr.ownsRow w.heap.size 3 1 u4 (chgL l).length (ints (chgL l)) := hown
        clear hown
        go_wp2
        go_returns
        rewrite [HC.out, HO.out]
        exact PostR.mk hown2 hb
  · have HC := Lib.hid (show chO l = [] by unfold chO; rw [h1]; rfl)
    have HO := Lib.hid h1
    rewrite [h1]
    clear h1
    go_wp2
    go_returns
    rewrite [HC.out, HO.out]
    exact PostR.mk (l := []) (World.ownsRow_nil _ _ _ _) b1
theorem impl_ColoursChange (A : Option Addr) (cap : Nat) (l : List LE) (w : World) (hn : l.length ≤ 1048576) (hr : Rd w w.heap.size A (flatL l)) :
    Calls Try.prog 35 #[.slice A l.length cap] w (PostL w (chO l) (okLog l)) :=
  (impl_ColoursChangeR A cap l w hn hr).mono fun e w' h => h.toL
end Go.Proofs.Ytlambflmabecfaa
