/- The laws' own comparison of boards. -/
import Derived.BigQuiet
import Derived.Deep.DeepCutAuto
import Derived.Test.YtpfjbecpfdgnpaaRows2
import Derived.Test.YtpfjbecpfdgnpaaDiffer
namespace Go.Proofs.Ytpfjbecpfdgnpaa
open Go.ChangeShapes Go.WideShapes Go.ChangeAt Go.RowKit Go.Joins Go.Deep
set_option linter.unusedSimpArgs false
set_option linter.unusedVariables false
set_option maxRecDepth 100000
set_option maxHeartbeats 2000000
theorem qBoard_any (R C : Int) (A : Option Addr) (cap : Nat) (l : List (Int × Int)) (R' C' : Int) (A' : Option Addr) (cap' : Nat) (m : List (Int × Int)) (w : World) (hn : l.length ≤ 1048576) (hm : m.length ≤ 1048576) (hr : Rd w w.heap.size A (flat l)) (hr' : Rd w w.heap.size A' (flat m)) :
    Calls Try.prog 32 #[.agg #[.int .i64 R, .int .i64 C, .slice A l.length cap], .agg #[.int .i64 R', .int .i64 C', .slice A' m.length cap']] w fun e w' => e = .returned (.bool (decide (R = R' ∧ C = C' ∧ l = m))) ∧ Below w.heap.size w w' := by
  obtain ⟨v0, hv0, X0, X1, B0, hz0⟩ := two_boxes w [.int .i64 R, .int .i64 C, .slice A l.length cap] 25 [.int .i64 R', .int .i64 C', .slice A' m.length cap'] 25
  have HV := Lib.hid hv0
  clear hv0
  obtain ⟨D, hD⟩ : ∃ D : Bool, D = decide (R = R' ∧ C = C' ∧ l = m) := ⟨_, rfl⟩
  rw [← hD]
  have HD := Lib.hid hD
  clear hD
  go_enter Try.func32, Try.ntmps32
  go_upto_region 1 with fail
  rewrite [show (w.alloc (.cells ([.int .i64 R, .int .i64 C, .slice A l.length cap] : List Value).toArray 25)).alloc (.cells ([.int .i64 R', .int .i64 C', .slice A' m.length cap'] : List Value).toArray 25) = v0 from HV.out]
  clear HV
  replace hr := (hr.below B0).mono B0.size
  replace hr' := (hr'.below B0).mono B0.size
  have k0 : v0.cell? ⟨w.heap.size, 0, none⟩ = some (.int .i64 R) := (X0.cell 0).trans rfl
  have k1 : v0.cell? ⟨w.heap.size, 1, none⟩ = some (.int .i64 C) := (X0.cell 1).trans rfl
  have k2 : v0.cell? ⟨w.heap.size, 2, none⟩ = some (.slice A l.length cap) := (X0.cell 2).trans rfl
  have j0 : v0.cell? ⟨w.heap.size + 1, 0, none⟩ = some (.int .i64 R') := (X1.cell 0).trans rfl
  have j1 : v0.cell? ⟨w.heap.size + 1, 1, none⟩ = some (.int .i64 C') := (X1.cell 1).trans rfl
  have j2 : v0.cell? ⟨w.heap.size + 1, 2, none⟩ = some (.slice A' m.length cap') := (X1.cell 2).trans rfl
  by_cases h1 : R = R'
  · subst h1
    by_cases h2 : C = C'
    · subst h2
      by_cases h3 : l.length = m.length
      · have HL := Lib.hid h3
        have h4 : ((l.length : Int) != (m.length : Int)) = false := by simp [h3]
        clear h3
        have HD2 := Lib.hid (show D = decide (l = m) by rw [HD.out]; simp)
        clear HD
        go_wp2
        go_loopw [30, 5] (fun i _ wr => ∃ k : Nat, k ≤ l.length ∧ i = .int .i64 k ∧ l.take k = m.take k ∧ Below v0.heap.size v0 wr) (fun i _ _ => l.length - (intOf i).toNat)
        case atStart => exact ⟨0, Nat.zero_le _, rfl, rfl, Below.refl _ _⟩
        case round =>
          obtain ⟨k, hk, rfl, heq, hb⟩ := hrel
          clear k0 k1 k2 j0 j1 j2
          by_cases hlt : k < l.length
          · have hltm : k < m.length := by have := HL.out; omega
            obtain ⟨b, o, rfl, hbl, hc⟩ := hr (by rw [flat_length]; omega)
            obtain ⟨b', o', rfl, hbl', hc'⟩ := hr' (by rw [flat_length]; omega)
            obtain ⟨hc0, hc1⟩ := cell_at2 hb hbl hc hlt
            obtain ⟨hd0, hd1⟩ := cell_at2 hb hbl' hc' hltm
            have k2 : wr.cell? ⟨w.heap.size, 2, none⟩ = some (.slice (some ⟨b, o, none⟩) l.length cap) := ((X0.below hb X0.lt).cell 2).trans rfl
            have j2 : wr.cell? ⟨w.heap.size + 1, 2, none⟩ = some (.slice (some ⟨b', o', none⟩) m.length cap') := ((X1.below hb X1.lt).cell 2).trans rfl
            have HT := Lib.hid (take_step hlt hltm heq)
            have HN := Lib.hid (fun (h : l = m) => (show l[k].1 = m[k].1 ∧ l[k].2 = m[k].2 by subst h; exact ⟨rfl, rfl⟩))
            have hi0 : (0 : Int) ≤ (k : Int) := Int.natCast_nonneg _
            have hi1 : (k : Int) < (m.length : Int) := by omega
            have hi2 : (k : Int) < (l.length : Int) := by omega
            clear hr hc hr' hc' heq
            generalize l[k].1 = x at *
            generalize l[k].2 = y at *
            generalize m[k].1 = x' at *
            generalize m[k].2 = y' at *
            have h0 := heldCell
            have h1 := guardCell
            by_cases hx : x = x'
            · subst hx
              by_cases hy : y = y'
              · subst hy
                have HX := Lib.hid (HT.out rfl rfl)
                go_wp2
                go_quiet (fail)
                go_wp2
                go_roundw
                case rel => exact ⟨k + 1, by omega, by go_num, HX.out, below_drewN hb _⟩
                case measure => simp [intOf]; omega
              · have HX := Lib.hid (show D = false by rw [HD2.out]; exact decide_eq_false (fun h => hy (HN.out h).2))
                go_wp2
                go_quiet (fail)
                go_wp2
                go_returns
                exact ⟨ret_bool HX.out.symm, B0.trans ((below_drewN hb _).mono B0.size)⟩
            · have HX := Lib.hid (show D = false by rw [HD2.out]; exact decide_eq_false (fun h => hx (HN.out h).1))
              go_wp2
              go_quiet (fail)
              go_wp2
              go_returns
              exact ⟨ret_bool HX.out.symm, B0.trans ((below_drewN hb _).mono B0.size)⟩
          · obtain rfl : k = l.length := by omega
            rw [List.take_length, HL.out, List.take_length] at heq
            have HQ := Lib.hid (show D = true by rw [HD2.out]; exact decide_eq_true heq)
            clear heq
            go_wp2
            go_returns
            exact ⟨ret_bool HQ.out.symm, B0.trans (hb.mono B0.size)⟩
      · have h4 : ((l.length : Int) != (m.length : Int)) = true := by simp [bne_iff_ne]; omega
        have HN := Lib.hid (show D = false by rw [HD.out]; exact decide_eq_false (fun h => h3 (by rw [h.2.2])))
        go_wp2
        go_returns
        exact ⟨ret_bool HN.out.symm, B0⟩
    · have HN := Lib.hid (show D = false by rw [HD.out]; exact decide_eq_false (fun h => h2 h.2.1))
      go_wp2
      go_returns
      exact ⟨ret_bool HN.out.symm, B0⟩
  · have HN := Lib.hid (show D = false by rw [HD.out]; exact decide_eq_false (fun h => h1 h.1))
    go_wp2
    go_returns
    exact ⟨ret_bool HN.out.symm, B0⟩
end Go.Proofs.Ytpfjbecpfdgnpaa
