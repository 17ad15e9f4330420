/- Logs: how far two agree, walked. -/
import Derived.BigQuiet
import Derived.Test.YtlambflmabecfaaLogA
namespace Go.Proofs.Ytlambflmabecfaa
open Go.ChangeShapes Go.WideShapes Go.ChangeAt Go.RowKit Go.Joins Go.Deep
set_option linter.unusedSimpArgs false
set_option linter.unusedVariables false
set_option maxRecDepth 100000
set_option maxHeartbeats 4000000
theorem agree_here {l m : List LE} {k : Nat} (hl : k < l.length) (hm : k < m.length) (ht : l.take k = m.take k) (hne : ¬ ((l[k].1, l[k].2.1, l[k].2.2.1, l[k].2.2.2) : LE) = (m[k].1, m[k].2.1, m[k].2.2.1, m[k].2.2.2)) : agreeL l m = k :=
  agree_stop k l m (by omega) (by omega) ht (fun _ _ => hne)
theorem agree_on {l m : List LE} {k : Nat} (hl : k < l.length) (hm : k < m.length) (ht : l.take k = m.take k) (he : ((l[k].1, l[k].2.1, l[k].2.2.1, l[k].2.2.2) : LE) = (m[k].1, m[k].2.1, m[k].2.2.1, m[k].2.2.2)) : l.take (k + 1) = m.take (k + 1) := by
  have h : l[k] = m[k] := he
  rw [List.take_succ_eq_append_getElem hl, List.take_succ_eq_append_getElem hm, ht, h]
theorem spec_loAgree (A : Option Addr) (cap : Nat) (l : List LE) (A' : Option Addr) (cap' : Nat) (m : List LE) (w : World) (hn : l.length ≤ 1048576) (hr : Rd w w.heap.size A (flatL l)) (hr' : Rd w w.heap.size A' (flatL m)) :
    Calls Try.prog 47 #[.slice A l.length cap, .slice A' m.length cap'] w fun e w' => e = .returned (.int .i64 (agreeL l m : Int)) ∧ Below w.heap.size w w' := by
  go_enter Try.func47, Try.ntmps47
  go_wp2_with fail
  go_loopw [5] (fun i wr => ∃ k : Nat, k ≤ l.length ∧ k ≤ m.length ∧ i = .int .i64 k ∧ l.take k = m.take k ∧ Below w.heap.size w wr) (fun i _ => l.length - (intOf i).toNat)
  case atStart => exact ⟨0, Nat.zero_le _, Nat.zero_le _, rfl, rfl, by (repeat' (first | (with_reducible exact Below.refl _ _) | (with_reducible assumption) | (with_reducible refine Below.alloc ?_ ?_ _) | (with_reducible refine Below.setCell ?_ ?_ _) | (with_reducible refine Below.drew ?_) | (with_reducible refine below_drewN ?_ _) | (with_reducible refine Below.trans ?_ (Below.mono (by assumption) ?_)) | (with_reducible exact Nat.le_refl _) | (simp; done) | omega | (simp at *; omega)))⟩
  case round =>
    obtain ⟨k, hk, hkm, rfl, ht, hb⟩ := hrel
    have hs := hb.size
    by_cases hlt : k < l.length
    · by_cases hltm : k < m.length
      · (obtain ⟨b, o, rfl, hbl, hc⟩ := hr (by rw [flatL_len]; omega); obtain ⟨a0, a1, a2, a3⟩ := flatL_at l k hlt; have hc0 : wr.cell? ⟨b, o + k * 4, none⟩ = some (.int .i64 l[k].1) := (hb.cell (p := ⟨b, _, none⟩) hbl).trans (hc _ _ a0); have hc1 : wr.cell? ⟨b, o + k * 4 + 1, none⟩ = some (.int .i64 l[k].2.1) := (hb.cell (p := ⟨b, _, none⟩) hbl).trans (hc _ _ a1); have hc2 : wr.cell? ⟨b, o + k * 4 + 2, none⟩ = some (.int .i64 l[k].2.2.1) := (hb.cell (p := ⟨b, _, none⟩) hbl).trans (hc _ _ a2); have hc3 : wr.cell? ⟨b, o + k * 4 + 3, none⟩ = some (.int .i64 l[k].2.2.2) := (hb.cell (p := ⟨b, _, none⟩) hbl).trans (hc _ _ a3); clear a0 a1 a2 a3)
        (obtain ⟨b', o', rfl, hbl', hc'⟩ := hr' (by rw [flatL_len]; omega); obtain ⟨a0, a1, a2, a3⟩ := flatL_at m k hltm; have hd0 : wr.cell? ⟨b', o' + k * 4, none⟩ = some (.int .i64 m[k].1) := (hb.cell (p := ⟨b', _, none⟩) hbl').trans (hc' _ _ a0); have hd1 : wr.cell? ⟨b', o' + k * 4 + 1, none⟩ = some (.int .i64 m[k].2.1) := (hb.cell (p := ⟨b', _, none⟩) hbl').trans (hc' _ _ a1); have hd2 : wr.cell? ⟨b', o' + k * 4 + 2, none⟩ = some (.int .i64 m[k].2.2.1) := (hb.cell (p := ⟨b', _, none⟩) hbl').trans (hc' _ _ a2); have hd3 : wr.cell? ⟨b', o' + k * 4 + 3, none⟩ = some (.int .i64 m[k].2.2.2) := (hb.cell (p := ⟨b', _, none⟩) hbl').trans (hc' _ _ a3); clear a0 a1 a2 a3)
        have HY := Lib.hid (agree_on hlt hltm ht)
        have HN := Lib.hid (agree_here hlt hltm ht)
        have hd : decide ((k : Int) < (l.length : Int)) = true := by simp; omega
        have hdm : decide ((k : Int) < (m.length : Int)) = true := by simp; omega
        clear hr hc hr' hc' ht
        (generalize l[k].1 = x at *; generalize l[k].2.1 = y at *; generalize l[k].2.2.1 = z at *; generalize l[k].2.2.2 = u at *)
        (generalize m[k].1 = x' at *; generalize m[k].2.1 = y' at *; generalize m[k].2.2.1 = z' at *; generalize m[k].2.2.2 = u' at *)
        have hq := fun w => log_eql x y z u x' y' z' u' w
        have hgd := guardLog1
        by_cases he : ((x, y, z, u) : LE) = (x', y', z', u')
        · rw [decide_eq_true he] at hq
          have HX := Lib.hid (HY.out he)
          clear HY HN he
          go_wp2
          go_quiet (fail)
          go_wp2
          have bq : Below wr.heap.size wr (wr.drewN nq) := below_drewN (Below.refl _ _) _
          first
            | exact ⟨⟨k + 1, by omega, by omega, by go_num, HX.out, hb.trans (bq.mono hs)⟩, by simp [intOf]; omega⟩
            | (go_roundw
               case rel => exact ⟨k + 1, by omega, by omega, by go_num, HX.out, hb.trans (bq.mono hs)⟩
               case measure => simp [intOf]; omega)
        · rw [decide_eq_false he] at hq
          have HX := Lib.hid (HN.out he)
          clear HY HN he
          go_wp2
          go_quiet (fail)
          go_wp2
          have bq : Below wr.heap.size wr (wr.drewN nq) := below_drewN (Below.refl _ _) _
          go_returns
          exact ⟨ret_int (by rw [HX.out]), hb.trans (bq.mono hs)⟩
      · obtain rfl : k = m.length := by omega
        have HX := Lib.hid (agree_stop m.length l m (by omega) (by omega) ht (fun _ h => absurd h (by omega)))
        have hd : decide ((m.length : Int) < (l.length : Int)) = true := by simp; omega
        have hdm : decide ((m.length : Int) < (m.length : Int)) = false := by simp
        clear ht
        go_wp2
        go_quiet (fail)
        go_wp2
        have bq : Below wr.heap.size wr (wr.drewN nq) := below_drewN (Below.refl _ _) _
        go_returns
        exact ⟨ret_int (by rw [HX.out]), hb.trans (bq.mono hs)⟩
    · obtain rfl : k = l.length := by omega
      have HX := Lib.hid (agree_stop l.length l m (by omega) (by omega) ht (fun h => absurd h (by omega)))
      have hd : decide ((l.length : Int) < (l.length : Int)) = false := by simp
      clear ht
      go_wp2
      go_quiet (fail)
      go_wp2
      have bq : Below wr.heap.size wr (wr.drewN nq) := below_drewN (Below.refl _ _) _
      go_returns
      exact ⟨ret_int (by rw [HX.out]), hb.trans (bq.mono hs)⟩
theorem impl_countAgreeing (A : Option Addr) (cap : Nat) (l : List LE) (A' : Option Addr) (cap' : Nat) (m : List LE) (w : World) (hn : l.length ≤ 1048576) (hr : Rd w w.heap.size A (flatL l)) (hr' : Rd w w.heap.size A' (flatL m)) :
    Calls Try.prog 48 #[.slice A l.length cap, .slice A' m.length cap'] w fun e w' => e = .returned (.int .i64 (agreeL l m : Int)) ∧ Below w.heap.size w w' := by
  by_cases hor : m.length < l.length
  · go_enter Try.func48, Try.ntmps48
    go_wp2_with fail
    go_loopw [13] (fun i wr => ∃ k : Nat, k ≤ m.length ∧ i = .int .i64 k ∧ l.take k = m.take k ∧ Below w.heap.size w wr) (fun i _ => m.length - (intOf i).toNat)
    case atStart => exact ⟨0, Nat.zero_le _, rfl, rfl, by (repeat' (first | (with_reducible exact Below.refl _ _) | (with_reducible assumption) | (with_reducible refine Below.alloc ?_ ?_ _) | (with_reducible refine Below.setCell ?_ ?_ _) | (with_reducible refine Below.drew ?_) | (with_reducible refine below_drewN ?_ _) | (with_reducible refine Below.trans ?_ (Below.mono (by assumption) ?_)) | (with_reducible exact Nat.le_refl _) | (simp; done) | omega | (simp at *; omega)))⟩
    case round =>
      obtain ⟨k, hk, rfl, ht, hb⟩ := hrel
      have hs := hb.size
      by_cases hlt0 : k < m.length
      · have hlt : k < l.length := by omega
        have hltm : k < m.length := by omega
        (obtain ⟨b, o, rfl, hbl, hc⟩ := hr (by rw [flatL_len]; omega); obtain ⟨a0, a1, a2, a3⟩ := flatL_at l k hlt; have hc0 : wr.cell? ⟨b, o + k * 4, none⟩ = some (.int .i64 l[k].1) := (hb.cell (p := ⟨b, _, none⟩) hbl).trans (hc _ _ a0); have hc1 : wr.cell? ⟨b, o + k * 4 + 1, none⟩ = some (.int .i64 l[k].2.1) := (hb.cell (p := ⟨b, _, none⟩) hbl).trans (hc _ _ a1); have hc2 : wr.cell? ⟨b, o + k * 4 + 2, none⟩ = some (.int .i64 l[k].2.2.1) := (hb.cell (p := ⟨b, _, none⟩) hbl).trans (hc _ _ a2); have hc3 : wr.cell? ⟨b, o + k * 4 + 3, none⟩ = some (.int .i64 l[k].2.2.2) := (hb.cell (p := ⟨b, _, none⟩) hbl).trans (hc _ _ a3); clear a0 a1 a2 a3)
        (obtain ⟨b', o', rfl, hbl', hc'⟩ := hr' (by rw [flatL_len]; omega); obtain ⟨a0, a1, a2, a3⟩ := flatL_at m k hltm; have hd0 : wr.cell? ⟨b', o' + k * 4, none⟩ = some (.int .i64 m[k].1) := (hb.cell (p := ⟨b', _, none⟩) hbl').trans (hc' _ _ a0); have hd1 : wr.cell? ⟨b', o' + k * 4 + 1, none⟩ = some (.int .i64 m[k].2.1) := (hb.cell (p := ⟨b', _, none⟩) hbl').trans (hc' _ _ a1); have hd2 : wr.cell? ⟨b', o' + k * 4 + 2, none⟩ = some (.int .i64 m[k].2.2.1) := (hb.cell (p := ⟨b', _, none⟩) hbl').trans (hc' _ _ a2); have hd3 : wr.cell? ⟨b', o' + k * 4 + 3, none⟩ = some (.int .i64 m[k].2.2.2) := (hb.cell (p := ⟨b', _, none⟩) hbl').trans (hc' _ _ a3); clear a0 a1 a2 a3)
        have HY := Lib.hid (agree_on hlt hltm ht)
        have HN := Lib.hid (agree_here hlt hltm ht)
        clear hr hc hr' hc' ht
        (generalize l[k].1 = x at *; generalize l[k].2.1 = y at *; generalize l[k].2.2.1 = z at *; generalize l[k].2.2.2 = u at *)
        (generalize m[k].1 = x' at *; generalize m[k].2.1 = y' at *; generalize m[k].2.2.1 = z' at *; generalize m[k].2.2.2 = u' at *)
        have hq := fun w => log_eql x y z u x' y' z' u' w
        have hgd := guardLog1
        by_cases he : ((x, y, z, u) : LE) = (x', y', z', u')
        · rw [decide_eq_true he] at hq
          have HX := Lib.hid (HY.out he)
          clear HY HN he
          go_wp2
          go_quiet (fail)
          go_wp2
          have bq : Below wr.heap.size wr (wr.drewN nq) := below_drewN (Below.refl _ _) _
          first
            | exact ⟨⟨k + 1, by omega, by go_num, HX.out, hb.trans (bq.mono hs)⟩, by simp [intOf]; omega⟩
            | (go_roundw
               case rel => exact ⟨k + 1, by omega, by go_num, HX.out, hb.trans (bq.mono hs)⟩
               case measure => simp [intOf]; omega)
        · rw [decide_eq_false he] at hq
          have HX := Lib.hid (HN.out he)
          clear HY HN he
          go_wp2
          go_quiet (fail)
          go_wp2
          have bq : Below wr.heap.size wr (wr.drewN nq) := below_drewN (Below.refl _ _) _
          go_returns
          exact ⟨ret_int (by rw [HX.out]), hb.trans (bq.mono hs)⟩
      · obtain rfl : k = m.length := by omega
        have HX := Lib.hid (agree_stop (m.length) l m (by omega) (by omega) ht (fun h h' => absurd h (by omega)))
        clear ht
        go_wp2
        go_returns
        exact ⟨ret_int (by rw [HX.out]), hb⟩
  · go_enter Try.func48, Try.ntmps48
    go_wp2_with fail
    go_loopw [13] (fun i wr => ∃ k : Nat, k ≤ l.length ∧ i = .int .i64 k ∧ l.take k = m.take k ∧ Below w.heap.size w wr) (fun i _ => l.length - (intOf i).toNat)
    case atStart => exact ⟨0, Nat.zero_le _, rfl, rfl, by (repeat' (first | (with_reducible exact Below.refl _ _) | (with_reducible assumption) | (with_reducible refine Below.alloc ?_ ?_ _) | (with_reducible refine Below.setCell ?_ ?_ _) | (with_reducible refine Below.drew ?_) | (with_reducible refine below_drewN ?_ _) | (with_reducible refine Below.trans ?_ (Below.mono (by assumption) ?_)) | (with_reducible exact Nat.le_refl _) | (simp; done) | omega | (simp at *; omega)))⟩
    case round =>
      obtain ⟨k, hk, rfl, ht, hb⟩ := hrel
      have hs := hb.size
      by_cases hlt0 : k < l.length
      · have hlt : k < l.length := by omega
        have hltm : k < m.length := by omega
        (obtain ⟨b, o, rfl, hbl, hc⟩ := hr (by rw [flatL_len]; omega); obtain ⟨a0, a1, a2, a3⟩ := flatL_at l k hlt; have hc0 : wr.cell? ⟨b, o + k * 4, none⟩ = some (.int .i64 l[k].1) := (hb.cell (p := ⟨b, _, none⟩) hbl).trans (hc _ _ a0); have hc1 : wr.cell? ⟨b, o + k * 4 + 1, none⟩ = some (.int .i64 l[k].2.1) := (hb.cell (p := ⟨b, _, none⟩) hbl).trans (hc _ _ a1); have hc2 : wr.cell? ⟨b, o + k * 4 + 2, none⟩ = some (.int .i64 l[k].2.2.1) := (hb.cell (p := ⟨b, _, none⟩) hbl).trans (hc _ _ a2); have hc3 : wr.cell? ⟨b, o + k * 4 + 3, none⟩ = some (.int .i64 l[k].2.2.2) := (hb.cell (p := ⟨b, _, none⟩) hbl).trans (hc _ _ a3); clear a0 a1 a2 a3)
        (obtain ⟨b', o', rfl, hbl', hc'⟩ := hr' (by rw [flatL_len]; omega); obtain ⟨a0, a1, a2, a3⟩ := flatL_at m k hltm; have hd0 : wr.cell? ⟨b', o' + k * 4, none⟩ = some (.int .i64 m[k].1) := (hb.cell (p := ⟨b', _, none⟩) hbl').trans (hc' _ _ a0); have hd1 : wr.cell? ⟨b', o' + k * 4 + 1, none⟩ = some (.int .i64 m[k].2.1) := (hb.cell (p := ⟨b', _, none⟩) hbl').trans (hc' _ _ a1); have hd2 : wr.cell? ⟨b', o' + k * 4 + 2, none⟩ = some (.int .i64 m[k].2.2.1) := (hb.cell (p := ⟨b', _, none⟩) hbl').trans (hc' _ _ a2); have hd3 : wr.cell? ⟨b', o' + k * 4 + 3, none⟩ = some (.int .i64 m[k].2.2.2) := (hb.cell (p := ⟨b', _, none⟩) hbl').trans (hc' _ _ a3); clear a0 a1 a2 a3)
        have HY := Lib.hid (agree_on hlt hltm ht)
        have HN := Lib.hid (agree_here hlt hltm ht)
        clear hr hc hr' hc' ht
        (generalize l[k].1 = x at *; generalize l[k].2.1 = y at *; generalize l[k].2.2.1 = z at *; generalize l[k].2.2.2 = u at *)
        (generalize m[k].1 = x' at *; generalize m[k].2.1 = y' at *; generalize m[k].2.2.1 = z' at *; generalize m[k].2.2.2 = u' at *)
        have hq := fun w => log_eql x y z u x' y' z' u' w
        have hgd := guardLog1
        by_cases he : ((x, y, z, u) : LE) = (x', y', z', u')
        · rw [decide_eq_true he] at hq
          have HX := Lib.hid (HY.out he)
          clear HY HN he
          go_wp2
          go_quiet (fail)
          go_wp2
          have bq : Below wr.heap.size wr (wr.drewN nq) := below_drewN (Below.refl _ _) _
          first
            | exact ⟨⟨k + 1, by omega, by go_num, HX.out, hb.trans (bq.mono hs)⟩, by simp [intOf]; omega⟩
            | (go_roundw
               case rel => exact ⟨k + 1, by omega, by go_num, HX.out, hb.trans (bq.mono hs)⟩
               case measure => simp [intOf]; omega)
        · rw [decide_eq_false he] at hq
          have HX := Lib.hid (HN.out he)
          clear HY HN he
          go_wp2
          go_quiet (fail)
          go_wp2
          have bq : Below wr.heap.size wr (wr.drewN nq) := below_drewN (Below.refl _ _) _
          go_returns
          exact ⟨ret_int (by rw [HX.out]), hb.trans (bq.mono hs)⟩
      · obtain rfl : k = l.length := by omega
        have HX := Lib.hid (agree_stop (l.length) l m (by omega) (by omega) ht (fun h h' => absurd h (by omega)))
        clear ht
        go_wp2
        go_returns
        exact ⟨ret_int (by rw [HX.out]), hb⟩
end Go.Proofs.Ytlambflmabecfaa
