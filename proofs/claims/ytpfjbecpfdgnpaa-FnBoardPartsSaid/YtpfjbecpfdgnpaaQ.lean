/- The laws' own comparisons of lists. -/
import Derived.BigQuiet
import Derived.Test.YtpfjbecpfdgnpaaList4
namespace Go.Proofs.Ytpfjbecpfdgnpaa
open Go.ChangeShapes Go.WideShapes Go.ChangeAt Go.RowKit Go.Joins Go.Deep
set_option linter.unusedSimpArgs false
set_option linter.unusedVariables false
set_option maxRecDepth 100000
set_option maxHeartbeats 1000000
theorem qInts_any (A A' : Option Addr) (cap cap' : Nat) (l m : List Int) (w : World) (hn : l.length ≤ 1048576) (hm : m.length ≤ 1048576) (hr : Rd w w.heap.size A (ints l)) (hr' : Rd w w.heap.size A' (ints m)) :
    Calls Try.prog 33 #[.slice A l.length cap, .slice A' m.length cap'] w fun e w' => e = .returned (.bool (decide (l = m))) ∧ Below w.heap.size w w' := by
  by_cases hlm : l.length = m.length
  · have hlb : ((l.length : Int) != (m.length : Int)) = false := by simp [hlm]
    rw [← hlm] at hlb ⊢
    have HL := Lib.hid hlm
    clear hlm
    go_enter Try.func33, Try.ntmps33
    go_wp2
    go_loopw [13, 5] (fun i _ wr => ∃ k : Nat, k ≤ l.length ∧ i = .int .i64 k ∧ l.take k = m.take k ∧ Below w.heap.size w wr) (fun i _ _ => l.length - (intOf i).toNat)
    case atStart => exact ⟨0, Nat.zero_le _, rfl, rfl, by (repeat' (first | (with_reducible exact Below.refl _ _) | (with_reducible assumption) | (with_reducible refine Below.alloc ?_ ?_ _) | (with_reducible refine Below.setCell ?_ ?_ _) | (with_reducible refine Below.drew ?_) | (with_reducible refine below_drewN ?_ _) | (with_reducible refine Below.trans ?_ (Below.mono (by assumption) ?_)) | (with_reducible exact Nat.le_refl _) | (simp; done) | omega | (simp at *; omega)))⟩
    case round =>
      obtain ⟨k, hk, rfl, heq, hb⟩ := hrel
      by_cases hlt : k < l.length
      · obtain ⟨b, o, rfl, hbl, hc⟩ := hr (by rw [ints_length]; omega)
        obtain ⟨b', o', rfl, hbl', hc'⟩ := hr' (by have := HL.out; rw [ints_length]; omega)
        have hltm : k < m.length := by have := HL.out; omega
        have hc0 : wr.cell? ⟨b, o + k, none⟩ = some (.int .i64 l[k]) := (hb.cell (p := ⟨b, _, none⟩) hbl).trans (hc _ _ (ints_at l k hlt))
        have hd0 : wr.cell? ⟨b', o' + k, none⟩ = some (.int .i64 m[k]) := (hb.cell (p := ⟨b', _, none⟩) hbl').trans (hc' _ _ (ints_at m k hltm))
        clear hr hr' hc hc'
        have HT := Lib.hid (take_step1 hlt hltm heq)
        have HN := Lib.hid (fun (h : l = m) => (show l[k] = m[k] by subst h; rfl))
        clear heq
        generalize l[k] = x at *
        generalize m[k] = x' at *
        by_cases hxy : x = x'
        · subst hxy
          go_wp2
          go_quiet (fail)
          go_wp2
          go_roundw
          case rel => exact ⟨k + 1, by omega, by go_num, HT.out trivial, by (repeat' (first | (with_reducible exact Below.refl _ _) | (with_reducible assumption) | (with_reducible refine Below.alloc ?_ ?_ _) | (with_reducible refine Below.setCell ?_ ?_ _) | (with_reducible refine Below.drew ?_) | (with_reducible refine below_drewN ?_ _) | (with_reducible refine Below.trans ?_ (Below.mono (by assumption) ?_)) | (with_reducible exact Nat.le_refl _) | (simp; done) | omega | (simp at *; omega)))⟩
          case measure => simp [intOf]; omega
        · have hxb : (x != x') = true := by simpa using hxy
          have HX := Lib.hid hxy
          clear hxy
          go_wp2
          go_quiet (fail)
          go_wp2
          go_returns
          exact ⟨ret_bool (decide_eq_false (fun h => HX.out (HN.out h))).symm, by (repeat' (first | (with_reducible exact Below.refl _ _) | (with_reducible assumption) | (with_reducible refine Below.alloc ?_ ?_ _) | (with_reducible refine Below.setCell ?_ ?_ _) | (with_reducible refine Below.drew ?_) | (with_reducible refine below_drewN ?_ _) | (with_reducible refine Below.trans ?_ (Below.mono (by assumption) ?_)) | (with_reducible exact Nat.le_refl _) | (simp; done) | omega | (simp at *; omega)))⟩
      · obtain rfl : k = l.length := by omega
        rw [List.take_length, HL.out, List.take_length] at heq
        have HQ := Lib.hid heq
        clear heq
        go_wp2
        go_returns
        exact ⟨ret_bool (decide_eq_true HQ.out).symm, hb⟩
  · have hlb : ((l.length : Int) != (m.length : Int)) = true := by simp; omega
    go_enter Try.func33, Try.ntmps33
    go_wp2
    go_returns
    exact ⟨ret_bool (by simp; intro h; exact hlm (by rw [h])), by (repeat' (first | (with_reducible exact Below.refl _ _) | (with_reducible assumption) | (with_reducible refine Below.alloc ?_ ?_ _) | (with_reducible refine Below.setCell ?_ ?_ _) | (with_reducible refine Below.drew ?_) | (with_reducible refine below_drewN ?_ _) | (with_reducible refine Below.trans ?_ (Below.mono (by assumption) ?_)) | (with_reducible exact Nat.le_refl _) | (simp; done) | omega | (simp at *; omega)))⟩
theorem qHas_any (A : Option Addr) (cap : Nat) (l : List Int) (n : Int) (w : World) (hn : l.length ≤ 1048576) (hr : Rd w w.heap.size A (ints l)) :
    Calls Try.prog 34 #[.slice A l.length cap, .int .i64 n] w fun e w' => e = .returned (.bool (decide (n ∈ l))) ∧ w' = w := by
  go_enter Try.func34, Try.ntmps34
  go_wp2
  go_loopw [9, 6] (fun i _ wr => ∃ k : Nat, k ≤ l.length ∧ i = .int .i64 k ∧ (n ∉ l.take k) ∧ wr = w) (fun i _ _ => l.length - (intOf i).toNat)
  case atStart => exact ⟨0, Nat.zero_le _, rfl, by simp, rfl⟩
  case round =>
    obtain ⟨k, hk, rfl, hno, rfl⟩ := hrel
    by_cases hlt : k < l.length
    · obtain ⟨b, o, rfl, hbl, hc⟩ := hr (by rw [ints_length]; omega)
      have hc0 := hc _ _ (ints_at l k hlt)
      clear hc hr
      have HI := Lib.hid (List.getElem_mem hlt)
      have HS := Lib.hid (List.take_succ_eq_append_getElem hlt)
      generalize l[k] = x at *
      by_cases hx : x = n
      · subst hx
        go_wp2
        go_returns
        exact ⟨ret_bool (by simp [HI.out]), rfl⟩
      · have HX := Lib.hid hx
        go_wp2
        go_roundw
        case rel => exact ⟨k + 1, by omega, by go_num, by rw [HS.out]; simp [hno]; exact fun e => HX.out e.symm, trivial⟩
        case measure => simp [intOf]; omega
    · obtain rfl : k = l.length := by omega
      rw [List.take_length] at hno
      have HO := Lib.hid hno
      clear hno
      go_wp2
      go_returns
      exact ⟨ret_bool (by simp [HO.out]), rfl⟩
end Go.Proofs.Ytpfjbecpfdgnpaa
