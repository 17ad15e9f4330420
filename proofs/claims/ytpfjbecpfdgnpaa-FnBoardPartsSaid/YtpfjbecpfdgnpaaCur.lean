/- The draws' cursor: what next, pick, one and among do to it. -/
import Derived.Laws.Bits64b
import Derived.Test.YtpfjbecpfdgnpaaList4
namespace Go.Proofs.Ytpfjbecpfdgnpaa
open Go.ChangeShapes Go.WideShapes Go.ChangeAt Go.RowKit Go.Joins Go.Deep
set_option linter.unusedSimpArgs false
set_option linter.unusedVariables false
set_option maxRecDepth 100000
set_option maxHeartbeats 1000000
/-- Bytes as words. -/
def bytesV (l : List Int) : List Value := l.map (fun x => .int .u8 x)
/-- Block p is a cursor that has drawn at most n bytes. -/
def Cr (w : World) (p n : Nat) : Prop := ∃ (A : Option Addr) (cap : Nat) (l : List Int) (k : Nat) (sd : Int), l.length ≤ 9223372036854775807 ∧ (∀ x, x ∈ l → 0 ≤ x ∧ x ≤ 255) ∧ k ≤ n ∧ 0 ≤ sd ∧ sd < 18446744073709551616 ∧ Rd w p A (bytesV l) ∧ Whole w p 83 [.slice A l.length cap, .int .i64 k, .int .u64 sd]
theorem Cr.lt {w : World} {p n : Nat} (h : Cr w p n) : p < w.heap.size := by
  obtain ⟨A, cap, l, k, sd, -, -, -, -, -, -, hw⟩ := h
  exact hw.lt
theorem Cr.mono {w : World} {p n m : Nat} (h : Cr w p n) (hm : n ≤ m) : Cr w p m := by
  obtain ⟨A, cap, l, k, sd, h1, h2, h3, h4, h5, h6, hw⟩ := h
  exact ⟨A, cap, l, k, sd, h1, h2, Nat.le_trans h3 hm, h4, h5, h6, hw⟩
/-- What turns elsewhere above the cursor leaves it. -/
theorem Cr.keep {w w' : World} {p n : Nat} {row : Option Nat} (h : Cr w p n) (hg : w.grownBy w' row) (hr : ∀ j, row = some j → p < j) : Cr w' p n := by
  have hlt := h.lt
  obtain ⟨A, cap, l, k, sd, h1, h2, h3, h4, h5, h6, hw⟩ := h
  have hb : Below (p + 1) w w' := ⟨hg.os, hg.tape, hg.output, hg.size, fun i hi => hg.block i (by omega) (fun e => by have := hr i e.symm; omega)⟩
  exact ⟨A, cap, l, k, sd, h1, h2, h3, h4, h5, h6.below (hb.mono (by omega)), (hb.block p (by omega)).trans hw⟩
theorem grown_below {w w' : World} {p B : Nat} (hg : w.grownBy w' (some p)) (hB : B ≤ p) (hs : B ≤ w.heap.size) : Below B w w' :=
  ⟨hg.os, hg.tape, hg.output, hg.size, fun i hi => hg.block i (by omega) (fun e => by cases e; omega)⟩
theorem below_grown {w w' : World} {row : Option Nat} (hb : Below w.heap.size w w') : w.grownBy w' row :=
  ⟨hb.os, hb.tape, hb.output, hb.size, fun i hi _ => hb.block i hi⟩
theorem grown_set {w w' : World} {p j : Nat} {u : Value} (h : w.grownBy w' (some p)) : w.grownBy (w'.setCell ⟨p, j, none⟩ u) (some p) := only_setCell h j u
theorem grown_drew {w w' : World} {row : Option Nat} (h : w.grownBy w' row) (n : Nat) : w.grownBy (w'.drewN n) row := h.trans (below_grown (below_drewN (Below.refl _ _) n))
/-- What is new above w may turn. -/
theorem grown_set_new {w w' : World} {row : Option Nat} {g j : Nat} {u : Value} (h : w.grownBy w' row) (hg : w.heap.size ≤ g) : w.grownBy (w'.setCell ⟨g, j, none⟩ u) row :=
  ⟨h.os, h.tape, h.output, by simpa [World.setCell] using h.size, fun i hi hne => (Below.heap_setCell w' ⟨g, j, none⟩ u i (fun e => by have e2 : i = g := e; omega)).trans (h.block i hi hne)⟩
theorem Own.grownC {w w' : World} {A : Option Addr} {t : TypeId} {xs : List Value} {p : Nat} (h : Own w A t xs) (hg : w.grownBy w' (some p)) (hne : ∀ a, A = some a → a.block ≠ p) : Own w' A t xs := fun hx => by
  obtain ⟨g, rest, e, hw⟩ := h hx
  exact ⟨g, rest, e, (hg.block g hw.lt (fun e' => by cases e'; exact hne _ e rfl)).trans hw⟩
theorem Whole.grownC {w w' : World} {g : Nat} {t : TypeId} {xs : List Value} {p : Nat} (h : Whole w g t xs) (hg : w.grownBy w' (some p)) (hne : g ≠ p) : Whole w' g t xs :=
  (hg.block g h.lt (fun e => by cases e; exact hne rfl)).trans h
theorem Whole.drew {w : World} {g : Nat} {t : TypeId} {xs : List Value} (h : Whole w g t xs) (n : Nat) : Whole (w.drewN n) g t xs := h.below (below_drewN (Below.refl _ _) n) h.lt
theorem wrap64_id {n : Int} (h : 0 ≤ n) (h' : n ≤ 255) : wrap64 n = n := by unfold wrap64; omega
theorem u64w (x : Int) : 0 ≤ IntKind.u64.wrap x ∧ IntKind.u64.wrap x < 18446744073709551616 := by rw [IntKind.wrap_u64]; omega
theorem and255 {x : Int} (h0 : 0 ≤ x) (h1 : x < 18446744073709551616) : 0 ≤ wrap64 (bits .and .u64 x 255) ∧ wrap64 (bits .and .u64 x 255) ≤ 255 := by
  obtain ⟨a, rfl⟩ := Int.eq_ofNat_of_zero_le h0
  rw [show (255 : Int) = ((255 : Nat) : Int) from rfl, bits_and_u64_nat _ _ (by omega) (by omega)]
  have := Nat.and_le_right (n := a) (m := 255)
  rw [wrap64_id (by omega) (by omega)]
  omega
theorem byte_at {w : World} {p : Nat} {A : Option Addr} {l : List Int} (h : Rd w p A (bytesV l)) {i : Nat} (hi : i < l.length) : ∃ b o, A = some ⟨b, o, none⟩ ∧ b < p ∧ w.cell? ⟨b, o + i, none⟩ = some (.int .u8 l[i]) := by
  obtain ⟨b, o, e, hlt, hc⟩ := h (by rw [bytesV, List.length_map]; omega)
  exact ⟨b, o, e, hlt, hc i _ (by rw [bytesV, List.getElem?_map, List.getElem?_eq_getElem hi]; rfl)⟩
theorem next_any (p n : Nat) (w : World) (h : Cr w p n) (hn : n ≤ 1048576) :
    Calls Try.prog 113 #[.pointer (some ⟨p, 0, none⟩)] w fun e w' => ∃ x : Int, e = .returned (.int .i64 x) ∧ 0 ≤ x ∧ x ≤ 255 ∧ Cr w' p (n + 1) ∧ w.grownBy w' (some p) := by
  obtain ⟨A, cap, l, k, sd, h1, h2, h3, h4, h5, h6, hw⟩ := h
  have HN := Lib.hid h3
  have HR := Lib.hid h6
  have H2 := Lib.hid h2
  clear h3 h6 h2
  have k0 : w.cell? ⟨p, 0, none⟩ = some (.slice A l.length cap) := (hw.cell 0).trans rfl
  have k1 : w.cell? ⟨p, 1, none⟩ = some (.int .i64 k) := (hw.cell 1).trans rfl
  have k2 : w.cell? ⟨p, 2, none⟩ = some (.int .u64 sd) := (hw.cell 2).trans rfl
  have f1 := hw.frozen 1
  have f2 := hw.frozen 2
  have hk : k ≤ 1048576 := Nat.le_trans HN.out hn
  go_enter Try.func113, Try.ntmps113
  by_cases hlt : k < l.length
  · obtain ⟨b, o, rfl, hb, hc⟩ := byte_at HR.out hlt
    have hi : (k : Int) < (l.length : Int) := by omega
    have hle : (k : Int) + 1 ≤ (l.length : Int) := by omega
    have hx := H2.out _ (List.getElem_mem hlt)
    have hwx : wrap64 l[k] = l[k] := wrap64_id (by omega) (by omega)
    go_wp2
    go_quiet (fail)
    go_wp2
    go_quiet (fail)
    go_wp2
    go_quiet (fail)
    go_wp2
    go_returns
    refine ⟨_, rfl, hx.1, hx.2, ⟨_, cap, l, k + 1, _, h1, H2.out, by have := HN.out; omega, (u64w _).1, (u64w _).2, HR.out.below (by (repeat' (first | (with_reducible exact Below.refl _ _) | (with_reducible assumption) | (with_reducible refine Below.alloc ?_ ?_ _) | (with_reducible refine Below.setCell ?_ ?_ _) | (with_reducible refine Below.drew ?_) | (with_reducible refine below_drewN ?_ _) | (with_reducible refine Below.trans ?_ (Below.mono (by assumption) ?_)) | (with_reducible exact Nat.le_refl _) | (simp; done) | omega | (simp at *; omega)))), (((hw.drew _).set 1 _).set 2 _).drew _⟩, grown_drew (grown_set (grown_set (grown_drew (World.grownBy.refl w _) _)) ) _⟩
  · have hi : decide ((k : Int) < (l.length : Int)) = false := by simp; omega
    have hle : decide ((k : Int) + 1 ≤ (l.length : Int)) = false := by simp; omega
    go_wp2
    go_quiet (fail)
    go_wp2
    go_quiet (fail)
    go_wp2
    go_returns
    refine ⟨_, rfl, (and255 (Int.ediv_nonneg (u64w _).1 (by decide)) (by have := (u64w (IntKind.u64.wrap (IntKind.u64.wrap (sd * 6364136223846793005)) + 1442695040888963407)).2; omega)).1, (and255 (Int.ediv_nonneg (u64w _).1 (by decide)) (by have := (u64w (IntKind.u64.wrap (IntKind.u64.wrap (sd * 6364136223846793005)) + 1442695040888963407)).2; omega)).2, ⟨_, cap, l, k + 1, _, h1, H2.out, by have := HN.out; omega, (u64w _).1, (u64w _).2, HR.out.below (by (repeat' (first | (with_reducible exact Below.refl _ _) | (with_reducible assumption) | (with_reducible refine Below.alloc ?_ ?_ _) | (with_reducible refine Below.setCell ?_ ?_ _) | (with_reducible refine Below.drew ?_) | (with_reducible refine below_drewN ?_ _) | (with_reducible refine Below.trans ?_ (Below.mono (by assumption) ?_)) | (with_reducible exact Nat.le_refl _) | (simp; done) | omega | (simp at *; omega)))), (((hw.drew _).set 1 _).set 2 _).drew _⟩, grown_drew (grown_set (grown_set (grown_drew (World.grownBy.refl w _) _)) ) _⟩
theorem pick_any (p n : Nat) (m : Int) (w : World) (h : Cr w p n) (hn : n ≤ 1000000) (hm : 1 ≤ m) (hM : m ≤ 1048576) :
    Calls Try.prog 75 #[.pointer (some ⟨p, 0, none⟩), .int .i64 m] w fun e w' => ∃ x : Int, e = .returned (.int .i64 x) ∧ 0 ≤ x ∧ x < m ∧ Cr w' p (n + 2) ∧ w.grownBy w' (some p) := by
  go_enter Try.func75, Try.ntmps75
  by_cases h1 : m ≤ 1
  · go_wp2
    go_returns
    exact ⟨0, rfl, by omega, by omega, h.mono (by omega), World.grownBy.refl w _⟩
  · go_wp2_with fail; refine (next_any p n _ h (by omega)).mono ?_; rintro e w1 ⟨x, rfl, x0, x1, c1, g1⟩
    by_cases h2 : 200 < m
    · go_wp2_with fail; refine (next_any p (n + 1) _ c1 (by omega)).mono ?_; rintro e w2 ⟨y, rfl, y0, y1, c2, g2⟩
      go_wp2
      go_returns
      exact ⟨_, rfl, Int.emod_nonneg _ (by omega), Int.emod_lt_of_pos _ (by omega), c2, g1.trans g2⟩
    · go_wp2
      go_returns
      exact ⟨_, rfl, Int.emod_nonneg _ (by omega), Int.emod_lt_of_pos _ (by omega), c1.mono (by omega), g1⟩
theorem one_any (p n : Nat) (m : Int) (w : World) (h : Cr w p n) (hn : n ≤ 1000000) (hm : 1 ≤ m) (hM : m ≤ 1048576) :
    Calls Try.prog 76 #[.pointer (some ⟨p, 0, none⟩), .int .i64 m] w fun e w' => ∃ b : Bool, e = .returned (.bool b) ∧ Cr w' p (n + 2) ∧ w.grownBy w' (some p) := by
  go_enter Try.func76, Try.ntmps76
  go_wp2_with fail; refine (pick_any p n m _ h hn hm hM).mono ?_; rintro e w1 ⟨x, rfl, x0, x1, c1, g1⟩
  go_wp2
  go_returns
  exact ⟨_, rfl, c1, g1⟩
theorem among_any (p n : Nat) (A : Option Addr) (cap : Nat) (l : List Int) (w : World) (h : Cr w p n) (hn : n ≤ 1000000) (hl : 1 ≤ l.length) (hL : l.length ≤ 1048576) (hr : Rd w w.heap.size A (ints l)) (hne : ∀ a, A = some a → a.block ≠ p) :
    Calls Try.prog 88 #[.pointer (some ⟨p, 0, none⟩), .slice A l.length cap] w fun e w' => ∃ x : Int, e = .returned (.int .i64 x) ∧ x ∈ l ∧ Cr w' p (n + 2) ∧ w.grownBy w' (some p) := by
  obtain ⟨b, o, rfl, hb, hc⟩ := hr (by rw [ints_length]; omega)
  have hbp := hne _ rfl
  go_enter Try.func88, Try.ntmps88
  go_wp2_with fail; refine (pick_any p n l.length _ h hn (by omega) (by omega)).mono ?_; rintro e w1 ⟨x, rfl, x0, x1, c1, g1⟩
  obtain ⟨k, rfl⟩ := Int.eq_ofNat_of_zero_le x0
  have hk : k < l.length := by omega
  have k0 : w1.cell? ⟨b, o + k, none⟩ = some (.int .i64 l[k]) := by
    exact g1.cell (hc k _ (ints_at l k hk)) (by simpa using hbp)
  go_wp2
  go_returns
  exact ⟨_, rfl, List.getElem_mem hk, c1, g1⟩
