/- The program's search for the cell with a letter. -/
import Derived.Test.YtdcaohmcidmigaaRead
namespace Go.Proofs.Ytdcaohmcidmigaa
open Go.ChangeShapes Go.WideShapes Go.ChangeAt Go.RowKit Go.Joins Go.Deep
set_option linter.unusedSimpArgs false
set_option linter.unusedVariables false
set_option maxRecDepth 100000
set_option maxHeartbeats 400000
def isR (r : Int) (c : Int × Int) : Bool := ((letB c.1 c.2).toNat : Int) == r
def rrC (r : Int) : Option (Int × Int) := (allTo 8).find? (isR r)
def rrK (r : Int) : Int := ((rrC r).getD (0, 0)).1
def rrS (r : Int) : Int := ((rrC r).getD (0, 0)).2
theorem good_mem : ∀ a b : Int, good a b = true → (a, b) ∈ allTo 8 := fun a b h =>
  good_cases (P := fun a b => (a, b) ∈ allTo 8) (by decide +kernel) (by decide +kernel) (by decide +kernel) (by decide +kernel) (by decide +kernel) (by decide +kernel) (by decide +kernel) (by decide +kernel) (by decide +kernel) (by decide +kernel) a b h
theorem let_inj : ∀ c ∈ allTo 8, ∀ d ∈ allTo 8, letB c.1 c.2 = letB d.1 d.2 → c = d := by decide +kernel
theorem rr_hit {a b r : Int} (hg : good a b = true) (hr : ((letB a b).toNat : Int) = r) : rrC r = some (a, b) := by
  have hm := good_mem a b hg
  cases hf : rrC r with
  | none =>
    have := List.find?_eq_none.1 hf _ hm
    simp [isR, hr] at this
  | some d =>
    have h1 := List.find?_some hf
    have h2 := List.mem_of_find?_eq_some hf
    simp only [isR, beq_iff_eq] at h1
    have h3 : letB d.1 d.2 = letB a b := UInt8.toNat_inj.1 (by omega)
    rw [let_inj d h2 (a, b) hm h3]
/-- No valid cell ahead of number m (kind by kind, state by state) has the letter r. -/
def NoneTo (r : Int) (m : Nat) : Prop := ∀ a b : Nat, b < 2 → 2 * a + b < m → good a b = true → ((letB a b).toNat : Int) ≠ r
theorem noneTo_zero (r : Int) : NoneTo r 0 := fun a b _ h => absurd h (by omega)
theorem noneTo_succ {r : Int} {k j : Nat} (hj : j < 2) (h : NoneTo r (2 * k + j)) (hn : good k j = true → ((letB k j).toNat : Int) ≠ r) : NoneTo r (2 * k + (j + 1)) := fun a b hb hlt hg => by
  by_cases e : 2 * a + b < 2 * k + j
  · exact h a b hb e hg
  · obtain ⟨rfl, rfl⟩ : a = k ∧ b = j := by omega
    exact hn hg
theorem rr_miss {r : Int} (h : NoneTo r 16) : rrC r = none := by
  unfold rrC
  rw [List.find?_eq_none]
  intro c hc
  have hg := allTo_good c hc
  have h1 : 0 ≤ c.1 ∧ c.1 ≤ 7 ∧ 0 ≤ c.2 ∧ c.2 ≤ 1 := by unfold good at hg; simp at hg; omega
  have := h c.1.toNat c.2.toNat (by omega) (by omega) (by rw [Int.toNat_of_nonneg h1.1, Int.toNat_of_nonneg h1.2.2.1]; exact hg)
  rw [Int.toNat_of_nonneg h1.1, Int.toNat_of_nonneg h1.2.2.1] at this
  simp [isR, this]
theorem impl_cellWith (r : Int) (w : World) :
    Calls Try.prog 41 #[.int .i32 r] w fun e w' => e = .returned (.tuple #[.agg #[.int .i64 (rrK r), .int .i64 (rrS r)], .bool (rrC r).isSome]) ∧ Below w.heap.size w w' := by
  go_enter Try.func41, Try.ntmps41
  go_wp2
  have q0 : (w.alloc (.cells #[.int .i64 0, .int .i64 0] 45)).cell? ⟨w.heap.size, 0, none⟩ = some (.int .i64 0) := (cell_of_row _ _ 0 _ _ _ (heap_alloc_new w _)).trans rfl
  have q1 : (w.alloc (.cells #[.int .i64 0, .int .i64 0] 45)).cell? ⟨w.heap.size, 1, none⟩ = some (.int .i64 0) := (cell_of_row _ _ 1 _ _ _ (heap_alloc_new w _)).trans rfl
  have qf := frozen_new w #[.int .i64 0, .int .i64 0] 45
  have hb0 : Below w.heap.size w (w.alloc (.cells #[.int .i64 0, .int .i64 0] 45)) := (Below.refl _ _).alloc (Nat.le_refl _) _
  have hz0 : (w.alloc (.cells #[.int .i64 0, .int .i64 0] 45)).heap.size = w.heap.size + 1 := by simp
  have HZ := Lib.hid hz0
  clear hz0
  generalize w.alloc (.cells #[.int .i64 0, .int .i64 0] 45) = wl at *
  have zl : w.heap.size < wl.heap.size := by have := HZ.out; omega
  go_loopw [7] (fun i wr => ∃ k : Nat, k ≤ 8 ∧ i = .int .i64 k ∧ NoneTo r (2 * k) ∧ Below wl.heap.size wl wr) (fun i _ => 8 - (intOf i).toNat)
  case atStart => exact ⟨0, Nat.zero_le _, rfl, noneTo_zero r, Below.refl _ _⟩
  case round =>
    obtain ⟨k, hk, rfl, hno, hb⟩ := hrel
    by_cases hlt : k < 8
    · have hk8 : decide ((k : Int) < 8) = true := by simp; omega
      go_wp2
      go_loopw [10] (fun i wq => ∃ j : Nat, j ≤ 2 ∧ i = .int .i64 j ∧ NoneTo r (2 * k + j) ∧ Below wl.heap.size wl wq) (fun i _ => 2 - (intOf i).toNat)
      case atStart => exact ⟨0, Nat.zero_le _, rfl, hno, hb⟩
      case round =>
        obtain ⟨j, hj, rfl, hno2, hb2⟩ := hrel
        by_cases hlj : j < 2
        · have hs := hb2.size
          have x0 := (cell_of_row _ _ 0 _ _ _ (heap_alloc_new wr (.cells #[.int .i64 (k : Int), .int .i64 (j : Int)] 45)))
          have x1 := (cell_of_row _ _ 1 _ _ _ (heap_alloc_new wr (.cells #[.int .i64 (k : Int), .int .i64 (j : Int)] 45)))
          have v0 : wr.cell? ⟨w.heap.size, 0, none⟩ = some (.int .i64 0) := (hb2.cell (p := ⟨_, 0, none⟩) zl).trans q0
          have v1 : wr.cell? ⟨w.heap.size, 1, none⟩ = some (.int .i64 0) := (hb2.cell (p := ⟨_, 1, none⟩) zl).trans q1
          have vf : ∀ o, wr.frozen? ⟨w.heap.size, o, none⟩ = false := fun o => (hb2.frozen (p := ⟨_, o, none⟩) zl).trans (qf o)
          have zr : w.heap.size < wr.heap.size := by omega
          have HX0 := Lib.hid x0
          have HX1 := Lib.hid x1
          clear x0 x1
          go_wp2_with fail
          rcases Bool.eq_false_or_eq_true (good (k : Int) (j : Int)) with hg | hg
          · refine (impl_IsCell _ _ _).mono ?_; rintro e w1 ⟨rfl, b1⟩
            rw [hg]
            have z1 : wr.heap.size < w1.heap.size := by have := b1.size; simp at this; omega
            have y0 : w1.cell? ⟨wr.heap.size, 0, none⟩ = some (.int .i64 (k : Int)) := (b1.cell (p := ⟨_, 0, none⟩) (by simp)).trans HX0.out
            have y1 : w1.cell? ⟨wr.heap.size, 1, none⟩ = some (.int .i64 (j : Int)) := (b1.cell (p := ⟨_, 1, none⟩) (by simp)).trans HX1.out
            have v0 : w1.cell? ⟨w.heap.size, 0, none⟩ = some (.int .i64 0) := (b1.cell (p := ⟨_, 0, none⟩) (by simp; omega)).trans ((World.cell?_alloc_lt _ _ _ zr).trans v0)
            have v1 : w1.cell? ⟨w.heap.size, 1, none⟩ = some (.int .i64 0) := (b1.cell (p := ⟨_, 1, none⟩) (by simp; omega)).trans ((World.cell?_alloc_lt _ _ _ zr).trans v1)
            have vf : ∀ o, w1.frozen? ⟨w.heap.size, o, none⟩ = false := fun o => (b1.frozen (p := ⟨_, o, none⟩) (by simp; omega)).trans ((World.frozen?_alloc_old _ _ _ (by simp; omega)).trans (vf o))
            have hb3 : Below wl.heap.size wl w1 := (hb2.alloc hs _).trans (b1.mono (by simp; omega))
            have HG := Lib.hid hg
            clear hg b1
            go_wp2_with fail
            by_cases hr : ((letB (k : Int) (j : Int)).toNat : Int) = r
            · refine (impl_letterOf _ _ HG.out _).mono ?_; rintro e w2 ⟨rfl, b2⟩
              have HH := Lib.hid (rr_hit HG.out hr)
              have hrb : (((letB (k : Int) (j : Int)).toNat : Int) == r) = true := by simpa using hr
              clear hr
              have z2 : wr.heap.size < w2.heap.size := Nat.lt_of_lt_of_le z1 b2.size
              have y0 : w2.cell? ⟨wr.heap.size, 0, none⟩ = some (.int .i64 (k : Int)) := (b2.cell (p := ⟨_, 0, none⟩) z1).trans y0
              have y1 : w2.cell? ⟨wr.heap.size, 1, none⟩ = some (.int .i64 (j : Int)) := (b2.cell (p := ⟨_, 1, none⟩) z1).trans y1
              have v0 : w2.cell? ⟨w.heap.size, 0, none⟩ = some (.int .i64 0) := (b2.cell (p := ⟨_, 0, none⟩) (by simp; omega)).trans v0
              have v1 : w2.cell? ⟨w.heap.size, 1, none⟩ = some (.int .i64 0) := (b2.cell (p := ⟨_, 1, none⟩) (by simp; omega)).trans v1
              have vf : ∀ o, w2.frozen? ⟨w.heap.size, o, none⟩ = false := fun o => (b2.frozen (p := ⟨_, o, none⟩) (by simp; omega)).trans (vf o)
              have hb4 : Below w.heap.size w w2 := hb0.trans ((hb3.mono (Nat.le_of_lt zl)).trans (b2.mono (by omega)))
              clear b2 hb3 hb2 hb hb0
              go_wp2
              refine bodyPost_ret (v := .tuple #[.agg #[.int .i64 (k : Int), .int .i64 (j : Int)], .bool true]) ?_ rfl ?_; (focus (simp [results, Try.results41, go_sem, *]; done))
              refine ⟨ret_eq ?_, by (repeat' (first | (with_reducible exact Below.refl _ _) | (with_reducible assumption) | (with_reducible refine Below.alloc ?_ ?_ _) | (with_reducible refine Below.setCell ?_ ?_ _) | (with_reducible refine Below.drew ?_) | (with_reducible refine below_drewN ?_ _) | (with_reducible refine Below.trans ?_ (Below.mono (by assumption) ?_)) | (with_reducible exact Nat.le_refl _) | (simp; done) | omega | (simp at *; omega)))⟩
              have := HH.out
              simp [rrK, rrS, this]
            · refine (impl_letterOf _ _ HG.out _).mono ?_; rintro e w2 ⟨rfl, b2⟩
              have hrb : (((letB (k : Int) (j : Int)).toNat : Int) == r) = false := by simpa using hr
              have HR := Lib.hid hr
              clear hr
              go_wp2
              go_roundw
              case rel => exact ⟨j + 1, by omega, by go_num, noneTo_succ hlj hno2 (fun _ => HR.out), hb3.trans (b2.mono (by omega))⟩
              case measure => simp [intOf]; omega
          · refine (impl_IsCell _ _ _).mono ?_; rintro e w1 ⟨rfl, b1⟩
            rw [hg]
            have HG := Lib.hid hg
            clear hg
            go_wp2
            go_roundw
            case rel => exact ⟨j + 1, by omega, by go_num, noneTo_succ hlj hno2 (fun h => by rw [HG.out] at h; cases h), (hb2.alloc hs _).trans (b1.mono (by simp; omega))⟩
            case measure => simp [intOf]; omega
        · obtain rfl : j = 2 := by omega
          go_wp2
          go_roundw
          case rel => exact ⟨k + 1, by omega, by go_num, hno2, hb2⟩
          case measure => simp [intOf]; omega
    · obtain rfl : k = 8 := by omega
      have HF := Lib.hid (rr_miss hno)
      have v0 : wr.cell? ⟨w.heap.size, 0, none⟩ = some (.int .i64 0) := (hb.cell (p := ⟨_, 0, none⟩) zl).trans q0
      have v1 : wr.cell? ⟨w.heap.size, 1, none⟩ = some (.int .i64 0) := (hb.cell (p := ⟨_, 1, none⟩) zl).trans q1
      have vf : ∀ o, wr.frozen? ⟨w.heap.size, o, none⟩ = false := fun o => (hb.frozen (p := ⟨_, o, none⟩) zl).trans (qf o)
      have hb4 : Below w.heap.size w wr := hb0.trans (hb.mono (Nat.le_of_lt zl))
      clear hb hb0 q0 q1 qf
      go_wp2
      refine bodyPost_ret (v := .tuple #[.agg #[.int .i64 0, .int .i64 0], .bool false]) ?_ rfl ?_; (focus (simp [results, Try.results41, go_sem, *]; done))
      refine ⟨ret_eq ?_, by (repeat' (first | (with_reducible exact Below.refl _ _) | (with_reducible assumption) | (with_reducible refine Below.alloc ?_ ?_ _) | (with_reducible refine Below.setCell ?_ ?_ _) | (with_reducible refine Below.drew ?_) | (with_reducible refine below_drewN ?_ _) | (with_reducible refine Below.trans ?_ (Below.mono (by assumption) ?_)) | (with_reducible exact Nat.le_refl _) | (simp; done) | omega | (simp at *; omega)))⟩
      have := HF.out
      simp [rrK, rrS, this]
end Go.Proofs.Ytdcaohmcidmigaa
