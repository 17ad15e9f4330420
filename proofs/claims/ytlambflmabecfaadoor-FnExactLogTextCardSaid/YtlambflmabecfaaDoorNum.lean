/- l1Num: the model's, below a hundred. -/
import Derived.Deep.RegionWith
import Derived.Lib.ItoaNum
import Derived.Laws.IdiomStrings
import Derived.Test.YtlambflmabecfaaDoorNewB
import Derived.Test.YtlambflmabecfaaDoorBText
namespace Go.Proofs.YtlambflmabecfaaDoor
open Go.ChangeShapes Go.WideShapes Go.ChangeAt Go.RowKit Go.Joins Go.Deep
set_option linter.unusedSimpArgs false
set_option linter.unusedVariables false
set_option maxRecDepth 100000
set_option maxHeartbeats 2000000
theorem conv_at (w : World) (g n : Nat) (h : n ≤ 9) (hw : w.cell? ⟨g, 0, none⟩ = some (.int .u8 (48 + (n : Int)))) :
    (convert 45 9 (.slice (some ⟨g, 0, none⟩) 1 1)).run Tryd.prog w = .ok (.string ⟨#[UInt8.ofNat (48 + n)]⟩) w := by
  refine run_convert_bytes_back w _ _ 5 ⟨g, 0, none⟩ 1 [UInt8.ofNat (48 + n)] Tryd.underlying45 Tryd.underlying5 Tryd.underlying9 (fun j hj => ?_)
  have hj0 : j = 0 := by simpa using hj
  subst hj0
  rw [add_plain, Nat.zero_add, hw]
  have e : (UInt8.ofNat (48 + n)).toNat = 48 + n := by
    rw [UInt8.toNat_ofNat']
    omega
  show some (Value.int .u8 (48 + (n : Int))) = some (Value.int .u8 (((UInt8.ofNat (48 + n)).toNat : Nat) : Int))
  rw [e]
  push_cast
  rfl
theorem conv_one (w : World) (n : Nat) (h : n ≤ 9) :
    (convert 45 9 (.slice (some ⟨w.heap.size, 0, none⟩) 1 1)).run Tryd.prog (w.alloc (.cells #[.int .u8 (48 + (n : Int))] 5)) = .ok (.string ⟨#[UInt8.ofNat (48 + n)]⟩) (w.alloc (.cells #[.int .u8 (48 + (n : Int))] 5)) := by
  have hw : Whole (w.alloc (.cells #[.int .u8 (48 + (n : Int))] 5)) w.heap.size 5 [.int .u8 (48 + (n : Int))] := heap_alloc_new w _
  exact conv_at _ _ n h ((hw.cell 0).trans rfl)
theorem conv_drew (w : World) (n : Nat) (h : n ≤ 9) :
    (convert 45 9 (.slice (some ⟨w.heap.size, 0, none⟩) 1 1)).run Tryd.prog (w.alloc (.cells #[.int .u8 (48 + (n : Int))] 5)).drew = .ok (.string ⟨#[UInt8.ofNat (48 + n)]⟩) (w.alloc (.cells #[.int .u8 (48 + (n : Int))] 5)).drew := by
  have hw : Whole (w.alloc (.cells #[.int .u8 (48 + (n : Int))] 5)) w.heap.size 5 [.int .u8 (48 + (n : Int))] := heap_alloc_new w _
  exact conv_at _ _ n h ((hw.cell 0).trans rfl)
theorem newB_cell {w w1 : World} {t : TypeId} {x : Value} (b : Below (w.alloc (.cells #[x] t)).heap.size (w.alloc (.cells #[x] t)) w1) : w1.cell? ⟨w.heap.size, 0, none⟩ = some x := by
  have h : Whole w1 w.heap.size t [x] := Whole.below (heap_alloc_new w _) b (by rw [World.size_alloc]; omega)
  exact (h.cell 0).trans rfl
theorem newD_cell {w w1 : World} {t : TypeId} {x : Value} (b : Below (w.alloc (.cells #[x] t)).drew.heap.size (w.alloc (.cells #[x] t)).drew w1) : w1.cell? ⟨w.heap.size, 0, none⟩ = some x := by
  have h : Whole w1 w.heap.size t [x] := newD (xs := [x]) b
  exact (h.cell 0).trans rfl
theorem spec_l1Num1 (n : Nat) (w : World) (hn : n < 10) :
    Calls Tryd.prog 31 #[.int .i64 (n : Int)] w fun e w' => e = .returned (.string ⟨(Lib.decDigits n).toArray⟩) ∧ Below w.heap.size w w' := by
  rw [Lib.decDigits_one hn]
  have m1 : IntKind.i64.wrap (48 + (n : Int)) = 48 + (n : Int) := IntWalk.i64_in _ (by omega)
  have m2 : IntKind.u8.wrap (48 + (n : Int)) = 48 + (n : Int) := by
    show (48 + (n : Int)) % 256 = _
    omega
  have hcv := fun w => conv_one w n (by omega)
  generalize UInt8.ofNat (48 + n) = b8 at *
  go_enter Tryd.func31, Tryd.ntmps31
  go_wp2
  go_returns
  exact ⟨rfl, by (repeat' (first | (with_reducible exact Below.refl _ _) | (with_reducible assumption) | (with_reducible refine Below.alloc ?_ ?_ _) | (with_reducible refine Below.setCell ?_ ?_ _) | (with_reducible refine Below.drew ?_) | (with_reducible refine below_drewN ?_ _) | (with_reducible refine Below.trans ?_ (Below.mono (by assumption) ?_)) | (with_reducible exact Nat.le_refl _) | (simp; done) | omega | (simp at *; omega)))⟩
theorem spec_l1Num2 (n : Nat) (w : World) (h10 : ¬ n < 10) (hn : n < 100) :
    Calls Tryd.prog 31 #[.int .i64 (n : Int)] w fun e w' => e = .returned (.string ⟨(Lib.decDigits n).toArray⟩) ∧ Below w.heap.size w w' := by
  have hD : Lib.decDigits n = Lib.decDigits (n / 10) ++ [UInt8.ofNat (48 + n % 10)] := by rw [Lib.decDigits_two h10 hn, Lib.decDigits_one (by omega)]; rfl
  obtain ⟨q, hq⟩ : ∃ q, n / 10 = q := ⟨_, rfl⟩
  obtain ⟨r, hr⟩ : ∃ r, n % 10 = r := ⟨_, rfl⟩
  rw [hq, hr] at hD
  have hq' : (n : Int).tdiv 10 = (q : Int) := by rw [Int.tdiv_eq_ediv_of_nonneg (by omega)]; omega
  have hr' : (n : Int).tmod 10 = (r : Int) := by rw [Int.tmod_eq_emod_of_nonneg (by omega)]; omega
  have hq1 : q < 10 := by omega
  have hr1 : r < 10 := by omega
  have m1 : IntKind.i64.wrap (48 + (r : Int)) = 48 + (r : Int) := IntWalk.i64_in _ (by omega)
  have m2 : IntKind.u8.wrap (48 + (r : Int)) = 48 + (r : Int) := by
    show (48 + (r : Int)) % 256 = _
    omega
  have m3 : IntKind.i64.wrap (q : Int) = (q : Int) := IntWalk.i64_in _ (by omega)
  have m4 : IntKind.i64.wrap (r : Int) = (r : Int) := IntWalk.i64_in _ (by omega)
  have hcv := fun w => conv_one w r (by omega)
  have hcd := fun w => conv_drew w r (by omega)
  have HL := Lib.hid (fun w => spec_l1Num1 q w hq1)
  have hca := fun (v : World) => conv_at v w.heap.size r (by omega)
  have hlen : (Lib.decDigits q).length = 1 := by rw [Lib.decDigits_one hq1]; rfl
  rw [hD]
  clear hD hq hr
  generalize UInt8.ofNat (48 + r) = b8 at *
  generalize Lib.decDigits q = dq at *
  have hn10 : ¬ (n : Int) < 10 := by omega
  have HA := Lib.hid hca
  clear hca
  go_enter Tryd.func31, Tryd.ntmps31
  go_upto_region 3 with (fail)
  go_region_with (go_at_call 31; refine (HL.out _).mono ?_; rintro e w7 ⟨rfl, b7⟩; (first | have hcv7 := HA.out w7 (newD_cell b7) | have hcv7 := HA.out w7 (newB_cell b7) | skip); have s7 : w.heap.size ≤ w7.heap.size := (by have h : w.heap.size ≤ _ := Nat.le_trans (by first | exact Nat.le_refl _ | (show w.heap.size ≤ (w.alloc _).heap.size; rw [World.size_alloc]; omega)) b7.size; exact h))
  all_goals go_wp2
  all_goals go_returns
  all_goals exact ⟨by (first | rfl | rw [bytes_snoc] | (rw [← bytes_snoc])), by (repeat' (first | (with_reducible exact Below.refl _ _) | (with_reducible assumption) | (with_reducible refine Below.alloc ?_ ?_ _) | (with_reducible refine Below.setCell ?_ ?_ _) | (with_reducible refine Below.drew ?_) | (with_reducible refine below_drewN ?_ _) | (with_reducible refine Below.trans ?_ (Below.mono (by assumption) ?_)) | (with_reducible exact Nat.le_refl _) | (simp; done) | omega | (simp at *; omega)))⟩
theorem spec_l1Num (n : Nat) (w : World) (hn : n < 100) :
    Calls Tryd.prog 31 #[.int .i64 (n : Int)] w fun e w' => e = .returned (.string ⟨(Lib.decDigits n).toArray⟩) ∧ Below w.heap.size w w' := by
  by_cases h : n < 10
  · exact spec_l1Num1 n w h
  · exact spec_l1Num2 n w h hn
end Go.Proofs.YtlambflmabecfaaDoor
