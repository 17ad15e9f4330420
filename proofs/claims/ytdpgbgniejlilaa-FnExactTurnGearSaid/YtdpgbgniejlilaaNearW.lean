/- Joining cells and neighbours, program and model. -/
import Derived.Test.YtdpgbgniejlilaaPush
import Derived.Test.YtdpgbgniejlilaaNear
namespace Go.Proofs.Ytdpgbgniejlilaa
open Go.ChangeShapes Go.WideShapes Go.ChangeAt Go.RowKit Go.Joins Go.Deep
set_option linter.unusedSimpArgs false
set_option linter.unusedVariables false
set_option maxRecDepth 100000
set_option maxHeartbeats 1000000
def joins (k : Int) : Bool := decide (k = 6) || decide (k = 7)
theorem spec_ggGear (a b : Int) (w : World) :
    Calls Try.prog 51 #[.agg #[.int .i64 a, .int .i64 b]] w fun e w' => e = .returned (.bool (joins a)) ∧ Below w.heap.size w w' := by
  go_enter Try.func51, Try.ntmps51
  go_wp2
  all_goals go_returns
  all_goals refine ⟨ret_bool (by unfold joins; (first | rfl | (refine Bool.eq_iff_iff.2 ?_; simp only [Bool.and_eq_true, Bool.or_eq_true, Bool.not_eq_true', decide_eq_true_eq, decide_eq_false_iff_not, beq_iff_eq, bne_iff_ne, ne_eq, true_iff, iff_true, false_iff, iff_false, Bool.false_eq_true, Bool.true_eq_false] <;> omega) | (simp; omega))), by (repeat' (first | (with_reducible exact Below.refl _ _) | (with_reducible assumption) | (with_reducible refine Below.alloc ?_ ?_ _) | (with_reducible refine Below.setCell ?_ ?_ _) | (with_reducible refine Below.drew ?_) | (with_reducible refine below_drewN ?_ _) | (with_reducible refine Below.trans ?_ (Below.mono (by assumption) ?_)) | (with_reducible exact Nat.le_refl _) | (simp; done) | omega | (simp at *; omega)))⟩
theorem impl_isJoining (a b : Int) (w : World) :
    Calls Try.prog 53 #[.agg #[.int .i64 a, .int .i64 b]] w fun e w' => e = .returned (.bool (joins a)) ∧ Below w.heap.size w w' := by
  go_enter Try.func53, Try.ntmps53
  go_wp2
  all_goals go_returns
  all_goals refine ⟨ret_bool (by unfold joins; (first | rfl | (refine Bool.eq_iff_iff.2 ?_; simp only [Bool.and_eq_true, Bool.or_eq_true, Bool.not_eq_true', decide_eq_true_eq, decide_eq_false_iff_not, beq_iff_eq, bne_iff_ne, ne_eq, true_iff, iff_true, false_iff, iff_false, Bool.false_eq_true, Bool.true_eq_false] <;> omega) | (simp; omega))), by (repeat' (first | (with_reducible exact Below.refl _ _) | (with_reducible assumption) | (with_reducible refine Below.alloc ?_ ?_ _) | (with_reducible refine Below.setCell ?_ ?_ _) | (with_reducible refine Below.drew ?_) | (with_reducible refine below_drewN ?_ _) | (with_reducible refine Below.trans ?_ (Below.mono (by assumption) ?_)) | (with_reducible exact Nat.le_refl _) | (simp; done) | omega | (simp at *; omega)))⟩
def nI (l : List Nat) : List Int := l.map fun k : Nat => (k : Int)
theorem nI_length (l : List Nat) : (nI l).length = l.length := by simp [nI]
theorem nI_append (l m : List Nat) : nI (l ++ m) = nI l ++ nI m := by simp [nI]
theorem nI_at (l : List Nat) (k : Nat) (h : k < l.length) : (ints (nI l))[k]? = some (.int .i64 (l[k] : Int)) := by simp [ints, nI, h]
theorem wrap_nat {x : Int} (h0 : 0 ≤ x) (h1 : x ≤ 1048576) : IntKind.i64.wrap x = x := IntWalk.i64_in x (by omega)
theorem div_facts {c r n i : Nat} (hc : 1 ≤ c) (hn : n = r * c) (hi : i < n) : (0 < i / c ↔ c ≤ i) ∧ (i / c + 1 < r ↔ i + c < n) ∧ i / c ≤ i ∧ i % c < c := by
  subst hn
  refine ⟨Nat.div_pos_iff.trans ⟨fun h => h.2, fun h => ⟨by omega, h⟩⟩, ?_, Nat.div_le_self .., Nat.mod_lt _ (by omega)⟩
  rw [← Nat.add_div_right i (show 0 < c by omega)]
  exact Nat.div_lt_iff_lt_mul (by omega)
theorem near_eq {c r n i : Nat} (hc : 1 ≤ c) (hn : n = r * c) (hi : i < n) : nearL c n i = (if 0 < i / c then [i - c] else []) ++ (if 0 < i % c then [i - 1] else []) ++ (if i % c + 1 < c then [i + 1] else []) ++ (if i / c + 1 < r then [i + c] else []) := by
  obtain ⟨h1, h2, _⟩ := div_facts hc hn hi
  unfold nearL
  simp only [h1, h2]
theorem spec_ggNear (r c i : Nat) (A : Option Addr) (n cap : Nat) (w : World) (hr1 : 1 ≤ r) (hr2 : r ≤ 10) (hc1 : 1 ≤ c) (hc2 : c ≤ 9) (hn : n = r * c) (hi : i < n) (hn2 : n ≤ 90) :
    Calls Try.prog 52 #[.agg #[.int .i64 (r : Int), .int .i64 (c : Int), .slice A n cap], .int .i64 (i : Int)] w (PostI w (nI (nearL c n i))) := by
  obtain ⟨i0, hi', hz0, hz1, hz2⟩ := info_parts intInfo
  have hcz : ¬ ((c : Nat) : Int) = 0 := by omega
  rw [near_eq hc1 hn hi]
  obtain ⟨d1, d2, d3, d4⟩ := div_facts hc1 hn hi
  have e1 : wrap64 ((i : Int) / (c : Int)) = ((i / c : Nat) : Int) := by
    rw [show (i : Int) / (c : Int) = ((i / c : Nat) : Int) from rfl]
    have h1 : i / c ≤ i := d3
    generalize i / c = q at h1
    unfold wrap64
    omega
  have e2 : (i : Int) % (c : Int) = ((i % c : Nat) : Int) := rfl
  go_enter Try.func52, Try.ntmps52
  obtain ⟨v0, hv0⟩ : ∃ v, v = w.alloc (.cells #[.int .i64 (r : Int), .int .i64 (c : Int), .slice A n cap] 30) := ⟨_, rfl⟩
  have X0 : Whole v0 w.heap.size 30 [.int .i64 (r : Int), .int .i64 (c : Int), .slice A n cap] := by rw [hv0]; exact heap_alloc_new w _
  have hb : Below w.heap.size w v0 := by rw [hv0]; exact (Below.refl _ _).alloc (Nat.le_refl _) _
  have HV := Lib.hid hv0.symm
  clear hv0 hn
  have E1 := Lib.hid e1
  have E2 := Lib.hid e2
  clear e1 e2
  go_upto_region 1 with (fail)
  rewrite [HV.out]
  clear HV
  have X0k0 : v0.cell? ⟨w.heap.size, 0, none⟩ = some (.int .i64 (r : Int)) := (X0.cell 0).trans rfl; have X0k1 : v0.cell? ⟨w.heap.size, 1, none⟩ = some (.int .i64 (c : Int)) := (X0.cell 1).trans rfl; have X0k2 : v0.cell? ⟨w.heap.size, 2, none⟩ = some (.slice A n cap) := (X0.cell 2).trans rfl
  go_quiet (fail)
  rewrite [E1.out, E2.out]
  clear E1 E2 X0k0 X0k1 X0k2
  have bd : Below v0.heap.size v0 (v0.drewN nq) := below_drewN (Below.refl _ _) _
  replace X0 := X0.below bd X0.lt
  replace hb := hb.trans (bd.mono hb.size)
  clear bd
  generalize v0.drewN nq = w' at *
  have hs : w'.heap.size ≤ w'.heap.size := Nat.le_refl _
  have hlb := X0.lt
  have hbl := hb.size
  have hrow : IRow w' w'.heap.size (.slice none 0 0) [] := IRow.nil
  generalize hB : w'.heap.size = B at hrow hs hlb hbl
  have hs' : B ≤ w'.heap.size := by omega
  clear hB hs
  have hs := hs'
  clear hs'
  have d5 : i % c ≤ i := Nat.mod_le ..
  generalize i / c = q at *
  generalize i % c = m at *
  have e3 : c ≤ i → ((i - c : Nat) : Int) = (i : Int) - (c : Int) := by omega
  have e4 : 0 < m → ((i - 1 : Nat) : Int) = (i : Int) - 1 := by omega
  have E3 := Lib.hid e3
  have E4 := Lib.hid e4
  clear e3 e4
  have X0k0 : w'.cell? ⟨w.heap.size, 0, none⟩ = some (.int .i64 (r : Int)) := (X0.cell 0).trans rfl; have X0k1 : w'.cell? ⟨w.heap.size, 1, none⟩ = some (.int .i64 (c : Int)) := (X0.cell 1).trans rfl; have X0k2 : w'.cell? ⟨w.heap.size, 2, none⟩ = some (.slice A n cap) := (X0.cell 2).trans rfl
  all_goals (go_wp2_with (first | (at_builtin; refine wpList_push hrow (by simp) hs rfl _ _ rfl rfl rfl ?_; intro v' w' hrow' hg' hb' _; have hs' := Nat.le_trans hs hb'.size; clear hg' X0k0 X0k1 X0k2 hrow hs; replace X0 := X0.below hb' hlb; replace hb := hb.trans (hb'.mono hbl); have hrow := hrow'; have hs := hs'; clear hrow' hb' hs'; have X0k0 : w'.cell? ⟨w.heap.size, 0, none⟩ = some (.int .i64 (r : Int)) := (X0.cell 0).trans rfl; have X0k1 : w'.cell? ⟨w.heap.size, 1, none⟩ = some (.int .i64 (c : Int)) := (X0.cell 1).trans rfl; have X0k2 : w'.cell? ⟨w.heap.size, 2, none⟩ = some (.slice A n cap) := (X0.cell 2).trans rfl) | fail))
  all_goals go_returns
  all_goals (have e3 := E3.out; have e4 := E4.out; clear E3 E4; have hx := PostI.of_irow hrow hbl hb; clear X0 X0k0 X0k1 X0k2 hrow hb hs hlb hbl hcz; simp_all [nI])
theorem impl_indicesBeside (r c i : Nat) (A : Option Addr) (n cap : Nat) (w : World) (hr1 : 1 ≤ r) (hr2 : r ≤ 10) (hc1 : 1 ≤ c) (hc2 : c ≤ 9) (hn : n = r * c) (hi : i < n) (hn2 : n ≤ 90) :
    Calls Try.prog 64 #[.agg #[.int .i64 (r : Int), .int .i64 (c : Int), .slice A n cap], .int .i64 (i : Int)] w (PostI w (nI (nearL c n i))) := by
  have hcz : ¬ ((c : Nat) : Int) = 0 := by omega
  obtain ⟨d1, d2, d3, d4⟩ := div_facts hc1 hn hi
  have d5 : i % c ≤ i := Nat.mod_le ..
  have hm : (i : Int) % (c : Int) = ((i % c : Nat) : Int) := rfl
  have hN : nearL c n i = (if c ≤ i then [i - c] else []) ++ (if 0 < i % c then [i - 1] else []) ++ (if i % c + 1 < c then [i + 1] else []) ++ (if i + c < n then [i + c] else []) := rfl
  rw [hN]
  clear d1 d2 d3 hn hN
  generalize i % c = m at *
  go_enter Try.func64, Try.ntmps64
  obtain ⟨v0, hv0⟩ : ∃ v, v = w.alloc (.cells #[.int .i64 (r : Int), .int .i64 (c : Int), .slice A n cap] 30) := ⟨_, rfl⟩
  have X0 : Whole v0 w.heap.size 30 [.int .i64 (r : Int), .int .i64 (c : Int), .slice A n cap] := by rw [hv0]; exact heap_alloc_new w _
  have hb : Below w.heap.size w v0 := by rw [hv0]; exact (Below.refl _ _).alloc (Nat.le_refl _) _
  have HV := Lib.hid hv0.symm
  clear hv0
  go_upto_region 1 with (fail)
  rewrite [HV.out]
  clear HV
  generalize v0 = w' at *
  have X0k0 : w'.cell? ⟨w.heap.size, 0, none⟩ = some (.int .i64 (r : Int)) := (X0.cell 0).trans rfl; have X0k1 : w'.cell? ⟨w.heap.size, 1, none⟩ = some (.int .i64 (c : Int)) := (X0.cell 1).trans rfl; have X0k2 : w'.cell? ⟨w.heap.size, 2, none⟩ = some (.slice A n cap) := (X0.cell 2).trans rfl
  have hs : w'.heap.size ≤ w'.heap.size := Nat.le_refl _
  have hlb := X0.lt
  have hbl := hb.size
  have hrow : IRow w' w'.heap.size (.slice none 0 0) [] := IRow.nil
  generalize hB : w'.heap.size = B at hrow hs hlb hbl
  have hs' : B ≤ w'.heap.size := by omega
  clear hB hs
  have hs := hs'
  clear hs'
  have e3 : c ≤ i → ((i - c : Nat) : Int) = (i : Int) - (c : Int) := by omega
  have e4 : 0 < m → ((i - 1 : Nat) : Int) = (i : Int) - 1 := by omega
  have E3 := Lib.hid e3
  have E4 := Lib.hid e4
  clear e3 e4
  go_upto_region 6 with (first | (at_builtin; refine wpList_push hrow (by simp) hs rfl _ _ rfl rfl rfl ?_; intro v' w' hrow' hg' hb' _; have hs' := Nat.le_trans hs hb'.size; clear hg' X0k0 X0k1 X0k2 hrow hs; replace X0 := X0.below hb' hlb; replace hb := hb.trans (hb'.mono hbl); have hrow := hrow'; have hs := hs'; clear hrow' hb' hs'; have X0k0 : w'.cell? ⟨w.heap.size, 0, none⟩ = some (.int .i64 (r : Int)) := (X0.cell 0).trans rfl; have X0k1 : w'.cell? ⟨w.heap.size, 1, none⟩ = some (.int .i64 (c : Int)) := (X0.cell 1).trans rfl; have X0k2 : w'.cell? ⟨w.heap.size, 2, none⟩ = some (.slice A n cap) := (X0.cell 2).trans rfl) | fail)
  all_goals go_quiet (fail)
  all_goals (clear X0k0 X0k1 X0k2; have bd : Below w'.heap.size w' (w'.drewN nq) := below_drewN (Below.refl _ _) _; replace X0 := X0.below bd X0.lt; replace hb := hb.trans (bd.mono hb.size); replace hrow := hrow.keep bd; replace hs := Nat.le_trans hs bd.size; clear bd; generalize w'.drewN nq = w' at *; have X0k0 : w'.cell? ⟨w.heap.size, 0, none⟩ = some (.int .i64 (r : Int)) := (X0.cell 0).trans rfl; have X0k1 : w'.cell? ⟨w.heap.size, 1, none⟩ = some (.int .i64 (c : Int)) := (X0.cell 1).trans rfl; have X0k2 : w'.cell? ⟨w.heap.size, 2, none⟩ = some (.slice A n cap) := (X0.cell 2).trans rfl)
  all_goals (go_wp2_with (first | (at_builtin; refine wpList_push hrow (by simp) hs rfl _ _ rfl rfl rfl ?_; intro v' w' hrow' hg' hb' _; have hs' := Nat.le_trans hs hb'.size; clear hg' X0k0 X0k1 X0k2 hrow hs; replace X0 := X0.below hb' hlb; replace hb := hb.trans (hb'.mono hbl); have hrow := hrow'; have hs := hs'; clear hrow' hb' hs'; have X0k0 : w'.cell? ⟨w.heap.size, 0, none⟩ = some (.int .i64 (r : Int)) := (X0.cell 0).trans rfl; have X0k1 : w'.cell? ⟨w.heap.size, 1, none⟩ = some (.int .i64 (c : Int)) := (X0.cell 1).trans rfl; have X0k2 : w'.cell? ⟨w.heap.size, 2, none⟩ = some (.slice A n cap) := (X0.cell 2).trans rfl) | fail))
  all_goals go_returns
  all_goals (have e3 := E3.out; have e4 := E4.out; clear E3 E4; have hx := PostI.of_irow hrow hbl hb; clear X0 X0k0 X0k1 X0k2 hrow hb hs hlb hbl hcz; simp_all [nI])
end Go.Proofs.Ytdpgbgniejlilaa
