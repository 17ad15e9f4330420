/- Contracts of the program and of the model, walked, part 4 of 10. No condition but what each says. -/
import Derived.Test.YtlnekfbhpfhcpaaGreatM3
import Derived.Deep.RegionHeld3
import Derived.Deep.DeepCutAuto
namespace Go.Proofs.YtlnekfbhpfhcpaaGreat
open Go.ChangeShapes Go.WideShapes Go.ChangeAt Go.RowKit Go.Joins Go.Deep
set_option linter.unusedSimpArgs false
set_option linter.unusedVariables false
set_option maxRecDepth 100000
set_option maxHeartbeats 2000000
def inI (lo hi n : Int) : Bool := decide (lo ≤ n) && decide (n ≤ hi)
def allI (lo hi : Int) (cs : List Int) : Bool := cs.all (inI lo hi)
theorem allI_bad {lo hi : Int} {cs : List Int} {k : Nat} (hk : k < cs.length) (h : inI lo hi cs[k] = false) : allI lo hi cs = false := by
  unfold allI
  rw [List.all_eq_false]
  exact ⟨cs[k], List.getElem_mem _, by rw [h]; simp⟩
theorem spec_l1All (A : Option Addr) (cap : Nat) (cs : List Int) (lo hi : Int) (w : World) (hn : cs.length ≤ 1048576) (hr : Rd w w.heap.size A (ints cs)) :
    Calls Tryz.prog 60 #[.slice A cs.length cap, .int .i64 lo, .int .i64 hi] w fun e w' => e = .returned (.bool (allI lo hi cs)) ∧ w = w' := by
  have HB := Lib.hid (fun k (hk : k < cs.length) h => allI_bad (lo := lo) (hi := hi) hk h)
  have HAl := Lib.hid (fun (h : ∀ k (hk : k < cs.length), inI lo hi cs[k] = true) => (show allI lo hi cs = true from by
    unfold allI
    rw [List.all_eq_true]
    intro x hx
    obtain ⟨k, hk, rfl⟩ := List.mem_iff_getElem.1 hx
    exact h k hk))
  go_enter Tryz.func60, Tryz.ntmps60
  go_wp2
  go_loopw [11] (fun i wr => ∃ k : Nat, i = .int .i64 k ∧ k ≤ cs.length ∧ (∀ j (hj : j < cs.length), j < k → inI lo hi cs[j] = true) ∧ w = wr) (fun i _ => cs.length - (intOf i).toNat)
  case atStart => exact ⟨0, rfl, Nat.zero_le _, fun j _ h => absurd h (Nat.not_lt_zero j), rfl⟩
  case round =>
    obtain ⟨k, rfl, hk, hall, rfl⟩ := hrel
    by_cases hlt : k < cs.length
    · obtain ⟨b, o, rfl, hbl, hc⟩ := hr (by rw [ints_length]; omega)
      have hck := hc k _ (ints_at cs k hlt)
      have HBk := Lib.hid (HB.out k hlt)
      have hall' : inI lo hi cs[k] = true → ∀ j (hj : j < cs.length), j < k + 1 → inI lo hi cs[j] = true := fun h j hj hjk => by
        rcases Nat.lt_or_eq_of_le (Nat.lt_succ_iff.1 hjk) with h1 | rfl
        · exact hall j hj h1
        · exact h
      have HAk := Lib.hid hall'
      have HI := Lib.hid (show inI lo hi cs[k] = (decide (lo ≤ cs[k]) && decide (cs[k] ≤ hi)) from rfl)
      clear hall hall' hc
      generalize hx : cs[k] = x at *
      go_wp2_with fail
      refine (spec_l1In _ _ _ _).mono ?_; rintro e w1 ⟨rfl, rfl⟩
      rewrite [← HI.out]
      rcases Bool.eq_false_or_eq_true (inI lo hi x) with h | h
      · rewrite [h]
        have HA2 := Lib.hid (HAk.out h)
        clear h
        go_wp2
        go_roundw
        case rel => exact ⟨k + 1, by go_num, by omega, HA2.out, by first | rfl | trivial⟩
        case measure => simp [intOf]; omega
      · rewrite [h]
        have HB2 := Lib.hid (HBk.out h)
        clear h
        go_wp2
        go_returns
        exact ⟨by rw [HB2.out]; rfl, rfl⟩
    · obtain rfl : k = cs.length := by omega
      have HA2 := Lib.hid (HAl.out (fun j hj => hall j hj hj))
      clear hall
      go_wp2
      go_returns
      exact ⟨by rw [HA2.out]; rfl, rfl⟩
def okC' (R C : Int) (l : List (Int × Int)) (cs : List Int) : Bool := goodB R C l && decide (cs.length ≤ 60) && allI 0 (C - 1) cs
theorem spec_flColumns (R C : Int) (A : Option Addr) (cap : Nat) (l : List (Int × Int)) (A' : Option Addr) (cap' : Nat) (cs : List Int) (w : World) (hn : l.length ≤ 1048576) (hn' : cs.length ≤ 1048576) (hr : Rd w w.heap.size A (flat l)) (hr' : Rd w w.heap.size A' (ints cs)) :
    Calls Tryz.prog 35 #[.agg #[.int .i64 R, .int .i64 C, .slice A l.length cap], .slice A' cs.length cap'] w fun e w' => e = .returned (.bool (okC' R C l cs)) ∧ Below w.heap.size w w' := by
  unfold okC'
  rcases Bool.eq_false_or_eq_true (goodB R C l) with hg | hg
  · have HG := Lib.hid hg
    obtain ⟨s1, s2, s3, s4⟩ := sizeB_iff.1 (goodB_iff.1 hg).1
    rw [hg]
    clear hg
    have m1 : IntKind.i64.wrap (C - 1) = C - 1 := IntWalk.i64_in _ (by omega)
    by_cases h60 : cs.length ≤ 60
    · have hd : decide ((cs.length : Int) ≤ 60) = true := by simp; omega
      have HE := Lib.hid (show (true && decide (cs.length ≤ 60) && allI 0 (C - 1) cs) = allI 0 (C - 1) cs by rw [decide_eq_true h60]; rfl)
      go_enter Tryz.func35, Tryz.ntmps35
      obtain ⟨v0, hv0⟩ : ∃ v, v = w.alloc (.cells #[.int .i64 R, .int .i64 C, .slice A l.length cap] 25) := ⟨_, rfl⟩; have X0 : Whole v0 w.heap.size 25 [.int .i64 R, .int .i64 C, .slice A l.length cap] := (by rw [hv0]; exact heap_alloc_new w _); have hb : Below w.heap.size w v0 := (by rw [hv0]; exact (Below.refl _ _).alloc (Nat.le_refl _) _); have HV := Lib.hid hv0.symm; clear hv0; go_upto_region 1 with (fail); rewrite [HV.out]; clear HV; have X0k0 : v0.cell? ⟨w.heap.size, 0, none⟩ = some (.int .i64 R) := (X0.cell 0).trans rfl; have X0k1 : v0.cell? ⟨w.heap.size, 1, none⟩ = some (.int .i64 C) := (X0.cell 1).trans rfl; have X0k2 : v0.cell? ⟨w.heap.size, 2, none⟩ = some (.slice A l.length cap) := (X0.cell 2).trans rfl
      go_wp2_with fail
      refine (spec_boGood _ _ _ _ l _ hn ((hr.below hb).mono hb.size)).mono ?_; rintro e w1 ⟨rfl, b1⟩
      rewrite [HG.out]
      (clear X0k0 X0k1 X0k2; replace X0 := X0.below b1 X0.lt; replace hb := hb.trans (b1.mono hb.size); clear b1; have X0k0 : w1.cell? ⟨w.heap.size, 0, none⟩ = some (.int .i64 R) := (X0.cell 0).trans rfl; have X0k1 : w1.cell? ⟨w.heap.size, 1, none⟩ = some (.int .i64 C) := (X0.cell 1).trans rfl; have X0k2 : w1.cell? ⟨w.heap.size, 2, none⟩ = some (.slice A l.length cap) := (X0.cell 2).trans rfl)
      go_wp2_with fail
      refine (spec_l1All _ _ cs _ _ _ hn' ((hr'.below hb).mono hb.size)).mono ?_; rintro e w2 ⟨rfl, rfl⟩
      go_wp2
      go_returns
      exact ⟨by rw [HE.out]; rfl, by (repeat' (first | (with_reducible exact Below.refl _ _) | (with_reducible assumption) | (with_reducible refine Below.alloc ?_ ?_ _) | (with_reducible refine Below.setCell ?_ ?_ _) | (with_reducible refine Below.drew ?_) | (with_reducible refine below_drewN ?_ _) | (with_reducible refine Below.trans ?_ (Below.mono (by assumption) ?_)) | (with_reducible exact Nat.le_refl _) | (simp; done) | omega | (simp at *; omega)))⟩
    · have hd : decide ((cs.length : Int) ≤ 60) = false := by simp; omega
      have HE := Lib.hid (show (true && decide (cs.length ≤ 60) && allI 0 (C - 1) cs) = false by rw [decide_eq_false h60]; rfl)
      go_enter Tryz.func35, Tryz.ntmps35
      obtain ⟨v0, hv0⟩ : ∃ v, v = w.alloc (.cells #[.int .i64 R, .int .i64 C, .slice A l.length cap] 25) := ⟨_, rfl⟩; have X0 : Whole v0 w.heap.size 25 [.int .i64 R, .int .i64 C, .slice A l.length cap] := (by rw [hv0]; exact heap_alloc_new w _); have hb : Below w.heap.size w v0 := (by rw [hv0]; exact (Below.refl _ _).alloc (Nat.le_refl _) _); have HV := Lib.hid hv0.symm; clear hv0; go_upto_region 1 with (fail); rewrite [HV.out]; clear HV; have X0k0 : v0.cell? ⟨w.heap.size, 0, none⟩ = some (.int .i64 R) := (X0.cell 0).trans rfl; have X0k1 : v0.cell? ⟨w.heap.size, 1, none⟩ = some (.int .i64 C) := (X0.cell 1).trans rfl; have X0k2 : v0.cell? ⟨w.heap.size, 2, none⟩ = some (.slice A l.length cap) := (X0.cell 2).trans rfl
      go_wp2_with fail
      refine (spec_boGood _ _ _ _ l _ hn ((hr.below hb).mono hb.size)).mono ?_; rintro e w1 ⟨rfl, b1⟩
      rewrite [HG.out]
      (clear X0k0 X0k1 X0k2; replace X0 := X0.below b1 X0.lt; replace hb := hb.trans (b1.mono hb.size); clear b1; have X0k0 : w1.cell? ⟨w.heap.size, 0, none⟩ = some (.int .i64 R) := (X0.cell 0).trans rfl; have X0k1 : w1.cell? ⟨w.heap.size, 1, none⟩ = some (.int .i64 C) := (X0.cell 1).trans rfl; have X0k2 : w1.cell? ⟨w.heap.size, 2, none⟩ = some (.slice A l.length cap) := (X0.cell 2).trans rfl)
      go_wp2
      go_returns
      exact ⟨by rw [HE.out]; rfl, by (repeat' (first | (with_reducible exact Below.refl _ _) | (with_reducible assumption) | (with_reducible refine Below.alloc ?_ ?_ _) | (with_reducible refine Below.setCell ?_ ?_ _) | (with_reducible refine Below.drew ?_) | (with_reducible refine below_drewN ?_ _) | (with_reducible refine Below.trans ?_ (Below.mono (by assumption) ?_)) | (with_reducible exact Nat.le_refl _) | (simp; done) | omega | (simp at *; omega)))⟩
  · have HG := Lib.hid hg
    rw [hg]
    clear hg
    go_enter Tryz.func35, Tryz.ntmps35
    obtain ⟨v0, hv0⟩ : ∃ v, v = w.alloc (.cells #[.int .i64 R, .int .i64 C, .slice A l.length cap] 25) := ⟨_, rfl⟩; have X0 : Whole v0 w.heap.size 25 [.int .i64 R, .int .i64 C, .slice A l.length cap] := (by rw [hv0]; exact heap_alloc_new w _); have hb : Below w.heap.size w v0 := (by rw [hv0]; exact (Below.refl _ _).alloc (Nat.le_refl _) _); have HV := Lib.hid hv0.symm; clear hv0; go_upto_region 1 with (fail); rewrite [HV.out]; clear HV; have X0k0 : v0.cell? ⟨w.heap.size, 0, none⟩ = some (.int .i64 R) := (X0.cell 0).trans rfl; have X0k1 : v0.cell? ⟨w.heap.size, 1, none⟩ = some (.int .i64 C) := (X0.cell 1).trans rfl; have X0k2 : v0.cell? ⟨w.heap.size, 2, none⟩ = some (.slice A l.length cap) := (X0.cell 2).trans rfl
    go_wp2_with fail
    refine (spec_boGood _ _ _ _ l _ hn ((hr.below hb).mono hb.size)).mono ?_; rintro e w1 ⟨rfl, b1⟩
    rewrite [HG.out]
    (clear X0k0 X0k1 X0k2; replace X0 := X0.below b1 X0.lt; replace hb := hb.trans (b1.mono hb.size); clear b1; have X0k0 : w1.cell? ⟨w.heap.size, 0, none⟩ = some (.int .i64 R) := (X0.cell 0).trans rfl; have X0k1 : w1.cell? ⟨w.heap.size, 1, none⟩ = some (.int .i64 C) := (X0.cell 1).trans rfl; have X0k2 : w1.cell? ⟨w.heap.size, 2, none⟩ = some (.slice A l.length cap) := (X0.cell 2).trans rfl)
    go_wp2
    go_returns
    exact ⟨rfl, by (repeat' (first | (with_reducible exact Below.refl _ _) | (with_reducible assumption) | (with_reducible refine Below.alloc ?_ ?_ _) | (with_reducible refine Below.setCell ?_ ?_ _) | (with_reducible refine Below.drew ?_) | (with_reducible refine below_drewN ?_ _) | (with_reducible refine Below.trans ?_ (Below.mono (by assumption) ?_)) | (with_reducible exact Nat.le_refl _) | (simp; done) | omega | (simp at *; omega)))⟩
end Go.Proofs.YtlnekfbhpfhcpaaGreat
namespace Go.Proofs.YtlnekfbhpfhcpaaGreat
open Go.ChangeShapes Go.WideShapes Go.ChangeAt Go.RowKit Go.Joins Go.Deep
set_option linter.unusedSimpArgs false
set_option linter.unusedVariables false
set_option maxRecDepth 100000
set_option maxHeartbeats 4000000
theorem flG_good (nm : List Int) (r c : Nat) : ∀ (n row : Nat) (l : List (Int × Int)) (col : Nat) (side : Int) (way : List (List Nat)), l.length = r * c → row + n ≤ r → col < c → (∀ x ∈ l, good x.1 x.2 = true) → ∀ x ∈ (flG nm r c n row l col side way).cells, good x.1 x.2 = true
  | 0, _, l, _, _, _, _, _, _, h => h
  | n + 1, row, l, col, side, way, hl, hrow, hcol, h => by
    have hi : row * c + col < l.length := by
      rw [hl]
      have h1 := Nat.mul_le_mul (show row + 1 ≤ r by omega) (Nat.le_refl c)
      rw [Nat.succ_mul] at h1
      omega
    rw [flG_step nm r c n row l col side way _ _ rfl rfl]
    split
    · exact h
    · split
      · next hin => exact flG_good nm r c n (row + 1) _ _ _ _ (by rw [passL_len]; exact hl) (by omega) (by omega) (passL_good hi h)
      · exact passL_good hi h
/-- The ends of the first k marbles, and the cells after them. -/
def stA (nm : List Int) (r c : Nat) (l : List (Int × Int)) (cs : List Int) : Nat → List (Int × Int × Int) × List (Int × Int)
  | 0 => ([], l)
  | k + 1 => ((stA nm r c l cs k).1 ++ [((flG nm r c r 0 (stA nm r c l cs k).2 (cs.getD k 0).toNat 0 []).e, (flG nm r c r 0 (stA nm r c l cs k).2 (cs.getD k 0).toNat 0 []).row, (flG nm r c r 0 (stA nm r c l cs k).2 (cs.getD k 0).toNat 0 []).col)],
      (flG nm r c r 0 (stA nm r c l cs k).2 (cs.getD k 0).toNat 0 []).cells)
theorem stA_len (nm : List Int) (r c : Nat) (l : List (Int × Int)) (cs : List Int) : ∀ k, (stA nm r c l cs k).1.length = k ∧ (stA nm r c l cs k).2.length = l.length
  | 0 => ⟨rfl, rfl⟩
  | k + 1 => by
    obtain ⟨h1, h2⟩ := stA_len nm r c l cs k
    unfold stA
    exact ⟨by rw [List.length_append, h1]; rfl, by rw [flG_len]; exact h2⟩
theorem stA_good (nm : List Int) {r c : Nat} {l : List (Int × Int)} {cs : List Int} (hl : l.length = r * c) (h : ∀ x ∈ l, good x.1 x.2 = true) (hcs : ∀ k, k < cs.length → 0 ≤ cs.getD k 0 ∧ cs.getD k 0 < c) : ∀ k, k ≤ cs.length → ∀ x ∈ (stA nm r c l cs k).2, good x.1 x.2 = true
  | 0, _ => h
  | k + 1, hk => by
    have ih := stA_good nm hl h hcs k (by omega)
    have hc := hcs k (by omega)
    unfold stA
    exact flG_good nm r c r 0 _ _ _ _ (by rw [(stA_len nm r c l cs k).2]; exact hl) (by omega) (by omega) ih
/-- Rows of ends. -/
def flatF (fs : List (Int × Int × Int)) : List Value := fs.flatMap fun f => [.int .i64 f.1, .int .i64 f.2.1, .int .i64 f.2.2]
theorem flatF_len (fs : List (Int × Int × Int)) : (flatF fs).length = fs.length * 3 := by
  unfold flatF
  induction fs with
  | nil => rfl
  | cons f fs ih => rw [List.flatMap_cons, List.length_append, ih, List.length_cons]; simp; omega
theorem flatF_app (a b : List (Int × Int × Int)) : flatF (a ++ b) = flatF a ++ flatF b := by unfold flatF; rw [List.flatMap_append]
theorem fallInfo : (Tryz.prog.info? 50).map (fun i => (i.zero, i.size, i.bytes)) = some (some (.agg #[.int .i64 0, .int .i64 0, .int .i64 0]), 3, 24) := by kernel_rfl
theorem allI_at {lo hi : Int} {cs : List Int} (h : allI lo hi cs = true) : ∀ k, k < cs.length → lo ≤ cs.getD k 0 ∧ cs.getD k 0 ≤ hi := fun k hk => by
  unfold allI at h
  have := List.all_eq_true.1 h _ (List.getElem_mem hk)
  unfold inI at this
  rw [List.getD_eq_getElem?_getD, List.getElem?_eq_getElem hk]
  simpa using this
end Go.Proofs.YtlnekfbhpfhcpaaGreat
namespace Go.Proofs.YtlnekfbhpfhcpaaGreat
open Go.ChangeShapes Go.WideShapes Go.ChangeAt Go.RowKit Go.Joins Go.Deep
set_option linter.unusedSimpArgs false
set_option linter.unusedVariables false
set_option maxRecDepth 100000
set_option maxHeartbeats 4000000
theorem three_cells3 {w : World} {o o' : Obj} {x y z : Value} {t : TypeId} : ∀ j u, [x, y, z][j]? = some u → (((w.alloc o).alloc o').alloc (.cells #[x, y, z] t)).cell? ((⟨w.heap.size + 1 + 1, 0, none⟩ : Addr).add j) = some u := by
  intro j u h
  have hn := heap_alloc_new ((w.alloc o).alloc o') (.cells #[x, y, z] t)
  rw [World.size_alloc, World.size_alloc] at hn
  have hw : Whole (((w.alloc o).alloc o').alloc (.cells #[x, y, z] t)) (w.heap.size + 1 + 1) t [x, y, z] := hn
  have hj := hw.cell j
  rw [h] at hj
  rw [← hj]
  by_cases h0 : j = 0
  · subst h0; simp [Addr.add]
  · simp [Addr.add, h0]
theorem three_oneF {a b c : Int} : ∀ u ∈ [Value.int .i64 a, Value.int .i64 b, Value.int .i64 c], u.oneCell' = true := by
  intro u hu
  simp only [List.mem_cons, List.not_mem_nil, or_false] at hu
  rcases hu with rfl | rfl | rfl <;> rfl
theorem three_farTB {w : World} {g a : Nat} {t : TypeId} {xs : List Value} {u0 u1 : Value} {B : Option Addr} {n cp : Nat} (h : Whole w g t xs) (hw : Whole w a 25 [.int .i64 0, .int .i64 0, .slice none 0 0]) (hne : t ≠ 25) : Whole (((w.setCell ⟨a, 0, none⟩ u0).setCell ⟨a, 1, none⟩ u1).setCell ⟨a, 2, none⟩ (.slice B n cp)) g t xs := by
  refine three_far h (fun e => ?_)
  subst e
  unfold Whole at h hw
  rw [h] at hw
  injection hw with hw
  injection hw with _ ht
  exact hne ht
theorem far_of {w : World} {g a : Nat} {t t' : TypeId} {xs ys : List Value} (h : Whole w g t xs) (hw : Whole w a t' ys) (hne : t ≠ t') : a ≠ g := by
  rintro rfl
  unfold Whole at h hw
  rw [h] at hw
  injection hw with hw
  injection hw with _ ht
  exact hne ht
theorem row_setFarW {w : World} {base : Nat} {e : TypeId} {size n : Nat} {v : Value} {xs : List Value} (h : w.ownsRow base e size v n xs) (p : Addr) (u : Value) (hne : some p.block ≠ v.ownBlock) : (w.setCell p u).ownsRow base e size v n xs := by
  refine ⟨h.1, ?_⟩
  rcases h.2 with h2 | ⟨g, cap, cur, rfl, h2, hh, h3⟩
  · exact .inl h2
  · have hne' : g ≠ p.block := fun e' => hne (by simp [Value.ownBlock, e'])
    exact .inr ⟨g, cap, cur, rfl, h2, (Below.heap_setCell w p u g hne').trans hh, h3⟩
theorem spec_flAll (r c b o cap : Nat) (l : List (Int × Int)) (A' : Option Addr) (cap' : Nat) (cs : List Int) (w : World) (hgd : goodB (r : Int) (c : Int) l = true) (hr : Rd w w.heap.size (some ⟨b, o, none⟩) (flat l)) (hr' : Rd w w.heap.size A' (ints cs)) (h60 : cs.length ≤ 60) (hall : allI 0 ((c : Int) - 1) cs = true) :
    Calls Tryz.prog 36 #[.agg #[.int .i64 (r : Int), .int .i64 (c : Int), .slice (some ⟨b, o, none⟩) l.length cap], .slice A' cs.length cap'] w
      fun e w' => ∃ v A5 c5, e = .returned (.tuple #[v, .agg #[.int .i64 (r : Int), .int .i64 (c : Int), .slice A5 l.length c5]]) ∧ w'.ownsRow w.heap.size 50 3 v cs.length (flatF (stA (numL c l) r c l cs cs.length).1) ∧
        Own w' A5 86 (flat (stA (numL c l) r c l cs cs.length).2) ∧ New w A5 ∧ Below w.heap.size w w' := by
  obtain ⟨r', c', er, ec, hG⟩ := geo_of hgd
  obtain rfl : r = r' := by omega
  obtain rfl : c = c' := by omega
  have hpos := (goodB_parts hgd).2.2
  have hn90 := hG.n90
  have HG := Lib.hid hG
  have HGd := Lib.hid hgd
  have HNl := Lib.hid (numL_len c l)
  have HSl := Lib.hid (stA_len (numL c l) r c l cs)
  have HSg := Lib.hid (stA_good (numL c l) (cs := cs) hG.cells (goodB_iff.1 hgd).2.2 (fun k hk => by have := allI_at hall k hk; omega))
  have HCs := Lib.hid (fun k (hk : k < cs.length) => (show 0 ≤ cs.getD k 0 ∧ cs.getD k 0 < (c : Int) by have := allI_at hall k hk; omega))
  clear hG hgd er ec hall
  go_enter Tryz.func36, Tryz.ntmps36
  obtain ⟨v0, hv0, X0, X1, B0, hz0⟩ := two_boxes w [.int .i64 (r : Int), .int .i64 (c : Int), .slice (some ⟨b, o, none⟩) l.length cap] 25 [.int .i64 0, .int .i64 0, .slice none 0 0] 25; have HV := Lib.hid hv0; have hz : w.heap.size + 1 < v0.heap.size := (by omega); have hy : w.heap.size < v0.heap.size := (by omega); have hb0 := B0.size; clear hv0 hz0; go_wp2_with fail; rewrite [show (w.alloc (.cells ([.int .i64 (r : Int), .int .i64 (c : Int), .slice (some ⟨b, o, none⟩) l.length cap] : List Value).toArray 25)).alloc (.cells ([.int .i64 0, .int .i64 0, .slice none 0 0] : List Value).toArray 25) = v0 from HV.out]; clear HV
  have k0 : v0.cell? ⟨w.heap.size, 0, none⟩ = some (.int .i64 (r : Int)) := (X0.cell 0).trans rfl
  have k1 : v0.cell? ⟨w.heap.size, 1, none⟩ = some (.int .i64 (c : Int)) := (X0.cell 1).trans rfl
  have k2 : v0.cell? ⟨w.heap.size, 2, none⟩ = some (.slice (some ⟨b, o, none⟩) l.length cap) := (X0.cell 2).trans rfl
  have KS := Lib.hid (fun (w' : World) (h : Below v0.heap.size v0 w') => (⟨(h.cell (p := ⟨w.heap.size, 0, none⟩) hy).trans k0, (h.cell (p := ⟨w.heap.size, 1, none⟩) hy).trans k1, (h.cell (p := ⟨w.heap.size, 2, none⟩) hy).trans k2⟩ : w'.cell? ⟨w.heap.size, 0, none⟩ = some (.int .i64 (r : Int)) ∧ w'.cell? ⟨w.heap.size, 1, none⟩ = some (.int .i64 (c : Int)) ∧ w'.cell? ⟨w.heap.size, 2, none⟩ = some (.slice (some ⟨b, o, none⟩) l.length cap)))
  go_cut [6, 7] (fun z y wx => ∃ (gb g6 c6 g5 c5 : Nat) (rest5 rest6 : List Value), z = .pointer (some ⟨gb, 0, none⟩) ∧ y = .slice (some ⟨g6, 0, none⟩) (numL c l).length c6 ∧ v0.heap.size ≤ gb ∧ v0.heap.size ≤ g6 ∧ v0.heap.size ≤ g5 ∧ Whole wx gb 25 [.int .i64 (r : Int), .int .i64 (c : Int), .slice (some ⟨g5, 0, none⟩) l.length c5] ∧ Whole wx g5 86 (flat l ++ rest5) ∧ Whole wx g6 3 (ints (numL c l) ++ rest6) ∧ Below v0.heap.size v0 wx)
  case first =>
    go_region_held3 (fun w' => w'.cell? ⟨w.heap.size, 0, none⟩ = some (.int .i64 (r : Int)) ∧ w'.cell? ⟨w.heap.size, 1, none⟩ = some (.int .i64 (c : Int)) ∧ w'.cell? ⟨w.heap.size, 2, none⟩ = some (.slice (some ⟨b, o, none⟩) l.length cap)) (exact KS.out _ (by (repeat' (first | (with_reducible exact Below.refl _ _) | (with_reducible assumption) | (with_reducible refine Below.alloc ?_ ?_ _) | (with_reducible refine Below.setCell ?_ ?_ _) | (with_reducible refine Below.drew ?_) | (with_reducible refine below_drewN ?_ _) | (with_reducible refine Below.trans ?_ (Below.mono (by assumption) ?_)) | go_size))))
      ((first
        | (go_at_call 46; (with_reducible refine (spec_ggGroups r c (some ⟨b, o, none⟩) cap l _ HG.out ?_).mono ?_); (focus exact (hr.below (B0.trans ((by (repeat' (first | (with_reducible exact Below.refl _ _) | (with_reducible assumption) | (with_reducible refine Below.alloc ?_ ?_ _) | (with_reducible refine Below.setCell ?_ ?_ _) | (with_reducible refine Below.drew ?_) | (with_reducible refine below_drewN ?_ _) | (with_reducible refine Below.trans ?_ (Below.mono (by assumption) ?_)) | go_size)) : Below v0.heap.size v0 _).mono B0.size))).mono (Nat.le_trans B0.size (by (repeat' (first | (with_reducible exact Below.refl _ _) | (with_reducible assumption) | (with_reducible refine Below.alloc ?_ ?_ _) | (with_reducible refine Below.setCell ?_ ?_ _) | (with_reducible refine Below.drew ?_) | (with_reducible refine below_drewN ?_ _) | (with_reducible refine Below.trans ?_ (Below.mono (by assumption) ?_)) | go_size)) : Below v0.heap.size v0 _).size)); rintro e wG hP; obtain ⟨A6, c6, rfl, o6, n6, bT⟩ := hP.value; clear hP; obtain ⟨g6, rest6, rfl, X6⟩ := o6 (by rw [ints_length, HNl.out]; exact hpos); have h6 : v0.heap.size ≤ g6 := Nat.le_trans (by (repeat' (first | (with_reducible exact Below.refl _ _) | (with_reducible assumption) | (with_reducible refine Below.alloc ?_ ?_ _) | (with_reducible refine Below.setCell ?_ ?_ _) | (with_reducible refine Below.drew ?_) | (with_reducible refine below_drewN ?_ _) | (with_reducible refine Below.trans ?_ (Below.mono (by assumption) ?_)) | go_size)) : Below v0.heap.size v0 _).size (n6 _ rfl); clear o6 n6; have sG : v0.heap.size ≤ wG.heap.size := (by (repeat' (first | (with_reducible exact Below.refl _ _) | (with_reducible assumption) | (with_reducible refine Below.alloc ?_ ?_ _) | (with_reducible refine Below.setCell ?_ ?_ _) | (with_reducible refine Below.drew ?_) | (with_reducible refine below_drewN ?_ _) | (with_reducible refine Below.trans ?_ (Below.mono (by assumption) ?_)) | go_size)) : Below v0.heap.size v0 wG).size; (first | have zb := oldB zb bT | have zb := oldA zb bT | have zb := newB (t := 25) (xs := [.int .i64 0, .int .i64 0, .slice none 0 0]) bT | have zb := newD (t := 25) (xs := [.int .i64 0, .int .i64 0, .slice none 0 0]) bT | skip); (first | have X7 := oldB X7 bT | have X7 := oldA X7 bT | skip); (first | (have hzb := zb.lt; have qb0 := (zb.cell 0).trans rfl; have qb1 := (zb.cell 1).trans rfl; have qb2 := (zb.cell 2).trans rfl; have rb0 := zb.frozen 0; have rb1 := zb.frozen 1; have rb2 := zb.frozen 2) | skip))
        | (go_at_call 61; (with_reducible refine (spec_boOwn _ _ b o cap l _ hpos (by omega) ?_).mono ?_); (focus exact (hr.below (B0.trans ((by (repeat' (first | (with_reducible exact Below.refl _ _) | (with_reducible assumption) | (with_reducible refine Below.alloc ?_ ?_ _) | (with_reducible refine Below.setCell ?_ ?_ _) | (with_reducible refine Below.drew ?_) | (with_reducible refine below_drewN ?_ _) | (with_reducible refine Below.trans ?_ (Below.mono (by assumption) ?_)) | go_size)) : Below v0.heap.size v0 _).mono B0.size))).mono (Nat.le_trans B0.size (by (repeat' (first | (with_reducible exact Below.refl _ _) | (with_reducible assumption) | (with_reducible refine Below.alloc ?_ ?_ _) | (with_reducible refine Below.setCell ?_ ?_ _) | (with_reducible refine Below.drew ?_) | (with_reducible refine below_drewN ?_ _) | (with_reducible refine Below.trans ?_ (Below.mono (by assumption) ?_)) | go_size)) : Below v0.heap.size v0 _).size)); rintro e wO ⟨A5, c5, rfl, o5, n5, bO⟩; obtain ⟨g5, rest5, rfl, X7⟩ := o5 (by rw [flat_length]; omega); have h5 : v0.heap.size ≤ g5 := Nat.le_trans (by (repeat' (first | (with_reducible exact Below.refl _ _) | (with_reducible assumption) | (with_reducible refine Below.alloc ?_ ?_ _) | (with_reducible refine Below.setCell ?_ ?_ _) | (with_reducible refine Below.drew ?_) | (with_reducible refine below_drewN ?_ _) | (with_reducible refine Below.trans ?_ (Below.mono (by assumption) ?_)) | go_size)) : Below v0.heap.size v0 _).size (n5 _ rfl); clear o5 n5; have sO : v0.heap.size ≤ wO.heap.size := (by (repeat' (first | (with_reducible exact Below.refl _ _) | (with_reducible assumption) | (with_reducible refine Below.alloc ?_ ?_ _) | (with_reducible refine Below.setCell ?_ ?_ _) | (with_reducible refine Below.drew ?_) | (with_reducible refine below_drewN ?_ _) | (with_reducible refine Below.trans ?_ (Below.mono (by assumption) ?_)) | go_size)) : Below v0.heap.size v0 wO).size; (first | have zb := oldB zb bO | have zb := oldA zb bO | have zb := newB (t := 25) (xs := [.int .i64 0, .int .i64 0, .slice none 0 0]) bO | have zb := newD (t := 25) (xs := [.int .i64 0, .int .i64 0, .slice none 0 0]) bO | skip); (first | have X6 := oldB X6 bO | have X6 := oldA X6 bO | skip); (first | (have hzb := zb.lt; have qb0 := (zb.cell 0).trans rfl; have qb1 := (zb.cell 1).trans rfl; have qb2 := (zb.cell 2).trans rfl; have rb0 := zb.frozen 0; have rb1 := zb.frozen 1; have rb2 := zb.frozen 2) | skip))
        | fail))
    all_goals (go_wp2_with fail; go_meet)
    all_goals (refine ⟨_, g6, c6, g5, c5, rest5, rest6, rfl, rfl, ?_, h6, h5, ?_, ?_, ?_, by (repeat' (first | (with_reducible exact Below.refl _ _) | (with_reducible assumption) | (with_reducible refine Below.alloc ?_ ?_ _) | (with_reducible refine Below.setCell ?_ ?_ _) | (with_reducible refine Below.drew ?_) | (with_reducible refine below_drewN ?_ _) | (with_reducible refine Below.trans ?_ (Below.mono (by assumption) ?_)) | go_size))⟩)
    all_goals (repeat' (first | (with_reducible assumption) | (with_reducible exact newW) | (with_reducible refine wh_threeB ?_) | (with_reducible refine three_farTB ?_ ?_ (by decide)) | (with_reducible refine Whole.alloc ?_ _) | (focus omega) | (focus (exact Nat.le_refl _))))
  case rest =>
    rename World => w3
    obtain ⟨gb, g6, c6, g5, c5, rest5, rest6, rfl, rfl, hgb, hg6, hg5, Xb, X7, X6, b3⟩ := hcut
    clear KS k0 k1 k2
    replace X0 := X0.below b3 X0.lt; replace X1 := X1.below b3 X1.lt; replace B0 := B0.trans (b3.mono B0.size); have hy := X0.lt; have hz := X1.lt; have hb0 := B0.size; clear b3
    have hrb : Rd w w.heap.size A' (ints cs) := hr'
    obtain ⟨i0, hi, hz0, hz1, hz2⟩ := info_parts fallInfo
    obtain ⟨s1, s2, s3, s4⟩ := sizeB_iff.1 (goodB_iff.1 HGd.out).1
    have hs0 := hb0
    have O0 : Own w3 (some ⟨g5, 0, none⟩) 86 (flat l) := fun _ => ⟨g5, rest5, rfl, X7⟩
    have hN0 : ∀ a, (some (⟨g5, 0, none⟩ : Addr)) = some a → w.heap.size ≤ a.block := fun a ha => by cases ha; show w.heap.size ≤ g5; omega
    have hgbw : w.heap.size + 1 < gb := by omega
    clear X7 hg5
    go_wp2
    go_loopw [8, 20] (fun v i wr => ∃ (k : Nat) (A : Option Addr) (cp : Nat), i = .int .i64 k ∧ k ≤ cs.length ∧ wr.ownsRow w.heap.size 50 3 v k (flatF (stA (numL c l) r c l cs k).1) ∧ Whole wr gb 25 [.int .i64 (r : Int), .int .i64 (c : Int), .slice A l.length cp] ∧ Own wr A 86 (flat (stA (numL c l) r c l cs k).2) ∧ (∀ a, A = some a → w.heap.size ≤ a.block) ∧ Whole wr g6 3 (ints (numL c l) ++ rest6) ∧ Whole wr (w.heap.size + 1) 25 [.int .i64 0, .int .i64 0, .slice none 0 0] ∧ Below w.heap.size w wr) (fun _ i _ => cs.length - (intOf i).toNat)
    case atStart => exact ⟨0, _, _, rfl, Nat.zero_le _, World.ownsRow_nil _ _ _ _, Xb, O0, hN0, X6, X1, B0⟩
    case round =>
      clear Xb O0 hN0 X6 X1 X0 B0 hy hz hb0 hs0
      obtain ⟨k, A, cp, rfl, hk, hown, Xb, hO, hA, X6, X1, B0⟩ := hrel
      have hs := B0.size
      have hlk := (HSl.out k).2
      by_cases hlt : k < cs.length
      · obtain ⟨bb, oo, rfl, hbb, hcc⟩ := hr' (by rw [ints_length]; omega)
        have hck : wr.cell? ⟨bb, oo + k, none⟩ = some (.int .i64 cs[k]) := (B0.cell (p := ⟨bb, _, none⟩) hbb).trans (hcc k _ (ints_at cs k hlt))
        have hgk := HSg.out k (by omega)
        obtain ⟨hc1, hc2⟩ := HCs.out k hlt
        have HSk := Lib.hid (show stA (numL c l) r c l cs (k + 1) = ((stA (numL c l) r c l cs k).1 ++ [((flG (numL c l) r c r 0 (stA (numL c l) r c l cs k).2 (cs.getD k 0).toNat 0 []).e, (flG (numL c l) r c r 0 (stA (numL c l) r c l cs k).2 (cs.getD k 0).toNat 0 []).row, (flG (numL c l) r c r 0 (stA (numL c l) r c l cs k).2 (cs.getD k 0).toNat 0 []).col)], (flG (numL c l) r c r 0 (stA (numL c l) r c l cs k).2 (cs.getD k 0).toNat 0 []).cells) from rfl)
        have hgd : cs.getD k 0 = cs[k] := by rw [List.getD_eq_getElem?_getD, List.getElem?_eq_getElem hlt]; rfl
        obtain ⟨cl, hcl⟩ : ∃ cl : Nat, cs[k] = (cl : Int) := ⟨cs[k].toNat, by rw [← hgd]; omega⟩
        rw [hgd, hcl] at HSk hc2
        rw [hcl] at hck
        rw [Int.toNat_natCast] at HSk
        generalize (stA (numL c l) r c l cs k).1 = fk at *
        generalize (stA (numL c l) r c l cs k).2 = lk at *
        have hgB : goodB (r : Int) (c : Int) lk = true := goodB_iff.2 ⟨(goodB_iff.1 HGd.out).1, by rw [hlk]; exact (goodB_iff.1 HGd.out).2.1, hgk⟩
        obtain ⟨ga, resta, rfl, Xa⟩ := hO (by rw [flat_length]; omega)
        have HQ := spec_flGo r c ga 0 cp g6 c6 lk (numL c l) rest6 cl wr (by rw [hlk]; exact HG.out) hgB hO.rd (by rw [hlk]; exact HNl.out) X6 (by omega)
        have HFl := Lib.hid ((flG_len (numL c l) r c r 0 lk cl 0 []).trans hlk)
        rw [hlk] at HQ
        clear hcc hgd hcl hc1 hc2 hgk hgB hlk
        generalize flG (numL c l) r c r 0 lk cl 0 [] = F at *
        have Xbk0 : wr.cell? ⟨gb, 0, none⟩ = some (.int .i64 (r : Int)) := (Xb.cell 0).trans rfl; have Xbk1 : wr.cell? ⟨gb, 1, none⟩ = some (.int .i64 (c : Int)) := (Xb.cell 1).trans rfl; have Xbk2 : wr.cell? ⟨gb, 2, none⟩ = some (.slice (some ⟨ga, 0, none⟩) l.length cp) := (Xb.cell 2).trans rfl
        go_wp2_with fail
        refine HQ.mono ?_; rintro e w5 ⟨A5, c5, v5, rfl, O5, N5, L5, b5⟩
        clear HQ hck L5
        clear Xbk0 Xbk1 Xbk2
        replace Xb := Xb.below b5 Xb.lt
        replace X6 := X6.below b5 X6.lt
        replace X1 := X1.below b5 X1.lt
        replace hown := row_keep hown b5
        have hgl := Xb.lt
        obtain ⟨gA, restA, rfl, XA⟩ := O5 (by rw [flat_length, HFl.out]; omega)
        have hA5 : ∀ a, (some (⟨gA, 0, none⟩ : Addr)) = some a → w.heap.size ≤ a.block := fun a ha => Nat.le_trans hs (N5 a ha)
        replace B0 := B0.trans (b5.mono hs)
        replace hs := B0.size
        clear b5 N5 hO Xa
        have X12 : Whole ((w5.alloc (.cells #[.int .i64 F.e, .int .i64 F.row, .int .i64 F.col] 50)).alloc (.cells #[.int .i64 (r : Int), .int .i64 (c : Int), .slice (some ⟨gA, 0, none⟩) l.length c5] 25)) (w5.heap.size + 1) 25 [.int .i64 (r : Int), .int .i64 (c : Int), .slice (some ⟨gA, 0, none⟩) l.length c5] := newW1
        go_upto_region 8 with (first | (at_builtin; go_loud (refine wpList_append_own _ rfl (.tmp 32) (.tmp 34) 29 rfl w.heap.size 50 i0 _ 3 24 Tryz.underlying29 hi hz0 hz1 hz2 rfl (by omega) u8 k _ rfl (((hown.alloc _).alloc _).alloc _) ⟨w5.heap.size + 1 + 1, 0, none⟩ 1 1 [.int .i64 F.e, .int .i64 F.row, .int .i64 F.col] rfl rfl three_cells3 three_oneF (by unfold maxLen; omega) (by omega) (by rw [World.size_alloc, World.size_alloc, World.size_alloc]; omega) ?_; intro v7 w7 hown7 hg7 _)) | fail)
        have hownY := (((hown.alloc (.cells #[.int .i64 F.e, .int .i64 F.row, .int .i64 F.col] 50)).alloc (.cells #[.int .i64 (r : Int), .int .i64 (c : Int), .slice (some ⟨gA, 0, none⟩) l.length c5] 25)).alloc (.cells #[.int .i64 F.e, .int .i64 F.row, .int .i64 F.col] 50))
        have Xb7 := (((Xb.alloc _).alloc _).alloc _).grown hg7 (row_apart hownY (((Xb.alloc _).alloc _).alloc _) (by decide))
        have XA7 := (((XA.alloc _).alloc _).alloc _).grown hg7 (row_apart hownY (((XA.alloc _).alloc _).alloc _) (by decide))
        have hne := row_apart hown7 Xb7 (by decide)
        have X67 := (((X6.alloc _).alloc _).alloc _).grown hg7 (row_apart hownY (((X6.alloc _).alloc _).alloc _) (by decide))
        have X17 := (((X1.alloc _).alloc _).alloc _).grown hg7 (row_apart hownY (((X1.alloc _).alloc _).alloc _) (by decide))
        have X127 := (X12.alloc _).grown hg7 (row_apart hownY (X12.alloc _) (by decide))
        have B7 : Below w.heap.size w w7 := row_below hownY (((B0.alloc (by omega) _).alloc (by rw [World.size_alloc]; omega) _).alloc (by rw [World.size_alloc, World.size_alloc]; omega) _) (by rw [World.size_alloc, World.size_alloc, World.size_alloc]; omega) hg7
        have X127k0 : w7.cell? ⟨(w5.heap.size + 1), 0, none⟩ = some (.int .i64 (r : Int)) := (X127.cell 0).trans rfl; have X127k1 : w7.cell? ⟨(w5.heap.size + 1), 1, none⟩ = some (.int .i64 (c : Int)) := (X127.cell 1).trans rfl; have X127k2 : w7.cell? ⟨(w5.heap.size + 1), 2, none⟩ = some (.slice (some ⟨gA, 0, none⟩) l.length c5) := (X127.cell 2).trans rfl
        have Xb7k0 : w7.cell? ⟨gb, 0, none⟩ = some (.int .i64 (r : Int)) := (Xb7.cell 0).trans rfl; have Xb7k1 : w7.cell? ⟨gb, 1, none⟩ = some (.int .i64 (c : Int)) := (Xb7.cell 1).trans rfl; have Xb7k2 : w7.cell? ⟨gb, 2, none⟩ = some (.slice (some ⟨ga, 0, none⟩) l.length cp) := (Xb7.cell 2).trans rfl
        have Xb7f0 := Xb7.frozen 0; have Xb7f1 := Xb7.frozen 1; have Xb7f2 := Xb7.frozen 2
        clear X12 X127 X1 X6 Xb hownY
        go_wp2
        refine ⟨⟨k + 1, _, _, by go_num, by omega, ?_, whole_three Xb7, ?_, hA5, three_far X67 (far_of X67 Xb7 (by decide)), three_far X17 (by omega), ?_⟩, by simp [intOf]; omega⟩
        · rw [HSk.out]
          rw [flatF_app]
          exact row_setFarW (row_setFarW (row_setFarW hown7 _ _ hne) _ _ hne) _ _ hne
        · rw [HSk.out]
          exact fun _ => ⟨gA, restA, rfl, three_far XA7 (far_of XA7 Xb7 (by decide))⟩
        · exact ((B7.setCell (p := ⟨gb, 0, none⟩) (by show w.heap.size ≤ gb; omega) _).setCell (p := ⟨gb, 1, none⟩) (by show w.heap.size ≤ gb; omega) _).setCell (p := ⟨gb, 2, none⟩) (by show w.heap.size ≤ gb; omega) _
      · obtain rfl : k = cs.length := by omega
        clear hlt hlk
        have Xbk0 : wr.cell? ⟨gb, 0, none⟩ = some (.int .i64 (r : Int)) := (Xb.cell 0).trans rfl; have Xbk1 : wr.cell? ⟨gb, 1, none⟩ = some (.int .i64 (c : Int)) := (Xb.cell 1).trans rfl; have Xbk2 : wr.cell? ⟨gb, 2, none⟩ = some (.slice A l.length cp) := (Xb.cell 2).trans rfl
        have X1k0 : wr.cell? ⟨w.heap.size + 1, 0, none⟩ = some (.int .i64 0) := (X1.cell 0).trans rfl; have X1k1 : wr.cell? ⟨w.heap.size + 1, 1, none⟩ = some (.int .i64 0) := (X1.cell 1).trans rfl; have X1k2 : wr.cell? ⟨w.heap.size + 1, 2, none⟩ = some (.slice none 0 0) := (X1.cell 2).trans rfl
        have X1f0 := X1.frozen 0; have X1f1 := X1.frozen 1; have X1f2 := X1.frozen 2
        have z1 := X1.lt
        have zb := Xb.lt
        have hne := row_apart hown X1 (by decide)
        go_upto_region 10 with (fail)
        go_region
        go_wp2
        (refine bodyPost_ret (v := .tuple #[u8, .agg #[.int .i64 (r : Int), .int .i64 (c : Int), .slice A l.length cp]]) ?_ rfl ?_); (focus (simp [results, Tryz.results36, go_sem, *]; done))
        refine ⟨u8, A, cp, rfl, ?_, ?_, hA, ?_⟩
        · exact row_keep (row_setFarW (row_setFarW (row_setFarW hown _ _ hne) _ _ hne) _ _ hne) ((Below.refl _ _).drew)
        · exact (own_three hO X1 (by decide)).keep ((Below.refl _ _).drew)
        · exact (((B0.setCell (p := ⟨w.heap.size + 1, 0, none⟩) (by show w.heap.size ≤ w.heap.size + 1; omega) _).setCell (p := ⟨w.heap.size + 1, 1, none⟩) (by show w.heap.size ≤ w.heap.size + 1; omega) _).setCell (p := ⟨w.heap.size + 1, 2, none⟩) (by show w.heap.size ≤ w.heap.size + 1; omega) _).drew
end Go.Proofs.YtlnekfbhpfhcpaaGreat
namespace Go.Proofs.YtlnekfbhpfhcpaaGreat
open Go.ChangeShapes Go.WideShapes Go.ChangeAt Go.RowKit Go.Joins Go.Deep
set_option linter.unusedSimpArgs false
set_option linter.unusedVariables false
set_option maxRecDepth 100000
set_option maxHeartbeats 4000000
theorem okC'_parts {R C : Int} {l : List (Int × Int)} {cs : List Int} (h : okC' R C l cs = true) : goodB R C l = true ∧ cs.length ≤ 60 ∧ allI 0 (C - 1) cs = true := by
  unfold okC' at h
  simp only [Bool.and_eq_true, decide_eq_true_eq] at h
  exact ⟨h.1.1, h.1.2, h.2⟩
theorem row_base {w : World} {base base' : Nat} {e : TypeId} {size n : Nat} {v : Value} {xs : List Value} (h : w.ownsRow base e size v n xs) (hb : base' ≤ base) : w.ownsRow base' e size v n xs :=
  ⟨h.1, h.2.imp_right fun ⟨g, cap, cur, e1, e2, e3⟩ => ⟨g, cap, cur, e1, Nat.le_trans hb e2, e3⟩⟩
def fallsO (R C : Int) (l : List (Int × Int)) (cs : List Int) : List (Int × Int × Int) × List (Int × Int) := if okC' R C l cs then stA (numL C.toNat l) R.toNat C.toNat l cs cs.length else ([], [])
theorem spec_FallsOf (R C : Int) (A : Option Addr) (cap : Nat) (l : List (Int × Int)) (A' : Option Addr) (cap' : Nat) (cs : List Int) (w : World) (hn : l.length ≤ 1048576) (hn' : cs.length ≤ 1048576) (hr : Rd w w.heap.size A (flat l)) (hrc : Rd w w.heap.size A' (ints cs)) :
    Calls Tryz.prog 6 #[.agg #[.int .i64 R, .int .i64 C, .slice A l.length cap], .slice A' cs.length cap'] w
      fun e w' => ∃ v A5 c5, e = .returned (.tuple #[v, .agg #[.int .i64 (selI (okC' R C l cs) R), .int .i64 (selI (okC' R C l cs) C), .slice A5 (fallsO R C l cs).2.length c5], .bool (okC' R C l cs)]) ∧
        w'.ownsRow w.heap.size 50 3 v (fallsO R C l cs).1.length (flatF (fallsO R C l cs).1) ∧ Own w' A5 86 (flat (fallsO R C l cs).2) ∧ New w A5 ∧ Below w.heap.size w w' := by
  unfold fallsO
  rcases Bool.eq_false_or_eq_true (okC' R C l cs) with ho | ho
  · have HO := Lib.hid ho
    obtain ⟨hg, h60, hall⟩ := okC'_parts ho
    obtain ⟨_, _, hpos⟩ := goodB_parts hg
    obtain ⟨b, o, rfl, hbl, hc⟩ := hr (by rw [flat_length]; omega)
    have hr' : Rd w w.heap.size (some ⟨b, o, none⟩) (flat l) := fun _ => ⟨b, o, rfl, hbl, hc⟩
    obtain ⟨r, c, rfl, rfl, hG⟩ := geo_of hg
    have HLn := Lib.hid (stA_len (numL c l) r c l cs cs.length)
    rw [ho, if_pos rfl, Int.toNat_natCast, Int.toNat_natCast, (HLn.out).1, (HLn.out).2]
    clear ho hr hG
    go_enter Tryz.func6, Tryz.ntmps6
    obtain ⟨v0, hv0, X0, X1, B0, hz0⟩ := two_boxes w [.int .i64 (r : Int), .int .i64 (c : Int), .slice (some ⟨b, o, none⟩) l.length cap] 25 [.int .i64 0, .int .i64 0, .slice none 0 0] 25; have HV := Lib.hid hv0; have hz : w.heap.size + 1 < v0.heap.size := (by omega); have hy : w.heap.size < v0.heap.size := (by omega); have hb0 := B0.size; clear hv0 hz0; go_wp2_with fail; rewrite [show (w.alloc (.cells ([.int .i64 (r : Int), .int .i64 (c : Int), .slice (some ⟨b, o, none⟩) l.length cap] : List Value).toArray 25)).alloc (.cells ([.int .i64 0, .int .i64 0, .slice none 0 0] : List Value).toArray 25) = v0 from HV.out]; clear HV
    refine (spec_flColumns _ _ _ _ l _ _ cs _ hn hn' ((hr'.below B0).mono B0.size) ((hrc.below B0).mono B0.size)).mono ?_; rintro e w1 ⟨rfl, b1⟩
    rewrite [HO.out]
    replace X0 := X0.below b1 X0.lt; replace X1 := X1.below b1 X1.lt; replace B0 := B0.trans (b1.mono B0.size); have hy := X0.lt; have hz := X1.lt; have hb0 := B0.size; clear b1
    have X0k0 : w1.cell? ⟨w.heap.size, 0, none⟩ = some (.int .i64 (r : Int)) := (X0.cell 0).trans rfl; have X0k1 : w1.cell? ⟨w.heap.size, 1, none⟩ = some (.int .i64 (c : Int)) := (X0.cell 1).trans rfl; have X0k2 : w1.cell? ⟨w.heap.size, 2, none⟩ = some (.slice (some ⟨b, o, none⟩) l.length cap) := (X0.cell 2).trans rfl
    go_wp2_with fail
    refine (spec_flAll r c b o cap l A' cap' cs _ hg ((hr'.below B0).mono B0.size) ((hrc.below B0).mono B0.size) h60 hall).mono ?_; rintro e w2 ⟨v, A5, c5, rfl, hown, O5, N5, b2⟩
    clear X0k0 X0k1 X0k2
    have hs := B0.size
    replace X0 := X0.below b2 X0.lt; replace X1 := X1.below b2 X1.lt; replace B0 := B0.trans (b2.mono B0.size); have hy := X0.lt; have hz := X1.lt; have hb0 := B0.size; clear b2
    have hn0 : New w A5 := fun a ha => Nat.le_trans hs (N5 a ha)
    replace hown : w2.ownsRow w.heap.size 50 3 v cs.length (flatF (stA (numL c l) r c l cs cs.length).1) := row_base hown hs
    go_upto_region 4 with (fail)
    obtain ⟨v5, hv5⟩ : ∃ v5, v5 = w2.alloc (.cells #[.int .i64 (r : Int), .int .i64 (c : Int), .slice A5 l.length c5] 25) := ⟨_, rfl⟩
    have X5 : Whole v5 w2.heap.size 25 [.int .i64 (r : Int), .int .i64 (c : Int), .slice A5 l.length c5] := by rw [hv5]; exact newW
    replace X1 : Whole v5 (w.heap.size + 1) 25 [.int .i64 0, .int .i64 0, .slice none 0 0] := by rw [hv5]; exact X1.alloc _
    replace hown : v5.ownsRow w.heap.size 50 3 v cs.length (flatF (stA (numL c l) r c l cs cs.length).1) := by rw [hv5]; exact hown.alloc _
    replace O5 : Own v5 A5 86 (flat (stA (numL c l) r c l cs cs.length).2) := by rw [hv5]; exact O5.alloc_ _
    replace B0 : Below w.heap.size w v5 := by rw [hv5]; exact B0.alloc hb0 _
    have hne := row_apart hown X1 (by decide)
    rewrite [← hv5]
    clear hv5 X0
    have X5k0 : v5.cell? ⟨w2.heap.size, 0, none⟩ = some (.int .i64 (r : Int)) := (X5.cell 0).trans rfl; have X5k1 : v5.cell? ⟨w2.heap.size, 1, none⟩ = some (.int .i64 (c : Int)) := (X5.cell 1).trans rfl; have X5k2 : v5.cell? ⟨w2.heap.size, 2, none⟩ = some (.slice A5 l.length c5) := (X5.cell 2).trans rfl
    have X1k0 : v5.cell? ⟨w.heap.size + 1, 0, none⟩ = some (.int .i64 0) := (X1.cell 0).trans rfl; have X1k1 : v5.cell? ⟨w.heap.size + 1, 1, none⟩ = some (.int .i64 0) := (X1.cell 1).trans rfl; have X1k2 : v5.cell? ⟨w.heap.size + 1, 2, none⟩ = some (.slice none 0 0) := (X1.cell 2).trans rfl
    have X1f0 := X1.frozen 0; have X1f1 := X1.frozen 1; have X1f2 := X1.frozen 2
    have z1 := X1.lt
    have z5 := X5.lt
    go_region
    go_wp2
    refine bodyPost_ret (v := .tuple #[v, .agg #[.int .i64 (r : Int), .int .i64 (c : Int), .slice A5 l.length c5], .bool true]) ?_ rfl ?_; (focus (simp [results, Tryz.results6, go_sem, *]; done))
    refine ⟨v, A5, c5, rfl, ?_, ?_, hn0, ?_⟩
    · exact row_keep (row_setFarW (row_setFarW (row_setFarW hown _ _ hne) _ _ hne) _ _ hne) ((Below.refl _ _).drew)
    · exact (own_three O5 X1 (by decide)).keep ((Below.refl _ _).drew)
    · exact (((B0.setCell (p := ⟨w.heap.size + 1, 0, none⟩) (by show w.heap.size ≤ w.heap.size + 1; omega) _).setCell (p := ⟨w.heap.size + 1, 1, none⟩) (by show w.heap.size ≤ w.heap.size + 1; omega) _).setCell (p := ⟨w.heap.size + 1, 2, none⟩) (by show w.heap.size ≤ w.heap.size + 1; omega) _).drew
  · have HO := Lib.hid ho
    rw [ho]
    clear ho
    go_enter Tryz.func6, Tryz.ntmps6
    obtain ⟨v0, hv0, X0, X1, B0, hz0⟩ := two_boxes w [.int .i64 R, .int .i64 C, .slice A l.length cap] 25 [.int .i64 0, .int .i64 0, .slice none 0 0] 25; have HV := Lib.hid hv0; have hz : w.heap.size + 1 < v0.heap.size := (by omega); have hy : w.heap.size < v0.heap.size := (by omega); have hb0 := B0.size; clear hv0 hz0; go_wp2_with fail; rewrite [show (w.alloc (.cells ([.int .i64 R, .int .i64 C, .slice A l.length cap] : List Value).toArray 25)).alloc (.cells ([.int .i64 0, .int .i64 0, .slice none 0 0] : List Value).toArray 25) = v0 from HV.out]; clear HV
    refine (spec_flColumns _ _ _ _ l _ _ cs _ hn hn' ((hr.below B0).mono B0.size) ((hrc.below B0).mono B0.size)).mono ?_; rintro e w1 ⟨rfl, b1⟩
    rewrite [HO.out]
    replace X0 := X0.below b1 X0.lt; replace X1 := X1.below b1 X1.lt; replace B0 := B0.trans (b1.mono B0.size); have hy := X0.lt; have hz := X1.lt; have hb0 := B0.size; clear b1
    have X1k0 : w1.cell? ⟨w.heap.size + 1, 0, none⟩ = some (.int .i64 0) := (X1.cell 0).trans rfl; have X1k1 : w1.cell? ⟨w.heap.size + 1, 1, none⟩ = some (.int .i64 0) := (X1.cell 1).trans rfl; have X1k2 : w1.cell? ⟨w.heap.size + 1, 2, none⟩ = some (.slice none 0 0) := (X1.cell 2).trans rfl
    have X1f0 := X1.frozen 0; have X1f1 := X1.frozen 1; have X1f2 := X1.frozen 2
    go_wp2
    refine bodyPost_ret (v := .tuple #[.slice none 0 0, .agg #[.int .i64 0, .int .i64 0, .slice none 0 0], .bool false]) ?_ rfl ?_; (focus (simp [results, Tryz.results6, go_sem, *]; done))
    exact ⟨.slice none 0 0, none, ⟨0, rfl⟩, World.ownsRow_nil _ _ _ _, (fun h => absurd h (by simp [flat])), (fun a ha => (by cases ha)), by (repeat' (first | (with_reducible exact Below.refl _ _) | (with_reducible assumption) | (with_reducible refine Below.alloc ?_ ?_ _) | (with_reducible refine Below.setCell ?_ ?_ _) | (with_reducible refine Below.drew ?_) | (with_reducible refine below_drewN ?_ _) | (with_reducible refine Below.trans ?_ (Below.mono (by assumption) ?_)) | (with_reducible exact Nat.le_refl _) | (simp; done) | omega | (simp at *; omega)))⟩
end Go.Proofs.YtlnekfbhpfhcpaaGreat
namespace Go.Proofs.YtlnekfbhpfhcpaaGreat
open Go.ChangeShapes Go.WideShapes Go.ChangeAt Go.RowKit Go.Joins Go.Deep
set_option linter.unusedSimpArgs false
set_option linter.unusedVariables false
set_option maxRecDepth 100000
set_option maxHeartbeats 4000000
def colsTo (R C : Int) (l : List (Int × Int)) (j : Int) : Nat → List Int
  | 0 => []
  | k + 1 => if (marO R C l k).e = 1 then (if (marO R C l k).col = j then colsTo R C l j k ++ [(k : Int)] else colsTo R C l j k) else colsTo R C l j k
theorem colsTo_le (R C : Int) (l : List (Int × Int)) (j : Int) (k : Nat) : (colsTo R C l j k).length ≤ k := by
  induction k with
  | zero => exact Nat.le_refl 0
  | succ k ih =>
    unfold colsTo
    split
    · split
      · rw [List.length_append, List.length_singleton]; omega
      · omega
    · omega
theorem colsTo_yes {R C : Int} {l : List (Int × Int)} {j : Int} {k : Nat} (h : (marO R C l k).e = 1) (h' : (marO R C l k).col = j) : ints (colsTo R C l j (k + 1)) = ints (colsTo R C l j k) ++ [.int .i64 (k : Int)] ∧ (colsTo R C l j (k + 1)).length = (colsTo R C l j k).length + 1 := by
  have e : colsTo R C l j (k + 1) = colsTo R C l j k ++ [(k : Int)] := by
    rw [colsTo, if_pos h, if_pos h']
  rw [e]
  simp [ints]
theorem colsTo_no {R C : Int} {l : List (Int × Int)} {j : Int} {k : Nat} (h : ¬ ((marO R C l k).e = 1 ∧ (marO R C l k).col = j)) : colsTo R C l j (k + 1) = colsTo R C l j k := by
  rw [colsTo]
  by_cases h1 : (marO R C l k).e = 1
  · rw [if_pos h1, if_neg (fun h2 => h ⟨h1, h2⟩)]
  · rw [if_neg h1]
def colsO (R C : Int) (l : List (Int × Int)) (j : Int) : List Int := if okF R C l j then colsTo R C l j C.toNat else []
theorem spec_ColumnsTo (R C : Int) (A : Option Addr) (cap : Nat) (l : List (Int × Int)) (j : Int) (w : World) (hn : l.length ≤ 1048576) (hr : Rd w w.heap.size A (flat l)) :
    Calls Tryz.prog 11 #[.agg #[.int .i64 R, .int .i64 C, .slice A l.length cap], .int .i64 j] w (PostL w (colsO R C l j) (okF R C l j)) := by
  unfold colsO
  rcases Bool.eq_false_or_eq_true (okF R C l j) with ho | ho
  · have HO := Lib.hid ho
    obtain ⟨hg, h1, h2⟩ := okF_parts ho
    obtain ⟨_, _, hpos⟩ := goodB_parts hg
    obtain ⟨b, o, rfl, hbl, hc⟩ := hr (by rw [flat_length]; omega)
    have hr' : Rd w w.heap.size (some ⟨b, o, none⟩) (flat l) := fun _ => ⟨b, o, rfl, hbl, hc⟩
    obtain ⟨r, c, rfl, rfl, hG⟩ := geo_of hg
    obtain ⟨cl, rfl⟩ : ∃ cl : Nat, j = (cl : Int) := ⟨j.toNat, by omega⟩
    have hcl : cl < c := by omega
    rw [ho, if_pos rfl, Int.toNat_natCast]
    clear ho hr hG
    obtain ⟨i0, hi, hz0, hz1, hz2⟩ := info_parts intInfo
    obtain ⟨s1, s2, s3, s4⟩ := sizeB_iff.1 (goodB_iff.1 hg).1
    go_enter Tryz.func11, Tryz.ntmps11
    obtain ⟨v0, hv0⟩ : ∃ v, v = w.alloc (.cells #[.int .i64 (r : Int), .int .i64 (c : Int), .slice (some ⟨b, o, none⟩) l.length cap] 25) := ⟨_, rfl⟩; have X0 : Whole v0 w.heap.size 25 [.int .i64 (r : Int), .int .i64 (c : Int), .slice (some ⟨b, o, none⟩) l.length cap] := (by rw [hv0]; exact heap_alloc_new w _); have hb : Below w.heap.size w v0 := (by rw [hv0]; exact (Below.refl _ _).alloc (Nat.le_refl _) _); have HV := Lib.hid hv0.symm; clear hv0; go_upto_region 1 with (fail); rewrite [HV.out]; clear HV; have X0k0 : v0.cell? ⟨w.heap.size, 0, none⟩ = some (.int .i64 (r : Int)) := (X0.cell 0).trans rfl; have X0k1 : v0.cell? ⟨w.heap.size, 1, none⟩ = some (.int .i64 (c : Int)) := (X0.cell 1).trans rfl; have X0k2 : v0.cell? ⟨w.heap.size, 2, none⟩ = some (.slice (some ⟨b, o, none⟩) l.length cap) := (X0.cell 2).trans rfl
    go_wp2_with fail
    refine (spec_flHas _ _ _ _ l _ _ hn ((hr'.below hb).mono hb.size)).mono ?_; rintro e w1 ⟨rfl, b1⟩
    rewrite [HO.out]
    (clear X0k0 X0k1 X0k2; replace X0 := X0.below b1 X0.lt; replace hb := hb.trans (b1.mono hb.size); clear b1; have X0k0 : w1.cell? ⟨w.heap.size, 0, none⟩ = some (.int .i64 (r : Int)) := (X0.cell 0).trans rfl; have X0k1 : w1.cell? ⟨w.heap.size, 1, none⟩ = some (.int .i64 (c : Int)) := (X0.cell 1).trans rfl; have X0k2 : w1.cell? ⟨w.heap.size, 2, none⟩ = some (.slice (some ⟨b, o, none⟩) l.length cap) := (X0.cell 2).trans rfl)
    clear X0k0 X0k1 X0k2
    go_wp2
    go_loopw [6, 7] (fun v i wr => ∃ k : Nat, k ≤ c ∧ i = .int .i64 k ∧ wr.ownsRow w.heap.size 3 1 v (colsTo r c l cl k).length (ints (colsTo r c l cl k)) ∧ Whole wr w.heap.size 25 [.int .i64 (r : Int), .int .i64 (c : Int), .slice (some ⟨b, o, none⟩) l.length cap] ∧ Below w.heap.size w wr) (fun _ i _ => c - (intOf i).toNat)
    case atStart => exact ⟨0, Nat.zero_le _, rfl, World.ownsRow_nil _ _ _ _, X0, hb⟩
    case round =>
      clear X0 hb
      obtain ⟨k, hk, rfl, hown, X0, hb⟩ := hrel
      by_cases hlt : k < c
      · have hs := hb.size
        have HLe := Lib.hid (colsTo_le (r : Int) c l cl k)
        have HY := Lib.hid (fun h h' => colsTo_yes (R := (r : Int)) (C := (c : Int)) (l := l) (j := (cl : Int)) (k := k) h h')
        have HN := Lib.hid (fun h => colsTo_no (R := (r : Int)) (C := (c : Int)) (l := l) (j := (cl : Int)) (k := k) h)
        have X0k0 : wr.cell? ⟨w.heap.size, 0, none⟩ = some (.int .i64 (r : Int)) := (X0.cell 0).trans rfl; have X0k1 : wr.cell? ⟨w.heap.size, 1, none⟩ = some (.int .i64 (c : Int)) := (X0.cell 1).trans rfl; have X0k2 : wr.cell? ⟨w.heap.size, 2, none⟩ = some (.slice (some ⟨b, o, none⟩) l.length cap) := (X0.cell 2).trans rfl
        go_wp2_with fail
        refine (spec_flRun r c b o cap l k _ hg ((hr'.below hb).mono hb.size) hlt).mono ?_; rintro e w2 ⟨A5, c5, rfl, O5, N5, b2⟩
        clear X0k0 X0k1 X0k2
        generalize marO (r : Int) (c : Int) l (k : Int) = M at *
        go_upto_region 8 with (fail)
        obtain ⟨v5, hv5, Xf, Xb, b5, hz5⟩ := two_boxes w2 [.int .i64 M.e, .int .i64 M.row, .int .i64 M.col] 50 [.int .i64 (r : Int), .int .i64 (c : Int), .slice A5 l.length c5] 25
        rewrite [show (w2.alloc (.cells ([.int .i64 M.e, .int .i64 M.row, .int .i64 M.col] : List Value).toArray 50)).alloc (.cells ([.int .i64 (r : Int), .int .i64 (c : Int), .slice A5 l.length c5] : List Value).toArray 25) = v5 from hv5]
        clear hv5 hz5 O5 N5
        replace b2 := b2.trans (b5.mono b2.size)
        clear b5
        replace hown := row_keep hown b2
        replace X0 := X0.below b2 X0.lt
        replace hb := hb.trans (b2.mono hs)
        clear b2
        replace hs := hb.size
        have q0 := (Xf.cell 0).trans rfl
        have q1 := (Xf.cell 1).trans rfl
        have q2 := (Xf.cell 2).trans rfl
        have hzf := Xf.lt
        generalize M.e = x at *
        generalize M.col = y at *
        clear Xb
        by_cases hx : x = 1
        · subst hx
          by_cases hy : y = (cl : Int)
          · subst hy
            have HX := Lib.hid (HY.out rfl rfl)
            clear HY HN
            have hle := HLe.out
            generalize hL : colsTo (r : Int) c l cl k = L at *
            go_wp2_with (first | (at_builtin; refine wpList_append_own _ rfl (.tmp 35) (.tmp 37) 26 rfl w.heap.size 3 i0 _ 1 8 Tryz.underlying26 hi hz0 hz1 hz2 rfl (by omega) _ L.length (ints L) rfl (hown.alloc _) ⟨v5.heap.size, 0, none⟩ 1 1 [.int .i64 (k : Int)] rfl rfl one_cellI one_oneI (by unfold maxLen; omega) (by omega) (by simp; omega) ?_; intro v3 w3 hown3 hg3 _) | fail)
            have hb3 : Below w.heap.size w w3 := row_below (hown.alloc _) (hb.alloc (by omega) _) (by simp; omega) hg3
            have hw3 := (X0.alloc (.cells #[.int .i64 (k : Int)] 3)).grown hg3 (row_apart (hown.alloc (.cells #[.int .i64 (k : Int)] 3)) (X0.alloc (.cells #[.int .i64 (k : Int)] 3)) (by decide))
            rw [← HX.out.1, ← HX.out.2] at hown3
            go_roundw
            case rel => exact ⟨k + 1, by omega, by go_num, hown3, hw3, hb3⟩
            case measure => simp [intOf]; omega
          · have hyb : (y == (cl : Int)) = false := by simpa using hy
            have HX := Lib.hid (HN.out (fun h => hy h.2))
            clear HY HN hy
            go_wp2
            go_roundw
            case rel => exact ⟨k + 1, by omega, by go_num, by rw [HX.out]; exact hown, X0, hb⟩
            case measure => simp [intOf]; omega
        · have hxb : (x == 1) = false := by simpa using hx
          have HX := Lib.hid (HN.out (fun h => hx h.1))
          clear HY HN hx
          go_wp2
          go_roundw
          case rel => exact ⟨k + 1, by omega, by go_num, by rw [HX.out]; exact hown, X0, hb⟩
          case measure => simp [intOf]; omega
      · obtain rfl : k = c := by omega
        obtain ⟨A7, cap7, rfl⟩ := slice_of_row hown
        have ho := own_of_row hown
        have X0k0 : wr.cell? ⟨w.heap.size, 0, none⟩ = some (.int .i64 (r : Int)) := (X0.cell 0).trans rfl; have X0k1 : wr.cell? ⟨w.heap.size, 1, none⟩ = some (.int .i64 (k : Int)) := (X0.cell 1).trans rfl; have X0k2 : wr.cell? ⟨w.heap.size, 2, none⟩ = some (.slice (some ⟨b, o, none⟩) l.length cap) := (X0.cell 2).trans rfl
        clear hlt
        go_wp2
        go_returns
        exact PostL.mk ho.1 ho.2 hb
  · have HO := Lib.hid ho
    rw [ho]
    clear ho
    go_enter Tryz.func11, Tryz.ntmps11
    obtain ⟨v0, hv0⟩ : ∃ v, v = w.alloc (.cells #[.int .i64 R, .int .i64 C, .slice A l.length cap] 25) := ⟨_, rfl⟩; have X0 : Whole v0 w.heap.size 25 [.int .i64 R, .int .i64 C, .slice A l.length cap] := (by rw [hv0]; exact heap_alloc_new w _); have hb : Below w.heap.size w v0 := (by rw [hv0]; exact (Below.refl _ _).alloc (Nat.le_refl _) _); have HV := Lib.hid hv0.symm; clear hv0; go_upto_region 1 with (fail); rewrite [HV.out]; clear HV; have X0k0 : v0.cell? ⟨w.heap.size, 0, none⟩ = some (.int .i64 R) := (X0.cell 0).trans rfl; have X0k1 : v0.cell? ⟨w.heap.size, 1, none⟩ = some (.int .i64 C) := (X0.cell 1).trans rfl; have X0k2 : v0.cell? ⟨w.heap.size, 2, none⟩ = some (.slice A l.length cap) := (X0.cell 2).trans rfl
    go_wp2_with fail
    refine (spec_flHas _ _ _ _ l _ _ hn ((hr.below hb).mono hb.size)).mono ?_; rintro e w1 ⟨rfl, b1⟩
    rewrite [HO.out]
    (clear X0k0 X0k1 X0k2; replace X0 := X0.below b1 X0.lt; replace hb := hb.trans (b1.mono hb.size); clear b1; have X0k0 : w1.cell? ⟨w.heap.size, 0, none⟩ = some (.int .i64 R) := (X0.cell 0).trans rfl; have X0k1 : w1.cell? ⟨w.heap.size, 1, none⟩ = some (.int .i64 C) := (X0.cell 1).trans rfl; have X0k2 : w1.cell? ⟨w.heap.size, 2, none⟩ = some (.slice A l.length cap) := (X0.cell 2).trans rfl)
    go_wp2
    go_returns
    exact PostL.none_ (by (repeat' (first | (with_reducible exact Below.refl _ _) | (with_reducible assumption) | (with_reducible refine Below.alloc ?_ ?_ _) | (with_reducible refine Below.setCell ?_ ?_ _) | (with_reducible refine Below.drew ?_) | (with_reducible refine below_drewN ?_ _) | (with_reducible refine Below.trans ?_ (Below.mono (by assumption) ?_)) | (with_reducible exact Nat.le_refl _) | (simp; done) | omega | (simp at *; omega))))
end Go.Proofs.YtlnekfbhpfhcpaaGreat
namespace Go.Proofs.YtlnekfbhpfhcpaaGreat
open Go.ChangeShapes Go.WideShapes Go.ChangeAt Go.RowKit Go.Joins Go.Deep
set_option linter.unusedSimpArgs false
set_option linter.unusedVariables false
set_option maxRecDepth 100000
set_option maxHeartbeats 4000000
theorem heldFall : Tryz.prog.stoodInHeld 50 = false := by kernel_rfl
theorem guardFall : Tryz.prog.eqGuardType Tryz.prog.depth 50 = false := by kernel_rfl
def feq (R C : Int) (l : List (Int × Int)) (R' C' : Int) (m : List (Int × Int)) (k : Nat) : Bool := decide ((marO R C l k).e = (marO R' C' m k).e ∧ (marO R C l k).row = (marO R' C' m k).row ∧ (marO R C l k).col = (marO R' C' m k).col)
def feqTo (R C : Int) (l : List (Int × Int)) (R' C' : Int) (m : List (Int × Int)) : Nat → Bool
  | 0 => true
  | k + 1 => feqTo R C l R' C' m k && feq R C l R' C' m k
theorem feqTo_no {R C : Int} {l : List (Int × Int)} {R' C' : Int} {m : List (Int × Int)} {k : Nat} (h : feq R C l R' C' m k = false) : ∀ n, k < n → feqTo R C l R' C' m n = false
  | n + 1, hn => by
    rw [feqTo]
    by_cases hk : k = n
    · subst hk; rw [h, Bool.and_false]
    · rw [feqTo_no h n (by omega), Bool.false_and]
theorem feqTo_yes {R C : Int} {l : List (Int × Int)} {R' C' : Int} {m : List (Int × Int)} {k : Nat} (hF : feqTo R C l R' C' m k = true) (h : (marO R C l k).e = (marO R' C' m k).e ∧ (marO R C l k).row = (marO R' C' m k).row ∧ (marO R C l k).col = (marO R' C' m k).col) : feqTo R C l R' C' m (k + 1) = true := by
  rw [feqTo, hF, Bool.true_and]
  exact decide_eq_true h
theorem feqTo_not {R C : Int} {l : List (Int × Int)} {R' C' : Int} {m : List (Int × Int)} {k n : Nat} (hk : k < n) (h : ¬ ((marO R C l k).e = (marO R' C' m k).e ∧ (marO R C l k).row = (marO R' C' m k).row ∧ (marO R C l k).col = (marO R' C' m k).col)) : feqTo R C l R' C' m n = false :=
  feqTo_no (decide_eq_false h) n hk
def okS (R C : Int) (l : List (Int × Int)) (R' C' : Int) (m : List (Int × Int)) : Bool := goodB R C l && goodB R' C' m && decide (C = C')
def sameF (R C : Int) (l : List (Int × Int)) (R' C' : Int) (m : List (Int × Int)) : Bool := okS R C l R' C' m && feqTo R C l R' C' m C.toNat
theorem ret_bb {x y x' y' : Bool} (h : x = x') (h' : y = y') : Ending.returned (.tuple #[.bool x, .bool y]) = .returned (.tuple #[.bool x', .bool y']) := by rw [h, h']
theorem spec_SameFalls (R C : Int) (A : Option Addr) (cap : Nat) (l : List (Int × Int)) (R' C' : Int) (A' : Option Addr) (cap' : Nat) (m : List (Int × Int)) (w : World) (hn : l.length ≤ 1048576) (hr : Rd w w.heap.size A (flat l)) (hm : m.length ≤ 1048576) (hr' : Rd w w.heap.size A' (flat m)) :
    Calls Tryz.prog 16 #[.agg #[.int .i64 R, .int .i64 C, .slice A l.length cap], .agg #[.int .i64 R', .int .i64 C', .slice A' m.length cap']] w fun e w' => e = .returned (.tuple #[.bool (sameF R C l R' C' m), .bool (okS R C l R' C' m)]) ∧ Below w.heap.size w w' := by
  unfold sameF
  rcases Bool.eq_false_or_eq_true (goodB R C l) with hg | hg
  · have HG := Lib.hid hg
    rcases Bool.eq_false_or_eq_true (goodB R' C' m) with hg' | hg'
    · have HG' := Lib.hid hg'
      by_cases hC : C = C'
      · have ho : okS R C l R' C' m = true := by unfold okS; rw [hg, hg', decide_eq_true hC]; rfl
        rw [ho, Bool.true_and]
        subst hC
        clear ho
        obtain ⟨_, _, hpos⟩ := goodB_parts hg
        obtain ⟨_, _, hpos'⟩ := goodB_parts hg'
        obtain ⟨b, o, rfl, hbl, hc⟩ := hr (by rw [flat_length]; omega)
        have hrl : Rd w w.heap.size (some ⟨b, o, none⟩) (flat l) := fun _ => ⟨b, o, rfl, hbl, hc⟩
        obtain ⟨b', o', rfl, hbl', hc'⟩ := hr' (by rw [flat_length]; omega)
        have hrm : Rd w w.heap.size (some ⟨b', o', none⟩) (flat m) := fun _ => ⟨b', o', rfl, hbl', hc'⟩
        obtain ⟨r, c, rfl, rfl, hG⟩ := geo_of hg
        obtain ⟨r', c', rfl, ec, hG'⟩ := geo_of hg'
        obtain rfl : c = c' := by omega
        obtain ⟨s1, s2, s3, s4⟩ := sizeB_iff.1 (goodB_iff.1 hg).1
        rw [Int.toNat_natCast]
        clear hr hr' hc hc' hG hG' ec
        go_enter Tryz.func16, Tryz.ntmps16
        obtain ⟨v0, hv0, X0, X1, B0, hz0⟩ := two_boxes w [.int .i64 (r : Int), .int .i64 (c : Int), .slice (some ⟨b, o, none⟩) l.length cap] 25 [.int .i64 (r' : Int), .int .i64 (c : Int), .slice (some ⟨b', o', none⟩) m.length cap'] 25; have HV := Lib.hid hv0; have hz : w.heap.size + 1 < v0.heap.size := (by omega); have hy : w.heap.size < v0.heap.size := (by omega); have hb0 := B0.size; clear hv0 hz0; go_wp2_with fail; rewrite [show (w.alloc (.cells ([.int .i64 (r : Int), .int .i64 (c : Int), .slice (some ⟨b, o, none⟩) l.length cap] : List Value).toArray 25)).alloc (.cells ([.int .i64 (r' : Int), .int .i64 (c : Int), .slice (some ⟨b', o', none⟩) m.length cap'] : List Value).toArray 25) = v0 from HV.out]; clear HV
        refine (spec_boGood _ _ _ _ l _ hn ((hrl.below B0).mono B0.size)).mono ?_; rintro e w1 ⟨rfl, b1⟩
        rewrite [HG.out]
        replace X0 := X0.below b1 X0.lt; replace X1 := X1.below b1 X1.lt; replace B0 := B0.trans (b1.mono B0.size); have hy := X0.lt; have hz := X1.lt; have hb0 := B0.size; clear b1
        have X1k0 : w1.cell? ⟨w.heap.size + 1, 0, none⟩ = some (.int .i64 (r' : Int)) := (X1.cell 0).trans rfl; have X1k1 : w1.cell? ⟨w.heap.size + 1, 1, none⟩ = some (.int .i64 (c : Int)) := (X1.cell 1).trans rfl; have X1k2 : w1.cell? ⟨w.heap.size + 1, 2, none⟩ = some (.slice (some ⟨b', o', none⟩) m.length cap') := (X1.cell 2).trans rfl
        go_wp2_with fail
        refine (spec_boGood _ _ _ _ m _ hm ((hrm.below B0).mono B0.size)).mono ?_; rintro e w2 ⟨rfl, b2⟩
        rewrite [HG'.out]
        clear X1k0 X1k1 X1k2
        replace X0 := X0.below b2 X0.lt; replace X1 := X1.below b2 X1.lt; replace B0 := B0.trans (b2.mono B0.size); have hy := X0.lt; have hz := X1.lt; have hb0 := B0.size; clear b2
        have X0k0 : w2.cell? ⟨w.heap.size, 0, none⟩ = some (.int .i64 (r : Int)) := (X0.cell 0).trans rfl; have X0k1 : w2.cell? ⟨w.heap.size, 1, none⟩ = some (.int .i64 (c : Int)) := (X0.cell 1).trans rfl; have X0k2 : w2.cell? ⟨w.heap.size, 2, none⟩ = some (.slice (some ⟨b, o, none⟩) l.length cap) := (X0.cell 2).trans rfl
        have X1k0 : w2.cell? ⟨w.heap.size + 1, 0, none⟩ = some (.int .i64 (r' : Int)) := (X1.cell 0).trans rfl; have X1k1 : w2.cell? ⟨w.heap.size + 1, 1, none⟩ = some (.int .i64 (c : Int)) := (X1.cell 1).trans rfl; have X1k2 : w2.cell? ⟨w.heap.size + 1, 2, none⟩ = some (.slice (some ⟨b', o', none⟩) m.length cap') := (X1.cell 2).trans rfl
        go_wp2
        clear X0k0 X0k1 X0k2
        clear X1k0 X1k1 X1k2
        go_loopw [6] (fun i wr => ∃ k : Nat, k ≤ c ∧ i = .int .i64 k ∧ feqTo (r : Int) (c : Int) l (r' : Int) (c : Int) m k = true ∧ Whole wr w.heap.size 25 [.int .i64 (r : Int), .int .i64 (c : Int), .slice (some ⟨b, o, none⟩) l.length cap] ∧ Whole wr (w.heap.size + 1) 25 [.int .i64 (r' : Int), .int .i64 (c : Int), .slice (some ⟨b', o', none⟩) m.length cap'] ∧ Below w.heap.size w wr) (fun i _ => c - (intOf i).toNat)
        case atStart => exact ⟨0, Nat.zero_le _, rfl, rfl, X0, X1, B0⟩
        case round =>
          clear X0 X1 B0 hy hz hb0
          obtain ⟨k, hk, rfl, hF, X0, X1, B0⟩ := hrel
          by_cases hlt : k < c
          · have hs := B0.size
            have HY := Lib.hid (fun h => feqTo_yes (k := k) hF h)
            have HN := Lib.hid (fun h => feqTo_not (R := (r : Int)) (C := (c : Int)) (l := l) (R' := (r' : Int)) (C' := (c : Int)) (m := m) hlt h)
            clear hF
            have X0k0 : wr.cell? ⟨w.heap.size, 0, none⟩ = some (.int .i64 (r : Int)) := (X0.cell 0).trans rfl; have X0k1 : wr.cell? ⟨w.heap.size, 1, none⟩ = some (.int .i64 (c : Int)) := (X0.cell 1).trans rfl; have X0k2 : wr.cell? ⟨w.heap.size, 2, none⟩ = some (.slice (some ⟨b, o, none⟩) l.length cap) := (X0.cell 2).trans rfl
            go_wp2_with fail
            refine (spec_flRun r c b o cap l k _ hg ((hrl.below B0).mono B0.size) hlt).mono ?_; rintro e w3 ⟨A5, c5, rfl, O5, N5, b3⟩
            clear X0k0 X0k1 X0k2
            clear O5 N5
            generalize marO (r : Int) (c : Int) l (k : Int) = M at *
            go_upto_region 7 with (fail)
            obtain ⟨v4, hv4, Xf, Xb, b4, hz4⟩ := two_boxes w3 [.int .i64 M.e, .int .i64 M.row, .int .i64 M.col] 50 [.int .i64 (r : Int), .int .i64 (c : Int), .slice A5 l.length c5] 25
            rewrite [show (w3.alloc (.cells ([.int .i64 M.e, .int .i64 M.row, .int .i64 M.col] : List Value).toArray 50)).alloc (.cells ([.int .i64 (r : Int), .int .i64 (c : Int), .slice A5 l.length c5] : List Value).toArray 25) = v4 from hv4]
            clear hv4 hz4 Xb
            replace b3 := b3.trans (b4.mono b3.size)
            clear b4
            replace X0 := X0.below b3 X0.lt
            replace X1 := X1.below b3 X1.lt
            replace B0 := B0.trans (b3.mono hs)
            replace hs := B0.size
            clear b3
            have X1k0 : v4.cell? ⟨w.heap.size + 1, 0, none⟩ = some (.int .i64 (r' : Int)) := (X1.cell 0).trans rfl; have X1k1 : v4.cell? ⟨w.heap.size + 1, 1, none⟩ = some (.int .i64 (c : Int)) := (X1.cell 1).trans rfl; have X1k2 : v4.cell? ⟨w.heap.size + 1, 2, none⟩ = some (.slice (some ⟨b', o', none⟩) m.length cap') := (X1.cell 2).trans rfl
            go_wp2_with fail
            refine (spec_flRun r' c b' o' cap' m k _ hg' ((hrm.below B0).mono B0.size) hlt).mono ?_; rintro e w5 ⟨A6, c6, rfl, O6, N6, b5⟩
            clear X1k0 X1k1 X1k2
            clear O6 N6
            generalize marO (r' : Int) (c : Int) m (k : Int) = N at *
            go_upto_region 8 with (fail)
            obtain ⟨v6, hv6, Xg, Xh, b6, hz6⟩ := two_boxes w5 [.int .i64 N.e, .int .i64 N.row, .int .i64 N.col] 50 [.int .i64 (r' : Int), .int .i64 (c : Int), .slice A6 m.length c6] 25
            rewrite [show (w5.alloc (.cells ([.int .i64 N.e, .int .i64 N.row, .int .i64 N.col] : List Value).toArray 50)).alloc (.cells ([.int .i64 (r' : Int), .int .i64 (c : Int), .slice A6 m.length c6] : List Value).toArray 25) = v6 from hv6]
            clear hv6 hz6 Xh
            replace b5 := b5.trans (b6.mono b5.size)
            clear b6
            replace X0 := X0.below b5 X0.lt
            replace X1 := X1.below b5 X1.lt
            replace Xf := Xf.below b5 Xf.lt
            replace B0 := B0.trans (b5.mono hs)
            replace hs := B0.size
            clear b5
            have q0 : v6.cell? ⟨w3.heap.size, 0, none⟩ = some (.int .i64 M.e) := (Xf.cell 0).trans rfl
            have q1 : v6.cell? ⟨w3.heap.size, 1, none⟩ = some (.int .i64 M.row) := (Xf.cell 1).trans rfl
            have q2 : v6.cell? ⟨w3.heap.size, 2, none⟩ = some (.int .i64 M.col) := (Xf.cell 2).trans rfl
            have p0 : v6.cell? ⟨w5.heap.size, 0, none⟩ = some (.int .i64 N.e) := (Xg.cell 0).trans rfl
            have p1 : v6.cell? ⟨w5.heap.size, 1, none⟩ = some (.int .i64 N.row) := (Xg.cell 1).trans rfl
            have p2 : v6.cell? ⟨w5.heap.size, 2, none⟩ = some (.int .i64 N.col) := (Xg.cell 2).trans rfl
            have h0 := heldFall
            have h1 := guardFall
            clear Xf Xg
            generalize M.e = x at *
            generalize M.row = y at *
            generalize M.col = z at *
            generalize N.e = x' at *
            generalize N.row = y' at *
            generalize N.col = z' at *
            by_cases hx : x = x' ∧ y = y' ∧ z = z'
            · obtain ⟨rfl, rfl, rfl⟩ := hx
              have HX := Lib.hid (HY.out ⟨rfl, rfl, rfl⟩)
              clear HY HN
              go_wp2
              exact ⟨⟨k + 1, by omega, by go_num, HX.out, X0, X1, B0⟩, by simp [intOf]; omega⟩
            · have HX := Lib.hid (HN.out hx)
              clear HY HN
              go_wp2
              all_goals (go_returns; exact ⟨by rewrite [HX.out]; rfl, B0⟩)
          · obtain rfl : k = c := by omega
            have X0k0 : wr.cell? ⟨w.heap.size, 0, none⟩ = some (.int .i64 (r : Int)) := (X0.cell 0).trans rfl; have X0k1 : wr.cell? ⟨w.heap.size, 1, none⟩ = some (.int .i64 (k : Int)) := (X0.cell 1).trans rfl; have X0k2 : wr.cell? ⟨w.heap.size, 2, none⟩ = some (.slice (some ⟨b, o, none⟩) l.length cap) := (X0.cell 2).trans rfl
            clear hlt
            have HF := Lib.hid hF
            clear hF
            go_wp2
            go_returns
            exact ⟨by rw [HF.out]; rfl, B0⟩
      · have ho : okS R C l R' C' m = false := by unfold okS; rw [decide_eq_false hC, Bool.and_false]
        rw [ho, Bool.false_and]
        have hCb : (C == C') = false := by simpa using hC
        clear ho hg hg' hC
        go_enter Tryz.func16, Tryz.ntmps16
        obtain ⟨v0, hv0, X0, X1, B0, hz0⟩ := two_boxes w [.int .i64 R, .int .i64 C, .slice A l.length cap] 25 [.int .i64 R', .int .i64 C', .slice A' m.length cap'] 25; have HV := Lib.hid hv0; have hz : w.heap.size + 1 < v0.heap.size := (by omega); have hy : w.heap.size < v0.heap.size := (by omega); have hb0 := B0.size; clear hv0 hz0; go_wp2_with fail; rewrite [show (w.alloc (.cells ([.int .i64 R, .int .i64 C, .slice A l.length cap] : List Value).toArray 25)).alloc (.cells ([.int .i64 R', .int .i64 C', .slice A' m.length cap'] : List Value).toArray 25) = v0 from HV.out]; clear HV
        refine (spec_boGood _ _ _ _ l _ hn ((hr.below B0).mono B0.size)).mono ?_; rintro e w1 ⟨rfl, b1⟩
        rewrite [HG.out]
        replace X0 := X0.below b1 X0.lt; replace X1 := X1.below b1 X1.lt; replace B0 := B0.trans (b1.mono B0.size); have hy := X0.lt; have hz := X1.lt; have hb0 := B0.size; clear b1
        have X1k0 : w1.cell? ⟨w.heap.size + 1, 0, none⟩ = some (.int .i64 R') := (X1.cell 0).trans rfl; have X1k1 : w1.cell? ⟨w.heap.size + 1, 1, none⟩ = some (.int .i64 C') := (X1.cell 1).trans rfl; have X1k2 : w1.cell? ⟨w.heap.size + 1, 2, none⟩ = some (.slice A' m.length cap') := (X1.cell 2).trans rfl
        go_wp2_with fail
        refine (spec_boGood _ _ _ _ m _ hm ((hr'.below B0).mono B0.size)).mono ?_; rintro e w2 ⟨rfl, b2⟩
        rewrite [HG'.out]
        clear X1k0 X1k1 X1k2
        replace X0 := X0.below b2 X0.lt; replace X1 := X1.below b2 X1.lt; replace B0 := B0.trans (b2.mono B0.size); have hy := X0.lt; have hz := X1.lt; have hb0 := B0.size; clear b2
        have X0k0 : w2.cell? ⟨w.heap.size, 0, none⟩ = some (.int .i64 R) := (X0.cell 0).trans rfl; have X0k1 : w2.cell? ⟨w.heap.size, 1, none⟩ = some (.int .i64 C) := (X0.cell 1).trans rfl; have X0k2 : w2.cell? ⟨w.heap.size, 2, none⟩ = some (.slice A l.length cap) := (X0.cell 2).trans rfl
        have X1k0 : w2.cell? ⟨w.heap.size + 1, 0, none⟩ = some (.int .i64 R') := (X1.cell 0).trans rfl; have X1k1 : w2.cell? ⟨w.heap.size + 1, 1, none⟩ = some (.int .i64 C') := (X1.cell 1).trans rfl; have X1k2 : w2.cell? ⟨w.heap.size + 1, 2, none⟩ = some (.slice A' m.length cap') := (X1.cell 2).trans rfl
        go_wp2
        go_returns
        exact ⟨rfl, B0⟩
    · have HG' := Lib.hid hg'
      have ho : okS R C l R' C' m = false := by unfold okS; rw [hg', Bool.and_false, Bool.false_and]
      rw [ho, Bool.false_and]
      clear ho hg hg'
      go_enter Tryz.func16, Tryz.ntmps16
      obtain ⟨v0, hv0, X0, X1, B0, hz0⟩ := two_boxes w [.int .i64 R, .int .i64 C, .slice A l.length cap] 25 [.int .i64 R', .int .i64 C', .slice A' m.length cap'] 25; have HV := Lib.hid hv0; have hz : w.heap.size + 1 < v0.heap.size := (by omega); have hy : w.heap.size < v0.heap.size := (by omega); have hb0 := B0.size; clear hv0 hz0; go_wp2_with fail; rewrite [show (w.alloc (.cells ([.int .i64 R, .int .i64 C, .slice A l.length cap] : List Value).toArray 25)).alloc (.cells ([.int .i64 R', .int .i64 C', .slice A' m.length cap'] : List Value).toArray 25) = v0 from HV.out]; clear HV
      refine (spec_boGood _ _ _ _ l _ hn ((hr.below B0).mono B0.size)).mono ?_; rintro e w1 ⟨rfl, b1⟩
      rewrite [HG.out]
      replace X0 := X0.below b1 X0.lt; replace X1 := X1.below b1 X1.lt; replace B0 := B0.trans (b1.mono B0.size); have hy := X0.lt; have hz := X1.lt; have hb0 := B0.size; clear b1
      have X1k0 : w1.cell? ⟨w.heap.size + 1, 0, none⟩ = some (.int .i64 R') := (X1.cell 0).trans rfl; have X1k1 : w1.cell? ⟨w.heap.size + 1, 1, none⟩ = some (.int .i64 C') := (X1.cell 1).trans rfl; have X1k2 : w1.cell? ⟨w.heap.size + 1, 2, none⟩ = some (.slice A' m.length cap') := (X1.cell 2).trans rfl
      go_wp2_with fail
      refine (spec_boGood _ _ _ _ m _ hm ((hr'.below B0).mono B0.size)).mono ?_; rintro e w2 ⟨rfl, b2⟩
      rewrite [HG'.out]
      clear X1k0 X1k1 X1k2
      replace X0 := X0.below b2 X0.lt; replace X1 := X1.below b2 X1.lt; replace B0 := B0.trans (b2.mono B0.size); have hy := X0.lt; have hz := X1.lt; have hb0 := B0.size; clear b2
      go_wp2
      go_returns
      exact ⟨rfl, B0⟩
  · have HG := Lib.hid hg
    have ho : okS R C l R' C' m = false := by unfold okS; rw [hg, Bool.false_and, Bool.false_and]
    rw [ho, Bool.false_and]
    clear ho hg
    go_enter Tryz.func16, Tryz.ntmps16
    obtain ⟨v0, hv0, X0, X1, B0, hz0⟩ := two_boxes w [.int .i64 R, .int .i64 C, .slice A l.length cap] 25 [.int .i64 R', .int .i64 C', .slice A' m.length cap'] 25; have HV := Lib.hid hv0; have hz : w.heap.size + 1 < v0.heap.size := (by omega); have hy : w.heap.size < v0.heap.size := (by omega); have hb0 := B0.size; clear hv0 hz0; go_wp2_with fail; rewrite [show (w.alloc (.cells ([.int .i64 R, .int .i64 C, .slice A l.length cap] : List Value).toArray 25)).alloc (.cells ([.int .i64 R', .int .i64 C', .slice A' m.length cap'] : List Value).toArray 25) = v0 from HV.out]; clear HV
    refine (spec_boGood _ _ _ _ l _ hn ((hr.below B0).mono B0.size)).mono ?_; rintro e w1 ⟨rfl, b1⟩
    rewrite [HG.out]
    replace X0 := X0.below b1 X0.lt; replace X1 := X1.below b1 X1.lt; replace B0 := B0.trans (b1.mono B0.size); have hy := X0.lt; have hz := X1.lt; have hb0 := B0.size; clear b1
    go_wp2
    go_returns
    exact ⟨rfl, B0⟩
end Go.Proofs.YtlnekfbhpfhcpaaGreat
namespace Go.Proofs.YtlnekfbhpfhcpaaGreat
open Go.ChangeShapes Go.WideShapes Go.ChangeAt Go.RowKit Go.Joins Go.Deep
set_option linter.unusedSimpArgs false
set_option linter.unusedVariables false
set_option maxRecDepth 100000
set_option maxHeartbeats 4000000
def okD (R C : Int) (l : List (Int × Int)) (R' C' : Int) (m : List (Int × Int)) (cs : List Int) : Bool := okC' R C l cs && goodB R' C' m && decide (C = C')
def firstAt (x y : List (Int × Int × Int)) : Nat → Nat → Option Nat
  | 0, _ => none
  | n + 1, k => if x.getD k (0, 0, 0) = y.getD k (0, 0, 0) then firstAt x y n (k + 1) else some k
theorem firstAt_same {x y : List (Int × Int × Int)} {n k : Nat} (h : k < n) (e : x.getD k (0, 0, 0) = y.getD k (0, 0, 0)) : firstAt x y (n - k) k = firstAt x y (n - (k + 1)) (k + 1) := by
  obtain ⟨d, hd⟩ : ∃ d, n - k = d + 1 := ⟨n - k - 1, by omega⟩
  rw [hd, firstAt, if_pos e, show n - (k + 1) = d by omega]
theorem firstAt_diff {x y : List (Int × Int × Int)} {n k : Nat} (h : k < n) (e : ¬ x.getD k (0, 0, 0) = y.getD k (0, 0, 0)) : firstAt x y (n - k) k = some k := by
  obtain ⟨d, hd⟩ : ∃ d, n - k = d + 1 := ⟨n - k - 1, by omega⟩
  rw [hd, firstAt, if_neg e]
theorem flatF_at (x : List (Int × Int × Int)) : ∀ k, k < x.length → (flatF x)[k * 3]? = some (.int .i64 (x.getD k (0, 0, 0)).1) ∧ (flatF x)[k * 3 + 1]? = some (.int .i64 (x.getD k (0, 0, 0)).2.1) ∧ (flatF x)[k * 3 + 2]? = some (.int .i64 (x.getD k (0, 0, 0)).2.2) := by
  induction x with
  | nil => intro k h; simp at h
  | cons a x ih =>
    intro k h
    have e : flatF (a :: x) = .int .i64 a.1 :: .int .i64 a.2.1 :: .int .i64 a.2.2 :: flatF x := rfl
    rw [e]
    cases k with
    | zero => exact ⟨rfl, rfl, rfl⟩
    | succ k =>
      obtain ⟨h0, h1, h2⟩ := ih k (by simpa using h)
      rw [show (k + 1) * 3 = k * 3 + 1 + 1 + 1 by omega]
      exact ⟨h0, h1, h2⟩
theorem row_fall {w : World} {base n cap k : Nat} {A : Option Addr} {x : List (Int × Int × Int)} (h : w.ownsRow base 50 3 (.slice A n cap) n (flatF x)) (hl : x.length = n) (hk : k < n) : ∃ g, A = some ⟨g, 0, none⟩ ∧ g < w.heap.size ∧ w.cell? ⟨g, k * 3, none⟩ = some (.int .i64 (x.getD k (0, 0, 0)).1) ∧ w.cell? ⟨g, k * 3 + 1, none⟩ = some (.int .i64 (x.getD k (0, 0, 0)).2.1) ∧ w.cell? ⟨g, k * 3 + 2, none⟩ = some (.int .i64 (x.getD k (0, 0, 0)).2.2) := by
  have ho := (own_of_row h).1
  obtain ⟨g, rest, rfl, X⟩ := ho (by rw [flatF_len]; omega)
  obtain ⟨h0, h1, h2⟩ := flatF_at x k (by omega)
  have hlen := flatF_len x
  refine ⟨g, rfl, X.lt, (X.cell _).trans ?_, (X.cell _).trans ?_, (X.cell _).trans ?_⟩
  · rw [List.getElem?_append_left (by omega)]; exact h0
  · rw [List.getElem?_append_left (by omega)]; exact h1
  · rw [List.getElem?_append_left (by omega)]; exact h2
theorem spec_FirstDifferent_good (r r' c b o cap b' o' cap' : Nat) (l m : List (Int × Int)) (A2 : Option Addr) (cap2 : Nat) (cs : List Int) (w : World) (hg : goodB (r : Int) (c : Int) l = true) (hg' : goodB (r' : Int) (c : Int) m = true) (h60 : cs.length ≤ 60) (hall : allI 0 ((c : Int) - 1) cs = true) (hc : okC' (r : Int) (c : Int) l cs = true) (hrl : Rd w w.heap.size (some ⟨b, o, none⟩) (flat l)) (hrm : Rd w w.heap.size (some ⟨b', o', none⟩) (flat m)) (hrc : Rd w w.heap.size A2 (ints cs)) (hn : l.length ≤ 1048576) (hm : m.length ≤ 1048576) :
    Calls Tryz.prog 19 #[.agg #[.int .i64 (r : Int), .int .i64 (c : Int), .slice (some ⟨b, o, none⟩) l.length cap], .agg #[.int .i64 (r' : Int), .int .i64 (c : Int), .slice (some ⟨b', o', none⟩) m.length cap'], .slice A2 cs.length cap2] w fun e w' => e = .returned (.tuple #[.int .i64 ((firstAt (stA (numL c l) r c l cs cs.length).1 (stA (numL c m) r' c m cs cs.length).1 cs.length 0).getD 0 : Nat), .bool (firstAt (stA (numL c l) r c l cs cs.length).1 (stA (numL c m) r' c m cs cs.length).1 cs.length 0).isSome]) ∧ Below w.heap.size w w' := by
  have HFx := Lib.hid (stA_len (numL c l) r c l cs cs.length)
  have HFy := Lib.hid (stA_len (numL c m) r' c m cs cs.length)
  have HAx := spec_flAll r c b o cap l A2 cap2 cs
  have HAy := spec_flAll r' c b' o' cap' m A2 cap2 cs
  generalize hfx : stA (numL c l) r c l cs cs.length = sx at *
  generalize hfy : stA (numL c m) r' c m cs cs.length = sy at *
  replace HAx := Lib.hid (fun w h1 h2 h3 h4 h5 => HAx w h1 h2 h3 h4 h5)
  replace HAy := Lib.hid (fun w h1 h2 h3 h4 h5 => HAy w h1 h2 h3 h4 h5)
  clear hfx hfy
  obtain ⟨fx, lx⟩ := sx
  obtain ⟨fy, ly⟩ := sy
  replace HFx := Lib.hid (show fx.length = cs.length from HFx.out.1)
  replace HFy := Lib.hid (show fy.length = cs.length from HFy.out.1)
  dsimp only at HAx HAy ⊢
  have HC := Lib.hid hc
  have HG' := Lib.hid hg'
  clear hc
  go_enter Tryz.func19, Tryz.ntmps19
  obtain ⟨v0, hv0, X0, X1, B0, hz0⟩ := two_boxes w [.int .i64 (r : Int), .int .i64 (c : Int), .slice (some ⟨b, o, none⟩) l.length cap] 25 [.int .i64 (r' : Int), .int .i64 (c : Int), .slice (some ⟨b', o', none⟩) m.length cap'] 25; have HV := Lib.hid hv0; have hz : w.heap.size + 1 < v0.heap.size := (by omega); have hy : w.heap.size < v0.heap.size := (by omega); have hb0 := B0.size; clear hv0 hz0; go_wp2_with fail; rewrite [show (w.alloc (.cells ([.int .i64 (r : Int), .int .i64 (c : Int), .slice (some ⟨b, o, none⟩) l.length cap] : List Value).toArray 25)).alloc (.cells ([.int .i64 (r' : Int), .int .i64 (c : Int), .slice (some ⟨b', o', none⟩) m.length cap'] : List Value).toArray 25) = v0 from HV.out]; clear HV
  refine (spec_flColumns _ _ _ _ l _ _ cs _ hn (by omega) ((hrl.below B0).mono B0.size) ((hrc.below B0).mono B0.size)).mono ?_; rintro e w1 ⟨rfl, b1⟩
  rewrite [HC.out]
  replace X0 := X0.below b1 X0.lt; replace X1 := X1.below b1 X1.lt; replace B0 := B0.trans (b1.mono B0.size); have hy := X0.lt; have hz := X1.lt; have hb0 := B0.size; clear b1
  have X1k0 : w1.cell? ⟨w.heap.size + 1, 0, none⟩ = some (.int .i64 (r' : Int)) := (X1.cell 0).trans rfl; have X1k1 : w1.cell? ⟨w.heap.size + 1, 1, none⟩ = some (.int .i64 (c : Int)) := (X1.cell 1).trans rfl; have X1k2 : w1.cell? ⟨w.heap.size + 1, 2, none⟩ = some (.slice (some ⟨b', o', none⟩) m.length cap') := (X1.cell 2).trans rfl
  go_wp2_with fail
  refine (spec_boGood _ _ _ _ m _ hm ((hrm.below B0).mono B0.size)).mono ?_; rintro e w2 ⟨rfl, b2⟩
  rewrite [HG'.out]
  clear X1k0 X1k1 X1k2
  replace X0 := X0.below b2 X0.lt; replace X1 := X1.below b2 X1.lt; replace B0 := B0.trans (b2.mono B0.size); have hy := X0.lt; have hz := X1.lt; have hb0 := B0.size; clear b2
  have X0k0 : w2.cell? ⟨w.heap.size, 0, none⟩ = some (.int .i64 (r : Int)) := (X0.cell 0).trans rfl; have X0k1 : w2.cell? ⟨w.heap.size, 1, none⟩ = some (.int .i64 (c : Int)) := (X0.cell 1).trans rfl; have X0k2 : w2.cell? ⟨w.heap.size, 2, none⟩ = some (.slice (some ⟨b, o, none⟩) l.length cap) := (X0.cell 2).trans rfl
  have X1k0 : w2.cell? ⟨w.heap.size + 1, 0, none⟩ = some (.int .i64 (r' : Int)) := (X1.cell 0).trans rfl; have X1k1 : w2.cell? ⟨w.heap.size + 1, 1, none⟩ = some (.int .i64 (c : Int)) := (X1.cell 1).trans rfl; have X1k2 : w2.cell? ⟨w.heap.size + 1, 2, none⟩ = some (.slice (some ⟨b', o', none⟩) m.length cap') := (X1.cell 2).trans rfl
  go_wp2_with fail
  refine (HAx.out _ hg ((hrl.below B0).mono B0.size) ((hrc.below B0).mono B0.size) h60 hall).mono ?_; rintro e w3 ⟨v3, A5, c5, rfl, hx, O5, N5, b3⟩
  clear O5 N5
  clear X0k0 X0k1 X0k2
  clear X1k0 X1k1 X1k2
  replace hx := row_base hx hb0
  replace X0 := X0.below b3 X0.lt; replace X1 := X1.below b3 X1.lt; replace B0 := B0.trans (b3.mono B0.size); have hy := X0.lt; have hz := X1.lt; have hb0 := B0.size; clear b3
  have X1' := X1
  replace X1 := X1.alloc (.cells #[.int .i64 (r : Int), .int .i64 (c : Int), .slice A5 l.length c5] 25)
  replace X0 := X0.alloc (.cells #[.int .i64 (r : Int), .int .i64 (c : Int), .slice A5 l.length c5] 25)
  replace hx := hx.alloc (.cells #[.int .i64 (r : Int), .int .i64 (c : Int), .slice A5 l.length c5] 25)
  replace B0 := B0.alloc hb0 (.cells #[.int .i64 (r : Int), .int .i64 (c : Int), .slice A5 l.length c5] 25)
  have k0 : w3.cell? ⟨w.heap.size + 1, 0, none⟩ = some (.int .i64 (r' : Int)) := (X1'.cell 0).trans rfl
  have k1 : w3.cell? ⟨w.heap.size + 1, 1, none⟩ = some (.int .i64 (c : Int)) := (X1'.cell 1).trans rfl
  have k2 : w3.cell? ⟨w.heap.size + 1, 2, none⟩ = some (.slice (some ⟨b', o', none⟩) m.length cap') := (X1'.cell 2).trans rfl
  go_wp2_with fail
  refine (HAy.out _ hg' ((hrm.below B0).mono B0.size) ((hrc.below B0).mono B0.size) h60 hall).mono ?_; rintro e w4 ⟨v4, A6, c6, rfl, hy4, O6, N6, b4⟩
  clear O6 N6 k0 k1 k2 X1'
  replace hy4 := row_base hy4 B0.size
  replace hx := row_keep hx b4
  replace B0 := B0.trans (b4.mono B0.size)
  clear b4
  obtain ⟨Ax, capx, rfl⟩ := slice_of_row hx
  obtain ⟨Ay, capy, rfl⟩ := slice_of_row hy4
  replace hx := hx.alloc (.cells #[.int .i64 (r' : Int), .int .i64 (c : Int), .slice A6 m.length c6] 25)
  replace hy4 := hy4.alloc (.cells #[.int .i64 (r' : Int), .int .i64 (c : Int), .slice A6 m.length c6] 25)
  replace B0 := B0.alloc B0.size (.cells #[.int .i64 (r' : Int), .int .i64 (c : Int), .slice A6 m.length c6] 25)
  clear HAx HAy X0 X1
  go_wp2
  go_loopw [44] (fun i wr => ∃ k : Nat, i = .int .i64 k ∧ k ≤ cs.length ∧ firstAt fx fy cs.length 0 = firstAt fx fy (cs.length - k) k ∧ wr.ownsRow w.heap.size 50 3 (.slice Ax cs.length capx) cs.length (flatF fx) ∧ wr.ownsRow w.heap.size 50 3 (.slice Ay cs.length capy) cs.length (flatF fy) ∧ Below w.heap.size w wr) (fun i _ => cs.length - (intOf i).toNat)
  case atStart => exact ⟨0, rfl, Nat.zero_le _, rfl, hx, hy4, B0⟩
  case round =>
    clear hx hy4 B0
    obtain ⟨k, rfl, hk, hF, hx, hy4, B0⟩ := hrel
    by_cases hlt : k < cs.length
    · obtain ⟨gx, rfl, hgx, x0, x1, x2⟩ := row_fall hx HFx.out hlt
      obtain ⟨gy, rfl, hgy, y0, y1, y2⟩ := row_fall hy4 HFy.out hlt
      have hs := B0.size
      have HY := Lib.hid (fun e => hF.trans (firstAt_same hlt e))
      have HN := Lib.hid (fun e => hF.trans (firstAt_diff hlt e))
      have hi0 : (0 : Int) ≤ (k : Int) := Int.natCast_nonneg _
      clear hF
      generalize fx.getD k (0, 0, 0) = p at *
      generalize fy.getD k (0, 0, 0) = q at *
      obtain ⟨x, y, z⟩ := p
      obtain ⟨x', y', z'⟩ := q
      dsimp only at x0 x1 x2 y0 y1 y2
      have h0 := heldFall
      have h1 := guardFall
      by_cases hxy : x = x' ∧ y = y' ∧ z = z'
      · obtain ⟨rfl, rfl, rfl⟩ := hxy
        have HX := Lib.hid (HY.out rfl)
        clear HY HN
        go_wp2
        go_quiet (fail)
        go_wp2
        have hb9 : Below wr.heap.size wr ((wr.alloc (.cells #[.int .i64 x, .int .i64 y, .int .i64 z] 50)).drewN nq) := below_drewN ((Below.refl _ _).alloc (Nat.le_refl _) _) _
        first
          | exact ⟨⟨k + 1, by go_num, by omega, HX.out, row_keep hx hb9, row_keep hy4 hb9, B0.trans (hb9.mono hs)⟩, by simp [intOf]; omega⟩
          | (go_roundw
             case rel => exact ⟨k + 1, by go_num, by omega, HX.out, row_keep hx hb9, row_keep hy4 hb9, B0.trans (hb9.mono hs)⟩
             case measure => simp [intOf]; omega)
      · have HX := Lib.hid (HN.out (fun e => hxy (by cases e; exact ⟨rfl, rfl, rfl⟩)))
        by_cases hx0 : x = x'
        · subst hx0
          by_cases hy0 : y = y'
          · subst hy0
            have hz0 : ¬ z = z' := fun e => hxy ⟨rfl, rfl, e⟩
            (clear HY HN hxy; go_wp2; go_quiet (fail); (have hb9 : Below wr.heap.size wr ((wr.alloc (.cells #[.int .i64 x, .int .i64 y, .int .i64 z] 50)).drewN nq) := below_drewN ((Below.refl _ _).alloc (Nat.le_refl _) _) _); go_wp2; go_returns; exact ⟨by (rewrite [HX.out]; rfl), B0.trans (hb9.mono hs)⟩)
          · skip
            (clear HY HN hxy; go_wp2; go_quiet (fail); (have hb9 : Below wr.heap.size wr ((wr.alloc (.cells #[.int .i64 x, .int .i64 y, .int .i64 z] 50)).drewN nq) := below_drewN ((Below.refl _ _).alloc (Nat.le_refl _) _) _); go_wp2; go_returns; exact ⟨by (rewrite [HX.out]; rfl), B0.trans (hb9.mono hs)⟩)
        · skip
          (clear HY HN hxy; go_wp2; go_quiet (fail); (have hb9 : Below wr.heap.size wr ((wr.alloc (.cells #[.int .i64 x, .int .i64 y, .int .i64 z] 50)).drewN nq) := below_drewN ((Below.refl _ _).alloc (Nat.le_refl _) _) _); go_wp2; go_returns; exact ⟨by (rewrite [HX.out]; rfl), B0.trans (hb9.mono hs)⟩)
    · obtain rfl : k = cs.length := by omega
      have HE := Lib.hid (show firstAt fx fy cs.length 0 = none by rw [hF, Nat.sub_self]; rfl)
      clear hF hlt
      go_wp2
      go_returns
      exact ⟨by rewrite [HE.out]; rfl, B0⟩
def firstD (R C : Int) (l : List (Int × Int)) (R' C' : Int) (m : List (Int × Int)) (cs : List Int) : Option Nat := if okD R C l R' C' m cs then firstAt (stA (numL C.toNat l) R.toNat C.toNat l cs cs.length).1 (stA (numL C'.toNat m) R'.toNat C'.toNat m cs cs.length).1 cs.length 0 else none
theorem spec_FirstDifferent (R C : Int) (A : Option Addr) (cap : Nat) (l : List (Int × Int)) (R' C' : Int) (A' : Option Addr) (cap' : Nat) (m : List (Int × Int)) (A2 : Option Addr) (cap2 : Nat) (cs : List Int) (w : World) (hn : l.length ≤ 1048576) (hr : Rd w w.heap.size A (flat l)) (hm : m.length ≤ 1048576) (hr' : Rd w w.heap.size A' (flat m)) (hn' : cs.length ≤ 1048576) (hrc : Rd w w.heap.size A2 (ints cs)) :
    Calls Tryz.prog 19 #[.agg #[.int .i64 R, .int .i64 C, .slice A l.length cap], .agg #[.int .i64 R', .int .i64 C', .slice A' m.length cap'], .slice A2 cs.length cap2] w fun e w' => e = .returned (.tuple #[.int .i64 ((firstD R C l R' C' m cs).getD 0 : Nat), .bool (firstD R C l R' C' m cs).isSome]) ∧ Below w.heap.size w w' := by
  unfold firstD
  rcases Bool.eq_false_or_eq_true (okC' R C l cs) with ho | ho
  · have HC := Lib.hid ho
    rcases Bool.eq_false_or_eq_true (goodB R' C' m) with hg' | hg'
    · have HG' := Lib.hid hg'
      by_cases hC : C = C'
      · have hd : okD R C l R' C' m cs = true := by unfold okD; rw [ho, hg', decide_eq_true hC]; rfl
        rw [hd]
        subst hC
        clear hd
        obtain ⟨hg, h60, hall⟩ := okC'_parts ho
        obtain ⟨_, _, hpos⟩ := goodB_parts hg
        obtain ⟨_, _, hpos'⟩ := goodB_parts hg'
        obtain ⟨b, o, rfl, hbl, hc⟩ := hr (by rw [flat_length]; omega)
        have hrl : Rd w w.heap.size (some ⟨b, o, none⟩) (flat l) := fun _ => ⟨b, o, rfl, hbl, hc⟩
        obtain ⟨b', o', rfl, hbl', hc'⟩ := hr' (by rw [flat_length]; omega)
        have hrm : Rd w w.heap.size (some ⟨b', o', none⟩) (flat m) := fun _ => ⟨b', o', rfl, hbl', hc'⟩
        obtain ⟨r, c, rfl, rfl, hG⟩ := geo_of hg
        obtain ⟨r', c', rfl, ec, hG'⟩ := geo_of hg'
        obtain rfl : c = c' := by omega
        rw [if_pos rfl, Int.toNat_natCast, Int.toNat_natCast, Int.toNat_natCast]
        exact spec_FirstDifferent_good r r' c b o cap b' o' cap' l m A2 cap2 cs w hg hg' h60 hall ho hrl hrm hrc hn hm
      · have hd : okD R C l R' C' m cs = false := by unfold okD; rw [decide_eq_false hC, Bool.and_false]
        rw [hd]
        have hCb : (C == C') = false := by simpa using hC
        clear hd ho hg' hC
        go_enter Tryz.func19, Tryz.ntmps19
        obtain ⟨v0, hv0, X0, X1, B0, hz0⟩ := two_boxes w [.int .i64 R, .int .i64 C, .slice A l.length cap] 25 [.int .i64 R', .int .i64 C', .slice A' m.length cap'] 25; have HV := Lib.hid hv0; have hz : w.heap.size + 1 < v0.heap.size := (by omega); have hy : w.heap.size < v0.heap.size := (by omega); have hb0 := B0.size; clear hv0 hz0; go_wp2_with fail; rewrite [show (w.alloc (.cells ([.int .i64 R, .int .i64 C, .slice A l.length cap] : List Value).toArray 25)).alloc (.cells ([.int .i64 R', .int .i64 C', .slice A' m.length cap'] : List Value).toArray 25) = v0 from HV.out]; clear HV
        refine (spec_flColumns _ _ _ _ l _ _ cs _ hn hn' ((hr.below B0).mono B0.size) ((hrc.below B0).mono B0.size)).mono ?_; rintro e w1 ⟨rfl, b1⟩
        rewrite [HC.out]
        replace X0 := X0.below b1 X0.lt; replace X1 := X1.below b1 X1.lt; replace B0 := B0.trans (b1.mono B0.size); have hy := X0.lt; have hz := X1.lt; have hb0 := B0.size; clear b1
        have X1k0 : w1.cell? ⟨w.heap.size + 1, 0, none⟩ = some (.int .i64 R') := (X1.cell 0).trans rfl; have X1k1 : w1.cell? ⟨w.heap.size + 1, 1, none⟩ = some (.int .i64 C') := (X1.cell 1).trans rfl; have X1k2 : w1.cell? ⟨w.heap.size + 1, 2, none⟩ = some (.slice A' m.length cap') := (X1.cell 2).trans rfl
        go_wp2_with fail
        refine (spec_boGood _ _ _ _ m _ hm ((hr'.below B0).mono B0.size)).mono ?_; rintro e w2 ⟨rfl, b2⟩
        rewrite [HG'.out]
        clear X1k0 X1k1 X1k2
        replace X0 := X0.below b2 X0.lt; replace X1 := X1.below b2 X1.lt; replace B0 := B0.trans (b2.mono B0.size); have hy := X0.lt; have hz := X1.lt; have hb0 := B0.size; clear b2
        have X0k0 : w2.cell? ⟨w.heap.size, 0, none⟩ = some (.int .i64 R) := (X0.cell 0).trans rfl; have X0k1 : w2.cell? ⟨w.heap.size, 1, none⟩ = some (.int .i64 C) := (X0.cell 1).trans rfl; have X0k2 : w2.cell? ⟨w.heap.size, 2, none⟩ = some (.slice A l.length cap) := (X0.cell 2).trans rfl
        have X1k0 : w2.cell? ⟨w.heap.size + 1, 0, none⟩ = some (.int .i64 R') := (X1.cell 0).trans rfl; have X1k1 : w2.cell? ⟨w.heap.size + 1, 1, none⟩ = some (.int .i64 C') := (X1.cell 1).trans rfl; have X1k2 : w2.cell? ⟨w.heap.size + 1, 2, none⟩ = some (.slice A' m.length cap') := (X1.cell 2).trans rfl
        go_wp2
        go_returns
        exact ⟨rfl, B0⟩
    · have HG' := Lib.hid hg'
      have hd : okD R C l R' C' m cs = false := by unfold okD; rw [hg', Bool.and_false, Bool.false_and]
      rw [hd]
      clear hd ho hg'
      go_enter Tryz.func19, Tryz.ntmps19
      obtain ⟨v0, hv0, X0, X1, B0, hz0⟩ := two_boxes w [.int .i64 R, .int .i64 C, .slice A l.length cap] 25 [.int .i64 R', .int .i64 C', .slice A' m.length cap'] 25; have HV := Lib.hid hv0; have hz : w.heap.size + 1 < v0.heap.size := (by omega); have hy : w.heap.size < v0.heap.size := (by omega); have hb0 := B0.size; clear hv0 hz0; go_wp2_with fail; rewrite [show (w.alloc (.cells ([.int .i64 R, .int .i64 C, .slice A l.length cap] : List Value).toArray 25)).alloc (.cells ([.int .i64 R', .int .i64 C', .slice A' m.length cap'] : List Value).toArray 25) = v0 from HV.out]; clear HV
      refine (spec_flColumns _ _ _ _ l _ _ cs _ hn hn' ((hr.below B0).mono B0.size) ((hrc.below B0).mono B0.size)).mono ?_; rintro e w1 ⟨rfl, b1⟩
      rewrite [HC.out]
      replace X0 := X0.below b1 X0.lt; replace X1 := X1.below b1 X1.lt; replace B0 := B0.trans (b1.mono B0.size); have hy := X0.lt; have hz := X1.lt; have hb0 := B0.size; clear b1
      have X1k0 : w1.cell? ⟨w.heap.size + 1, 0, none⟩ = some (.int .i64 R') := (X1.cell 0).trans rfl; have X1k1 : w1.cell? ⟨w.heap.size + 1, 1, none⟩ = some (.int .i64 C') := (X1.cell 1).trans rfl; have X1k2 : w1.cell? ⟨w.heap.size + 1, 2, none⟩ = some (.slice A' m.length cap') := (X1.cell 2).trans rfl
      go_wp2_with fail
      refine (spec_boGood _ _ _ _ m _ hm ((hr'.below B0).mono B0.size)).mono ?_; rintro e w2 ⟨rfl, b2⟩
      rewrite [HG'.out]
      clear X1k0 X1k1 X1k2
      replace X0 := X0.below b2 X0.lt; replace X1 := X1.below b2 X1.lt; replace B0 := B0.trans (b2.mono B0.size); have hy := X0.lt; have hz := X1.lt; have hb0 := B0.size; clear b2
      go_wp2
      go_returns
      exact ⟨rfl, B0⟩
  · have HC := Lib.hid ho
    have hd : okD R C l R' C' m cs = false := by unfold okD; rw [ho, Bool.false_and, Bool.false_and]
    rw [hd]
    clear hd ho
    go_enter Tryz.func19, Tryz.ntmps19
    obtain ⟨v0, hv0, X0, X1, B0, hz0⟩ := two_boxes w [.int .i64 R, .int .i64 C, .slice A l.length cap] 25 [.int .i64 R', .int .i64 C', .slice A' m.length cap'] 25; have HV := Lib.hid hv0; have hz : w.heap.size + 1 < v0.heap.size := (by omega); have hy : w.heap.size < v0.heap.size := (by omega); have hb0 := B0.size; clear hv0 hz0; go_wp2_with fail; rewrite [show (w.alloc (.cells ([.int .i64 R, .int .i64 C, .slice A l.length cap] : List Value).toArray 25)).alloc (.cells ([.int .i64 R', .int .i64 C', .slice A' m.length cap'] : List Value).toArray 25) = v0 from HV.out]; clear HV
    refine (spec_flColumns _ _ _ _ l _ _ cs _ hn hn' ((hr.below B0).mono B0.size) ((hrc.below B0).mono B0.size)).mono ?_; rintro e w1 ⟨rfl, b1⟩
    rewrite [HC.out]
    replace X0 := X0.below b1 X0.lt; replace X1 := X1.below b1 X1.lt; replace B0 := B0.trans (b1.mono B0.size); have hy := X0.lt; have hz := X1.lt; have hb0 := B0.size; clear b1
    go_wp2
    go_returns
    exact ⟨rfl, B0⟩
end Go.Proofs.YtlnekfbhpfhcpaaGreat
namespace Go.Proofs.YtlnekfbhpfhcpaaGreat
open Go.ChangeShapes Go.WideShapes Go.ChangeAt Go.RowKit Go.Joins Go.Deep
set_option linter.unusedSimpArgs false
set_option linter.unusedVariables false
set_option maxRecDepth 100000
set_option maxHeartbeats 4000000
theorem field_kind (a b : Value) (w : World) : (Instr.field 86 (.agg #[a, b]) 0).run Tryz.prog w = .ok a w := by kernel_rfl
theorem spec_ggGroupsN (r c : Nat) (A : Option Addr) (cap : Nat) (l : List (Int × Int)) (w : World) (hG : Geo r c l.length) (hr : Rd w w.heap.size A (flat l)) :
    Calls Tryz.prog 46 #[.agg #[.int .i64 (r : Int), .int .i64 (c : Int), .slice A l.length cap]] w fun e w' => ∃ A' cap', e = .returned (.slice A' l.length cap') ∧ Own w' A' 3 (ints (numL c l)) ∧ New w A' ∧ Below w.heap.size w w' :=
  (spec_ggGroups r c A cap l w hG hr).mono fun e w' h => by
    obtain ⟨A', cap', rfl, a, b, d⟩ := h
    exact ⟨A', cap', by rw [numL_len], a, b, d⟩
def okT (R C : Int) (l : List (Int × Int)) (i j : Int) : Bool := hasB R C l i j && gearK l (atI C i j)
def turnG (R C : Int) (l : List (Int × Int)) (i j : Int) : List (Int × Int) := if okT R C l i j then tnS l (isIn C l (nmb C l (atI C i j))) else []
theorem turnG_len (R C : Int) (l : List (Int × Int)) (i j : Int) (h : l.length ≤ 1048576) : (turnG R C l i j).length ≤ 1048576 := by
  unfold turnG
  split
  · rw [tnS_len]; exact h
  · simp
theorem turnG_post {w w' : World} {R C : Int} {l : List (Int × Int)} {i j : Int} {e : Ending} {ok : Bool} (h : okT R C l i j = ok) (hp : if ok then PostB w R C (tnS l (isIn C l (nmb C l (atI C i j)))) true e w' else PostB w 0 0 [] false e w') :
    PostB w (selI (okT R C l i j) R) (selI (okT R C l i j) C) (turnG R C l i j) (okT R C l i j) e w' := by
  unfold turnG
  rw [h]
  cases ok
  · exact hp
  · exact hp
end Go.Proofs.YtlnekfbhpfhcpaaGreat
namespace Go.Proofs.YtlnekfbhpfhcpaaGreat
open Go.ChangeShapes Go.WideShapes Go.ChangeAt Go.RowKit Go.Joins Go.Deep
set_option linter.unusedSimpArgs false
set_option linter.unusedVariables false
set_option maxRecDepth 100000
set_option maxHeartbeats 4000000
theorem impl_groupWithN (r c : Nat) (A : Option Addr) (cap : Nat) (l : List (Int × Int)) (i : Nat) (w : World) (hG : Geo r c l.length) (hr : Rd w w.heap.size A (flat l)) (hi : i < l.length) (hJ : J l i = true) :
    Calls Tryz.prog 102 #[.agg #[.int .i64 (r : Int), .int .i64 (c : Int), .slice A l.length cap], .int .i64 (i : Int)] w fun e w' => ∃ A' cap', e = .returned (.slice A' (grpL (c : Int) l i).length cap') ∧ Own w' A' 3 (ints (nI (grpL (c : Int) l i))) ∧ New w A' ∧ Below w.heap.size w w' :=
  (impl_groupWith r c A cap l i w hG hr hi hJ).mono fun e w' h => by
    rw [grp_of_cell hG hi hJ] at h
    obtain ⟨A', cap', rfl, a, b, d⟩ := h
    exact ⟨A', cap', by rw [nI_length], a, b, d⟩
theorem impl_gearsAmongN (R C : Int) (A : Option Addr) (cap : Nat) (l : List (Int × Int)) (A1 : Option Addr) (cap1 : Nat) (q : List Nat) (w : World) (hr : Rd w w.heap.size A (flat l)) (hq : q.length ≤ 1048576) (hx : ∀ x ∈ q, x < l.length) (h1 : Rd w w.heap.size A1 (ints (nI q))) :
    Calls Tryz.prog 101 #[.agg #[.int .i64 R, .int .i64 C, .slice A l.length cap], .slice A1 q.length cap1] w fun e w' => ∃ A' cap', e = .returned (.slice A' (q.filter (gearK l)).length cap') ∧ Own w' A' 3 (ints (nI (q.filter (gearK l)))) ∧ New w A' ∧ Below w.heap.size w w' :=
  (impl_gearsAmong R C A cap l A1 cap1 q w hr hq hx h1).mono fun e w' h => by
    obtain ⟨A', cap', rfl, a, b, d⟩ := h
    exact ⟨A', cap', by rw [nI_length], a, b, d⟩
def gearsOf (C : Int) (l : List (Int × Int)) (k : Nat) : List Nat := (grpL C l k).filter (gearK l)
theorem gearsOf_at {C : Int} {l : List (Int × Int)} {k j : Nat} (hj : j < (gearsOf C l k).length) :
    (gearsOf C l k)[j] < l.length ∧ gearK l (gearsOf C l k)[j] = true ∧ (gearsOf C l k)[j] ∉ (gearsOf C l k).take j := by
  have hm := List.getElem_mem hj
  have hp : (gearsOf C l k).Pairwise (· < ·) := (List.pairwise_lt_range.filter _).filter _
  refine ⟨?_, ?_, fun h => ?_⟩
  · exact List.mem_range.1 (List.mem_filter.1 (List.mem_filter.1 hm).1).1
  · exact (List.mem_filter.1 hm).2
  · rw [List.mem_iff_getElem] at h
    obtain ⟨i, hi, hie⟩ := h
    rw [List.getElem_take] at hie
    rw [List.length_take] at hi
    have := List.pairwise_iff_getElem.1 hp i j (by omega) hj (by omega)
    omega
theorem gearsOf_len (C : Int) (l : List (Int × Int)) (k : Nat) : (gearsOf C l k).length ≤ l.length := by
  have h1 := List.length_filter_le (gearK l) (grpL C l k)
  have h2 := grpL_len C l k
  unfold gearsOf
  omega
theorem grpL_lt (C : Int) (l : List (Int × Int)) (k : Nat) : ∀ x ∈ grpL C l k, x < l.length := fun x hx => List.mem_range.1 (List.mem_filter.1 hx).1
def inTake (gs : List Nat) (j : Nat) (x : Nat) : Bool := (gs.take j).contains x
theorem inTake_step {l : List (Int × Int)} {gs : List Nat} {j : Nat} (hj : j < gs.length) (hx : gs[j] < l.length) :
    (tnS l (inTake gs j)).set gs[j] ((l.getD gs[j] (0, 0)).1, 1 - (l.getD gs[j] (0, 0)).2) = tnS l (inTake gs (j + 1)) := by
  refine tnS_set hx fun x _ => ?_
  unfold inTake
  rw [List.take_succ_eq_append_getElem hj, List.contains_eq_any_beq, List.contains_eq_any_beq, List.any_append]
  simp [eq_comm]
theorem inTake_zero {l : List (Int × Int)} {gs : List Nat} : tnS l (inTake gs 0) = l := by
  rw [show tnS l (inTake gs 0) = tnS l (fun _ => false) from tnS_congr fun x _ => by simp [inTake]]
  exact tnS_none
theorem inTake_all {C : Int} {l : List (Int × Int)} {k : Nat} : tnS l (inTake (gearsOf C l k) (gearsOf C l k).length) = tnS l (isIn C l (nmb C l k)) := by
  refine tnS_congr fun x hx => ?_
  unfold inTake isIn gearsOf grpL
  rw [List.take_length, Bool.eq_iff_iff, List.contains_iff_mem, List.mem_filter, List.mem_filter, List.mem_range, Bool.and_eq_true]
  exact ⟨fun h => ⟨h.1.2, h.2⟩, fun h => ⟨⟨hx, h.1⟩, h.2⟩⟩
theorem okT_join {R C : Int} {l : List (Int × Int)} {i j : Int} (h : okT R C l i j = true) : okJ R C l i j = true := by
  unfold okT at h
  rw [Bool.and_eq_true] at h
  unfold okJ
  rw [h.1, Bool.true_and]
  have h2 := h.2
  unfold gearK at h2
  rw [decide_eq_true_eq] at h2
  rw [h2]
  rfl
end Go.Proofs.YtlnekfbhpfhcpaaGreat
namespace Go.Proofs.YtlnekfbhpfhcpaaGreat
open Go.ChangeShapes Go.WideShapes Go.ChangeAt Go.RowKit Go.Joins Go.Deep
set_option linter.unusedSimpArgs false
set_option linter.unusedVariables false
set_option maxRecDepth 100000
set_option maxHeartbeats 1000000
theorem numL_congr {c : Nat} {l l' : List (Int × Int)} (hlen : l.length = l'.length) (hk : ∀ x, (l.getD x (0, 0)).1 = (l'.getD x (0, 0)).1) : numL c l = numL c l' := by
  unfold numL
  rw [show J l = J l' from funext fun x => by unfold J; rw [hk], hlen]
theorem tnS_kind {l : List (Int × Int)} {S : Nat → Bool} (x : Nat) : ((tnS l S).getD x (0, 0)).1 = (l.getD x (0, 0)).1 := by
  by_cases hx : x < l.length
  · have h1 : x < (tnS l S).length := by rw [tnS_len]; exact hx
    rw [List.getD_eq_getElem?_getD, List.getElem?_eq_getElem h1]
    show ((tnS l S)[x]).1 = _
    rw [tnS_at h1]
    split <;> rfl
  · have h1 : (tnS l S).getD x (0, 0) = (0, 0) := by rw [List.getD_eq_getElem?_getD, List.getElem?_eq_none (by rw [tnS_len]; omega)]; rfl
    have h2 : l.getD x (0, 0) = (0, 0) := by rw [List.getD_eq_getElem?_getD, List.getElem?_eq_none (by omega)]; rfl
    rw [h1, h2]
theorem passL_kind (nm : List Int) (l : List (Int × Int)) (i x : Nat) : ((passL nm l i).getD x (0, 0)).1 = (l.getD x (0, 0)).1 := by
  unfold passL
  split
  · rw [List.getD_eq_getElem?_getD, List.getElem?_set]
    by_cases e : i = x
    · subst e
      rw [if_pos rfl]
      by_cases hi : i < l.length
      · rw [if_pos hi, List.getD_eq_getElem?_getD]; rfl
      · rw [if_neg hi, List.getD_eq_getElem?_getD, List.getElem?_eq_none (by omega)]
    · rw [if_neg e, List.getD_eq_getElem?_getD]
  · split
    · exact tnS_kind x
    · rfl
theorem passL_num (c : Nat) (nm : List Int) (l : List (Int × Int)) (i : Nat) : numL c (passL nm l i) = numL c l :=
  numL_congr (passL_len nm l i) (passL_kind nm l i)
theorem numL_getD {c : Nat} {l : List (Int × Int)} {k : Nat} (hk : k < l.length) : (numL c l).getD k 0 = nmb (c : Int) l k := by
  have h := numL_at (c := c) hk
  unfold ints at h
  rw [List.getElem?_map] at h
  rw [List.getD_eq_getElem?_getD]
  cases he : (numL c l)[k]? with
  | none => rw [he] at h; simp at h
  | some v => rw [he] at h; simpa using h
theorem passL_gear {c : Nat} {l : List (Int × Int)} {i : Nat} (hi : i < l.length) (h6 : (l.getD i (0, 0)).1 = 6) : passL (numL c l) l i = tnS l (isIn (c : Int) l (nmb (c : Int) l i)) := by
  unfold passL
  rw [if_neg (by rw [h6]; decide), if_pos h6]
  refine tnS_congr fun x hx => ?_
  unfold pin isIn
  rw [numL_getD hx, numL_getD hi]
theorem passL_flip {nm : List Int} {l : List (Int × Int)} {i : Nat} (h3 : (l.getD i (0, 0)).1 = 3) : passL nm l i = l.set i (3, 1 - (l.getD i (0, 0)).2) := by
  unfold passL
  rw [if_pos h3, h3]
theorem passL_none {nm : List Int} {l : List (Int × Int)} {i : Nat} (h3 : (l.getD i (0, 0)).1 ≠ 3) (h6 : (l.getD i (0, 0)).1 ≠ 6) : passL nm l i = l := by
  unfold passL
  rw [if_neg h3, if_neg h6]
end Go.Proofs.YtlnekfbhpfhcpaaGreat
