/- Contracts of the program and of the model, walked, part 6 of 9. No condition but what each says. -/
import Derived.Test.YtlambflmabecfaaGreatM5
import Derived.Test.YtlambflmabecfaaGreatM1
import Derived.Test.YtlambflmabecfaaGreatM2
namespace Go.Proofs.YtlambflmabecfaaGreat
open Go.ChangeShapes Go.WideShapes Go.ChangeAt Go.RowKit Go.Joins Go.Deep
set_option linter.unusedSimpArgs false
set_option linter.unusedVariables false
set_option maxRecDepth 100000
set_option maxHeartbeats 4000000
theorem impl_hasColumn (R C : Int) (A : Option Addr) (n cap : Nat) (j : Int) (w : World) :
    Calls Tryz.prog 66 #[.agg #[.int .i64 R, .int .i64 C, .slice A n cap], .int .i64 j] w fun e w' => e = .returned (.bool (decide (0 ≤ j ∧ j < C))) ∧ Below w.heap.size w w' := by
  have HE := Lib.hid (show decide (0 ≤ j ∧ j < C) = (decide (0 ≤ j) && decide (j < C)) by rw [Bool.eq_iff_iff]; simp)
  rewrite [HE.out]
  rcases Bool.eq_false_or_eq_true (decide (0 ≤ j)) with h0 | h0
  · have HD := Lib.hid h0
    rw [h0]
    have h1 := of_decide_eq_true h0
    clear HE
    go_enter Tryz.func66, Tryz.ntmps66
    go_wp2
    go_returns
    exact ⟨rfl, by (repeat' (first | (with_reducible exact Below.refl _ _) | (with_reducible assumption) | (with_reducible refine Below.alloc ?_ ?_ _) | (with_reducible refine Below.setCell ?_ ?_ _) | (with_reducible refine Below.drew ?_) | (with_reducible refine below_drewN ?_ _) | (with_reducible refine Below.trans ?_ (Below.mono (by assumption) ?_)) | (with_reducible exact Nat.le_refl _) | (simp; done) | omega | (simp at *; omega)))⟩
  · have h1 := of_decide_eq_false h0
    rw [h0]
    clear HE
    go_enter Tryz.func66, Tryz.ntmps66
    go_wp2
    go_returns
    exact ⟨rfl, by (repeat' (first | (with_reducible exact Below.refl _ _) | (with_reducible assumption) | (with_reducible refine Below.alloc ?_ ?_ _) | (with_reducible refine Below.setCell ?_ ?_ _) | (with_reducible refine Below.drew ?_) | (with_reducible refine below_drewN ?_ _) | (with_reducible refine Below.trans ?_ (Below.mono (by assumption) ?_)) | (with_reducible exact Nat.le_refl _) | (simp; done) | omega | (simp at *; omega)))⟩
def wayI (c : Nat) (wy : List (List Nat)) : List Int := wy.map fun p => ((p.getD 0 0 * c + p.getD 1 0 : Nat) : Int)
theorem wayI_len (c : Nat) (wy : List (List Nat)) : (wayI c wy).length = wy.length := by simp [wayI]
theorem wayI_push (c : Nat) (wy : List (List Nat)) (k cl : Nat) : ints (wayI c (wy ++ [[k, cl]])) = ints (wayI c wy) ++ [.int .i64 ((k * c + cl : Nat) : Int)] := by
  simp [wayI, ints]
/-- What letFall leaves behind: the cells met, the end, and its cells turned. -/
def PostM (w : World) (g5 : Nat) (rest5 : List Value) (c : Nat) (F : FlR) (e : Ending) (w' : World) : Prop :=
  ∃ A cp, e = .returned (.tuple #[.slice A F.way.length cp, .agg #[.int .i64 F.e, .int .i64 F.row, .int .i64 F.col]]) ∧ Own w' A 3 (ints (wayI c F.way)) ∧ New w A ∧ Whole w' g5 95 (flat F.cells ++ rest5) ∧ w.grownBy w' (some g5)
theorem gb_far {w v : World} {g : Nat} (h : w.grownBy v (some g)) {p : Addr} (hp : w.heap.size ≤ p.block) (u : Value) : w.grownBy (v.setCell p u) (some g) :=
  ⟨h.os, h.tape, h.output, by rw [World.size_setCell]; exact h.size, fun k hk hne => (Below.heap_setCell _ _ _ _ (by omega)).trans (h.block k hk hne)⟩
theorem gb_grown {w v v' : World} {g : Nat} {row : Option Nat} (h : w.grownBy v (some g)) (hg : v.grownBy v' row) (hrow : ∀ k, row = some k → w.heap.size ≤ k) : w.grownBy v' (some g) :=
  ⟨hg.os.trans h.os, hg.tape.trans h.tape, hg.output.trans h.output, Nat.le_trans h.size hg.size, fun k hk hne => (hg.block k (Nat.lt_of_lt_of_le hk h.size) (fun e => by have := hrow k e.symm; omega)).trans (h.block k hk hne)⟩
theorem gb_same {w v v' : World} {g : Nat} (h : w.grownBy v (some g)) (hg : v.grownBy v' (some g)) : w.grownBy v' (some g) :=
  ⟨hg.os.trans h.os, hg.tape.trans h.tape, hg.output.trans h.output, Nat.le_trans h.size hg.size, fun k hk hne => (hg.block k (Nat.lt_of_lt_of_le hk h.size) hne).trans (h.block k hk hne)⟩
theorem run_make_ints0 (n : Nat) (hn : n ≤ 1048576) (w : World) :
    (Instr.makeSlice 73 (.int .i64 0) (.int .i64 (n : Int))).run Tryz.prog w = .ok (.slice (some ⟨w.heap.size, 0, none⟩) 0 n) (w.alloc (.cells (zrow n).toArray 3)) := by
  obtain ⟨i0, hi, hz0, hz1, hz2⟩ := info_parts intInfo
  have h := run_make (P := Tryz.prog) w 73 3 i0 _ Tryz.underlying73 hi hz0 .i64 .i64 0 (n : Int) (by omega) (by omega) (by rw [hz2]; omega) (by omega)
  rw [hz1] at h
  simp only [Int.toNat_natCast] at h
  rw [h, made_ints]
  rfl
theorem row_far3 {w : World} {base : Nat} {e : TypeId} {size n : Nat} {v : Value} {xs : List Value} (h : w.ownsRow base e size v n xs) {a : Nat} (hne : some a ≠ v.ownBlock) (u0 u1 u2 : Value) : (((w.setCell ⟨a, 0, none⟩ u0).setCell ⟨a, 1, none⟩ u1).setCell ⟨a, 2, none⟩ u2).ownsRow base e size v n xs := by
  have one : ∀ {w : World} (p : Addr) (u : Value), w.ownsRow base e size v n xs → some p.block ≠ v.ownBlock → (w.setCell p u).ownsRow base e size v n xs := fun {w} p u h hne => by
    refine ⟨h.1, ?_⟩
    rcases h.2 with h2 | ⟨g, cap, cur, rfl, h2, hh, h3⟩
    · exact .inl h2
    · have hne' : g ≠ p.block := fun e' => hne (by simp [Value.ownBlock, e'])
      exact .inr ⟨g, cap, cur, rfl, h2, (Below.heap_setCell w p u g hne').trans hh, h3⟩
  exact one ⟨a, 2, none⟩ u2 (one ⟨a, 1, none⟩ u1 (one ⟨a, 0, none⟩ u0 h hne) hne) hne
theorem PostM.mk {w w' : World} {g5 a : Nat} {rest5 : List Value} {c : Nat} {v : Value} {n : Nat} {x y z p q s u0 u1 u2 : Value} {X Y Z : Int} {L : List (Int × Int)} {wy : List (List Nat)} (hx : x = .int .i64 X) (hy : y = .int .i64 Y) (hz : z = .int .i64 Z) (hn : wy.length = n)
    (hown : w'.ownsRow w.heap.size 3 1 v n (ints (wayI c wy))) (X1 : Whole w' a 55 [p, q, s]) (ha : w.heap.size ≤ a) (hne : a ≠ g5) (X7 : Whole w' g5 95 (flat L ++ rest5)) (gb : w.grownBy w' (some g5)) :
    PostM w g5 rest5 c ⟨X, Y, Z, L, wy⟩ (.returned (.tuple #[v, .agg #[x, y, z]])) (((w'.setCell ⟨a, 0, none⟩ u0).setCell ⟨a, 1, none⟩ u1).setCell ⟨a, 2, none⟩ u2) := by
  subst hx hy hz hn
  have h1 := row_far3 hown (row_apart hown X1 (by decide)) u0 u1 u2
  obtain ⟨A, cp, rfl⟩ := slice_of_row h1
  have ho := own_of_row h1
  exact ⟨A, cp, rfl, ho.1, ho.2, three_far X7 hne, gb_far (gb_far (gb_far gb (p := ⟨a, 0, none⟩) ha u0) (p := ⟨a, 1, none⟩) ha u1) (p := ⟨a, 2, none⟩) ha u2⟩
theorem PostM.drew {w w' : World} {g5 : Nat} {rest5 : List Value} {c : Nat} {F : FlR} {e : Ending} (h : PostM w g5 rest5 c F e w') : PostM w g5 rest5 c F e w'.drew := by
  obtain ⟨A, cp, h1, h2, h3, h4, h5⟩ := h
  exact ⟨A, cp, h1, h2.keep ((Below.refl _ _).drew), h3, h4.below ((Below.refl _ _).drew) h4.lt, gb_below h5 ((Below.refl _ _).drew)⟩
theorem impl_letFall (r c g5 cap : Nat) (l : List (Int × Int)) (rest5 : List Value) (col : Nat) (w : World) (hG : Geo r c l.length) (hgd : goodB (r : Int) (c : Int) l = true) (hcol : col < c) (X7 : Whole w g5 95 (flat l ++ rest5)) :
    Calls Tryz.prog 68 #[.agg #[.int .i64 (r : Int), .int .i64 (c : Int), .slice (some ⟨g5, 0, none⟩) l.length cap], .int .i64 (col : Int)] w (PostM w g5 rest5 c (flG (numL c l) r c r 0 l col 0 [])) := by
  obtain ⟨s1, s2, s3, s4⟩ := sizeB_iff.1 (goodB_iff.1 hgd).1
  have hgd2 := (goodB_iff.1 hgd).2.2
  have n90 := hG.n90
  have HRC := Lib.hid hG.cells
  have HGe := Lib.hid hG
  obtain ⟨i0, hi, hz0, hz1, hz2⟩ := info_parts intInfo
  have hmk := run_make_ints0 r (by omega)
  have h5w := X7.lt
  clear hgd hG
  go_enter Tryz.func68, Tryz.ntmps68
  obtain ⟨v0, hv0, X0, X1, B0, hz0⟩ := two_boxes w [.int .i64 (r : Int), .int .i64 (c : Int), .slice (some ⟨g5, 0, none⟩) l.length cap] 34 [.int .i64 0, .int .i64 0, .int .i64 0] 55
  have HV := Lib.hid hv0
  have HZ := Lib.hid hz0
  have hz : w.heap.size + 1 < v0.heap.size := by omega
  have hy : w.heap.size < v0.heap.size := by omega
  have hb0 := B0.size
  clear hv0 hz0
  go_wp2_with fail
  rewrite [show (w.alloc (.cells ([.int .i64 (r : Int), .int .i64 (c : Int), .slice (some ⟨g5, 0, none⟩) l.length cap] : List Value).toArray 34)).alloc (.cells ([.int .i64 0, .int .i64 0, .int .i64 0] : List Value).toArray 55) = v0 from HV.out]
  clear HV
  have hgb : w.grownBy v0 (some g5) := gb_below (gb_refl w g5) B0
  replace X7 := X7.below B0 h5w
  have X0k0 : v0.cell? ⟨w.heap.size, 0, none⟩ = some (.int .i64 (r : Int)) := (X0.cell 0).trans rfl; have X0k1 : v0.cell? ⟨w.heap.size, 1, none⟩ = some (.int .i64 (c : Int)) := (X0.cell 1).trans rfl; have X0k2 : v0.cell? ⟨w.heap.size, 2, none⟩ = some (.slice (some ⟨g5, 0, none⟩) l.length cap) := (X0.cell 2).trans rfl
  go_upto_region 2 with (fail)
  clear X0k0 X0k1 X0k2
  have hown := World.ownsRow_made (e := 3) (size := 1) (base := w.heap.size) v0 (zrow r).toArray r (by omega) (by unfold maxLen; omega) (by simp [zrow])
  have ba : Below v0.heap.size v0 (v0.alloc (.cells (zrow r).toArray 3)) := (Below.refl _ _).alloc (Nat.le_refl _) _
  replace X0 := X0.below ba X0.lt
  replace X1 := X1.below ba X1.lt
  replace X7 := X7.below ba X7.lt
  replace hgb := gb_below hgb ba
  clear ba B0 hb0 hmk
  generalize v0.alloc (.cells (zrow r).toArray 3) = v1 at *
  rw [HZ.out] at hown
  clear HZ
  generalize v0.heap.size = G at *
  have X0k0 : v1.cell? ⟨w.heap.size, 0, none⟩ = some (.int .i64 (r : Int)) := (X0.cell 0).trans rfl; have X0k1 : v1.cell? ⟨w.heap.size, 1, none⟩ = some (.int .i64 (c : Int)) := (X0.cell 1).trans rfl; have X0k2 : v1.cell? ⟨w.heap.size, 2, none⟩ = some (.slice (some ⟨g5, 0, none⟩) l.length cap) := (X0.cell 2).trans rfl
  go_wp2
  clear X0k0 X0k1 X0k2
  obtain ⟨F, hF⟩ : ∃ F, flG (numL c l) r c r 0 l col 0 [] = F := ⟨_, rfl⟩
  have hF0 : flG (numL c l) r c (r - 0) 0 l col 0 [] = F := hF
  have HFq := Lib.hid hF
  generalize hnm : numL c l = nm at *
  clear hF
  go_loopw [1, 6, 7, 17] (fun cv wv sv rv wr => ∃ (k cl : Nat) (d : Int) (lk : List (Int × Int)) (wy : List (List Nat)), rv = .int .i64 k ∧ cv = .int .i64 cl ∧ sv = .int .i64 d ∧ k ≤ r ∧ cl < c ∧ -1 ≤ d ∧ d ≤ 1 ∧ lk.length = l.length ∧ (∀ x ∈ lk, good x.1 x.2 = true) ∧ wy.length = k ∧ numL c lk = nm ∧ flG nm r c (r - k) k lk cl d wy = F ∧
    Whole wr w.heap.size 34 [.int .i64 (r : Int), .int .i64 (c : Int), .slice (some ⟨g5, 0, none⟩) l.length cap] ∧ Whole wr (w.heap.size + 1) 55 [.int .i64 0, .int .i64 0, .int .i64 0] ∧ Whole wr g5 95 (flat lk ++ rest5) ∧ wr.ownsRow w.heap.size 3 1 wv wy.length (ints (wayI c wy)) ∧ w.grownBy wr (some g5)) (fun _ _ _ rv _ => r - (intOf rv).toNat)
  case atStart => exact ⟨0, col, 0, l, [], rfl, rfl, rfl, Nat.zero_le _, hcol, by omega, by omega, rfl, hgd2, rfl, hnm, hF0, X0, X1, X7, hown, hgb⟩
  case round =>
    clear X0 X1 X7 hown hgb hz hy hF0 hgd2 hcol hnm
    obtain ⟨k, cl, d, lk, wy, rfl, rfl, rfl, hk, hcl, hd1, hd2, hlk, hgk, hwy, hnm, hF, X0, X1, X7, hown, hgb⟩ := hrel
    have hs := hgb.size
    have hyw := X0.lt
    have hzw := X1.lt
    by_cases hlt : k < r
    · have hidx : k * c + cl < l.length := by
        have h1 := Nat.mul_le_mul (show k + 1 ≤ r by omega) (Nat.le_refl c)
        rw [Nat.succ_mul] at h1
        have := HRC.out
        omega
      have hGk : Geo r c lk.length := by rw [hlk]; exact HGe.out
      have u0 : (flat lk ++ rest5)[(k * c + cl) * 2]? = some (.int .i64 (lk.getD (k * c + cl) (0, 0)).1) := by
        rw [List.getD_eq_getElem?_getD, List.getElem?_eq_getElem (show k * c + cl < lk.length by omega), List.getElem?_append_left (by rw [flat_length]; omega), (flat_at _ (k * c + cl) (by omega)).1]; rfl
      have u1 : (flat lk ++ rest5)[(k * c + cl) * 2 + 1]? = some (.int .i64 (lk.getD (k * c + cl) (0, 0)).2) := by
        rw [List.getD_eq_getElem?_getD, List.getElem?_eq_getElem (show k * c + cl < lk.length by omega), List.getElem?_append_left (by rw [flat_length]; omega), (flat_at _ (k * c + cl) (by omega)).2]; rfl
      have hxg : good (lk.getD (k * c + cl) (0, 0)).1 (lk.getD (k * c + cl) (0, 0)).2 = true := by
        rw [List.getD_eq_getElem?_getD, List.getElem?_eq_getElem (by omega)]
        exact hgk _ (List.getElem_mem _)
      have HSt := Lib.hid (flG_step nm r c (r - k - 1) k lk cl d wy _ _ rfl rfl)
      have er : r - k = r - k - 1 + 1 := by omega
      rw [er] at hF
      have HTB := Lib.hid (fun w0 X => impl_turnBehind r c g5 cap lk rest5 (k * c + cl) w0 hGk (by omega) (by omega) hgk X)
      rw [hnm, hlk] at HTB
      have HPg := Lib.hid (passL_good (nm := nm) (show k * c + cl < lk.length by omega) hgk)
      have HPl := Lib.hid ((passL_len nm lk (k * c + cl)).trans hlk)
      have HPn := Lib.hid ((passL_num c nm lk (k * c + cl)).trans hnm)
      have m1 : IntKind.i64.wrap ((k : Int) * (c : Int)) = (k : Int) * (c : Int) := by
        have e : (k : Int) * (c : Int) = ((k * c : Nat) : Int) := by push_cast; rfl
        rw [e]; exact IntWalk.i64_in _ (by omega)
      have m2 : IntKind.i64.wrap ((k : Int) * (c : Int) + (cl : Int)) = ((k * c + cl : Nat) : Int) := by
        have e : (k : Int) * (c : Int) + (cl : Int) = ((k * c + cl : Nat) : Int) := by push_cast; rfl
        rw [e]; exact IntWalk.i64_in _ (by omega)
      have HWp := Lib.hid (wayI_push c wy k cl)
      have hwl : (wy ++ [[k, cl]]).length = k + 1 := by rw [List.length_append, hwy]; rfl
      have HWl := Lib.hid hwl
      have HL9 := Lib.hid hlk
      clear hGk hgk hnm hlk hwl
      generalize (lk.getD (k * c + cl) (0, 0)).1 = kd at *
      generalize (lk.getD (k * c + cl) (0, 0)).2 = st at *
      have HFS := Lib.hid (HSt.out.symm.trans hF)
      clear HSt hF er
      rw [hwy] at hown
      have HWy := Lib.hid hwy
      clear hwy
      generalize hix : k * c + cl = ix at *
      have HIx := Lib.hid hix
      clear hix
      have X0k0 : wr.cell? ⟨w.heap.size, 0, none⟩ = some (.int .i64 (r : Int)) := (X0.cell 0).trans rfl; have X0k1 : wr.cell? ⟨w.heap.size, 1, none⟩ = some (.int .i64 (c : Int)) := (X0.cell 1).trans rfl; have X0k2 : wr.cell? ⟨w.heap.size, 2, none⟩ = some (.slice (some ⟨g5, 0, none⟩) l.length cap) := (X0.cell 2).trans rfl
      go_upto_region 8 with (first | (at_builtin; refine wpList_append_own _ rfl (.tmp 26) (.tmp 28) 73 rfl w.heap.size 3 i0 _ 1 8 Tryz.underlying73 hi hz0 hz1 hz2 rfl (by omega) _ k (ints (wayI c wy)) rfl (hown.alloc _) ⟨wr.heap.size, 0, none⟩ 1 1 [.int .i64 (ix : Int)] rfl rfl one_cellI one_oneI (by unfold maxLen; omega) (by omega) (by simp; omega) ?_; intro v3 w3 hown3 hg3 _) | fail)
      clear X0k0 X0k1 X0k2
      have hYa := hown.alloc (.cells #[.int .i64 (ix : Int)] 3)
      replace X0 := (X0.alloc (.cells #[.int .i64 (ix : Int)] 3)).grown hg3 (row_apart hYa (X0.alloc _) (by decide))
      replace X1 := (X1.alloc (.cells #[.int .i64 (ix : Int)] 3)).grown hg3 (row_apart hYa (X1.alloc _) (by decide))
      replace X7 := (X7.alloc (.cells #[.int .i64 (ix : Int)] 3)).grown hg3 (row_apart hYa (X7.alloc _) (by decide))
      replace hgb := gb_grown (gb_below hgb ((Below.refl _ _).alloc (Nat.le_refl _) (.cells #[.int .i64 (ix : Int)] 3))) hg3 (fun k e => (hYa.lt k e).1)
      replace hs := hgb.size
      rw [← HWp.out] at hown3
      clear hown hYa hg3 HWp m1 m2
      have hc0 : w3.cell? ⟨g5, ix * 2, none⟩ = some (.int .i64 kd) := (X7.cell _).trans u0
      have hc1 : w3.cell? ⟨g5, ix * 2 + 1, none⟩ = some (.int .i64 st) := (X7.cell _).trans u1
      clear u0 u1
      have hg5 := X7.lt
      have X0k0 : w3.cell? ⟨w.heap.size, 0, none⟩ = some (.int .i64 (r : Int)) := (X0.cell 0).trans rfl; have X0k1 : w3.cell? ⟨w.heap.size, 1, none⟩ = some (.int .i64 (c : Int)) := (X0.cell 1).trans rfl; have X0k2 : w3.cell? ⟨w.heap.size, 2, none⟩ = some (.slice (some ⟨g5, 0, none⟩) l.length cap) := (X0.cell 2).trans rfl
      go_wp2_with fail
      refine (impl_GoesTo kd st d _).mono ?_; rintro e w4 ⟨rfl, b4⟩
      clear hc0 hc1
      clear X0k0 X0k1 X0k2
      replace X0 := X0.below b4 X0.lt
      replace X1 := X1.below b4 X1.lt
      replace X7 := X7.below b4 X7.lt
      replace hgb := gb_below hgb b4
      replace hown3 := row_keep hown3 b4
      clear b4
      by_cases h5k : kd = 5
      · have HF := HFS.out
        rw [if_pos h5k] at HF
        have HEq := Lib.hid (HFq.out.trans HF.symm)
        clear HF HFS HTB
        subst h5k
        rewrite [show goB 5 st d = false by unfold goB; simp]
        have X1k0 : w4.cell? ⟨w.heap.size + 1, 0, none⟩ = some (.int .i64 0) := (X1.cell 0).trans rfl; have X1k1 : w4.cell? ⟨w.heap.size + 1, 1, none⟩ = some (.int .i64 0) := (X1.cell 1).trans rfl; have X1k2 : w4.cell? ⟨w.heap.size + 1, 2, none⟩ = some (.int .i64 0) := (X1.cell 2).trans rfl
        have X1f0 := X1.frozen 0; have X1f1 := X1.frozen 1; have X1f2 := X1.frozen 2
        go_wp2
        (refine bodyPost_ret (v := .tuple #[v3, .agg #[.int .i64 2, .int .i64 (k : Int), .int .i64 (cl : Int)]]) ?_ rfl ?_); (focus (simp [results, Tryz.results68, go_sem, *]; done)); rewrite [HEq.out]
        exact PostM.mk rfl rfl rfl HWl.out hown3 X1 (by omega) (by omega) X7 hgb
      · rw [if_neg h5k] at HFS
        obtain ⟨hg1, hg2⟩ := goN_range hxg hd1 hd2
        rewrite [show goB kd st d = true by unfold goB; rw [hxg, decide_eq_true ⟨hd1, hd2, h5k⟩]; rfl, show selI true (goN kd st d) = goN kd st d from rfl]
        generalize goN kd st d = gs at *
        have m3 : IntKind.i64.wrap ((cl : Int) + gs) = (cl : Int) + gs := IntWalk.i64_in _ (by omega)
        have m4 : IntKind.i64.wrap (-gs) = -gs := IntWalk.i64_in _ (by omega)
        have X0k0 : w4.cell? ⟨w.heap.size, 0, none⟩ = some (.int .i64 (r : Int)) := (X0.cell 0).trans rfl; have X0k1 : w4.cell? ⟨w.heap.size, 1, none⟩ = some (.int .i64 (c : Int)) := (X0.cell 1).trans rfl; have X0k2 : w4.cell? ⟨w.heap.size, 2, none⟩ = some (.slice (some ⟨g5, 0, none⟩) l.length cap) := (X0.cell 2).trans rfl
        go_wp2_with fail
        refine (HTB.out _ X7).mono ?_; rintro e w7 ⟨rfl, X7', gb⟩
        clear X0k0 X0k1 X0k2
        have n5 : ∀ {g : Nat}, g ≠ g5 → some g ≠ some g5 := fun h e => h (by injection e)
        have hne3 := row_apart hown3 X7 (by decide)
        replace X0 := X0.grown gb (n5 (by omega))
        replace X1 := X1.grown gb (n5 (by omega))
        replace hown3 := World.ownsRow.kept hown3 gb (.inr (fun e => hne3 e.symm))
        replace hgb := gb_same hgb gb
        replace hs := hgb.size
        replace X7 := X7'
        clear gb X7' HTB n5 hne3
        by_cases hin2 : 0 ≤ (cl : Int) + gs ∧ (cl : Int) + gs < (c : Int)
        · have HF := HFS.out
          rw [if_pos hin2] at HF
          have HB := Lib.hid (decide_eq_true hin2)
          have HNx := Lib.hid (show ((cl : Int) + gs) = ((((cl : Int) + gs).toNat : Nat) : Int) by omega)
          have HF' := Lib.hid (show flG nm r c (r - (k + 1)) (k + 1) (passL nm lk ix) ((cl : Int) + gs).toNat (-gs) (wy ++ [[k, cl]]) = F by rw [show r - (k + 1) = r - k - 1 by omega]; exact HF)
          clear HFS HF
          have X0k0 : w7.cell? ⟨w.heap.size, 0, none⟩ = some (.int .i64 (r : Int)) := (X0.cell 0).trans rfl; have X0k1 : w7.cell? ⟨w.heap.size, 1, none⟩ = some (.int .i64 (c : Int)) := (X0.cell 1).trans rfl; have X0k2 : w7.cell? ⟨w.heap.size, 2, none⟩ = some (.slice (some ⟨g5, 0, none⟩) l.length cap) := (X0.cell 2).trans rfl
          go_wp2_with fail
          refine (impl_hasColumn _ _ _ _ _ _ _).mono ?_; rintro e w8 ⟨rfl, b8⟩
          rewrite [HB.out]
          clear X0k0 X0k1 X0k2
          replace X0 := X0.below b8 X0.lt
          replace X1 := X1.below b8 X1.lt
          replace X7 := X7.below b8 X7.lt
          replace hgb := gb_below hgb b8
          replace hown3 := row_keep hown3 b8
          clear b8
          go_wp2
          go_roundw
          case rel => exact ⟨k + 1, ((cl : Int) + gs).toNat, -gs, passL nm lk ix, wy ++ [[k, cl]], by go_num, by rw [← HNx.out], rfl, by omega, by omega, by omega, by omega, HPl.out, HPg.out, HWl.out, HPn.out, HF'.out, X0, X1, X7, by rw [HWl.out]; exact hown3, hgb⟩
          case measure => simp [intOf]; omega
        · have HF := HFS.out
          rw [if_neg hin2] at HF
          have HEq := Lib.hid (HFq.out.trans HF.symm)
          have HB := Lib.hid (decide_eq_false hin2)
          clear HF HFS hin2
          have X0k0 : w7.cell? ⟨w.heap.size, 0, none⟩ = some (.int .i64 (r : Int)) := (X0.cell 0).trans rfl; have X0k1 : w7.cell? ⟨w.heap.size, 1, none⟩ = some (.int .i64 (c : Int)) := (X0.cell 1).trans rfl; have X0k2 : w7.cell? ⟨w.heap.size, 2, none⟩ = some (.slice (some ⟨g5, 0, none⟩) l.length cap) := (X0.cell 2).trans rfl
          go_wp2_with fail
          refine (impl_hasColumn _ _ _ _ _ _ _).mono ?_; rintro e w8 ⟨rfl, b8⟩
          rewrite [HB.out]
          clear X0k0 X0k1 X0k2
          replace X1 := X1.below b8 X1.lt
          replace X7 := X7.below b8 X7.lt
          replace hgb := gb_below hgb b8
          replace hown3 := row_keep hown3 b8
          clear b8
          have X1k0 : w8.cell? ⟨w.heap.size + 1, 0, none⟩ = some (.int .i64 0) := (X1.cell 0).trans rfl; have X1k1 : w8.cell? ⟨w.heap.size + 1, 1, none⟩ = some (.int .i64 0) := (X1.cell 1).trans rfl; have X1k2 : w8.cell? ⟨w.heap.size + 1, 2, none⟩ = some (.int .i64 0) := (X1.cell 2).trans rfl
          have X1f0 := X1.frozen 0; have X1f1 := X1.frozen 1; have X1f2 := X1.frozen 2
          go_wp2
          (refine bodyPost_ret (v := .tuple #[v3, .agg #[.int .i64 3, .int .i64 (k : Int), .int .i64 ((cl : Int) + gs)]]) ?_ rfl ?_); (focus (simp [results, Tryz.results68, go_sem, *]; done)); rewrite [HEq.out]
          exact PostM.mk rfl rfl rfl HWl.out hown3 X1 (by omega) (by omega) X7 hgb
    · obtain rfl : k = r := by omega
      have HEq : Hid (flG nm k c k 0 l col 0 [] = ⟨1, k, cl, lk, wy⟩) := Lib.hid (HFq.out.trans (by rw [← hF, Nat.sub_self]; rfl))
      clear hF HFq
      rw [hwy] at hown
      have X0k0 : wr.cell? ⟨w.heap.size, 0, none⟩ = some (.int .i64 (k : Int)) := (X0.cell 0).trans rfl; have X0k1 : wr.cell? ⟨w.heap.size, 1, none⟩ = some (.int .i64 (c : Int)) := (X0.cell 1).trans rfl; have X0k2 : wr.cell? ⟨w.heap.size, 2, none⟩ = some (.slice (some ⟨g5, 0, none⟩) l.length cap) := (X0.cell 2).trans rfl
      have X1k0 : wr.cell? ⟨w.heap.size + 1, 0, none⟩ = some (.int .i64 0) := (X1.cell 0).trans rfl; have X1k1 : wr.cell? ⟨w.heap.size + 1, 1, none⟩ = some (.int .i64 0) := (X1.cell 1).trans rfl; have X1k2 : wr.cell? ⟨w.heap.size + 1, 2, none⟩ = some (.int .i64 0) := (X1.cell 2).trans rfl
      have X1f0 := X1.frozen 0; have X1f1 := X1.frozen 1; have X1f2 := X1.frozen 2
      have z0 := X0.lt
      have z1 := X1.lt
      go_upto_region 17 with (fail)
      go_region
      go_wp2
      (refine bodyPost_ret (v := .tuple #[u6, .agg #[.int .i64 1, .int .i64 (k : Int), .int .i64 (cl : Int)]]) ?_ rfl ?_); (focus (simp [results, Tryz.results68, go_sem, *]; done)); rewrite [HEq.out]
      exact (PostM.mk rfl rfl rfl hwy hown X1 (by omega) (by omega) X7 hgb).drew
end Go.Proofs.YtlambflmabecfaaGreat
namespace Go.Proofs.YtlambflmabecfaaGreat
open Go.ChangeShapes Go.WideShapes Go.ChangeAt Go.RowKit Go.Joins Go.Deep
set_option linter.unusedSimpArgs false
set_option linter.unusedVariables false
set_option maxRecDepth 100000
set_option maxHeartbeats 4000000
/-- What fallAlone hands back: the cells met, and the end; nothing that was there has changed. -/
def PostN (w : World) (c : Nat) (F : FlR) (e : Ending) (w' : World) : Prop :=
  ∃ A cp, e = .returned (.tuple #[.slice A F.way.length cp, .agg #[.int .i64 F.e, .int .i64 F.row, .int .i64 F.col]]) ∧ Own w' A 3 (ints (wayI c F.way)) ∧ New w A ∧ Below w.heap.size w w'
theorem inI_lt {C x : Int} : inI 0 (C - 1) x = decide (0 ≤ x ∧ x < C) := by
  unfold inI
  rw [Bool.eq_iff_iff]
  simp
  omega
theorem okC'_one (R C : Int) (l : List (Int × Int)) (j : Int) : okC' R C l [j] = okF R C l j := by
  unfold okC' okF allI
  rw [List.all_cons, List.all_nil, Bool.and_true, inI_lt]
  simp
theorem impl_areEntries (R C : Int) (A : Option Addr) (cap : Nat) (l : List (Int × Int)) (A' : Option Addr) (cap' : Nat) (cs : List Int) (w : World) (hn : l.length ≤ 1048576) (hn' : cs.length ≤ 1048576) (hr : Rd w w.heap.size A (flat l)) (hr' : Rd w w.heap.size A' (ints cs)) :
    Calls Tryz.prog 57 #[.agg #[.int .i64 R, .int .i64 C, .slice A l.length cap], .slice A' cs.length cap'] w fun e w' => e = .returned (.bool (okC' R C l cs)) ∧ Below w.heap.size w w' := by
  unfold okC'
  rcases Bool.eq_false_or_eq_true (goodB R C l) with hg | hg
  · have HG := Lib.hid hg
    rw [hg]
    clear hg
    by_cases h60 : cs.length ≤ 60
    · have hd : decide ((60 : Int) < (cs.length : Int)) = false := by simp; omega
      have HE := Lib.hid (show (true && decide (cs.length ≤ 60) && allI 0 (C - 1) cs) = allI 0 (C - 1) cs by rw [decide_eq_true h60]; rfl)
      rewrite [HE.out]
      have HB := Lib.hid (fun k (hk : k < cs.length) h => allI_bad (lo := 0) (hi := C - 1) hk h)
      have HAl := Lib.hid (fun (h : ∀ k (hk : k < cs.length), inI 0 (C - 1) cs[k] = true) => (show allI 0 (C - 1) cs = true from by
        unfold allI
        rw [List.all_eq_true]
        intro x hx
        obtain ⟨k, hk, rfl⟩ := List.mem_iff_getElem.1 hx
        exact h k hk))
      clear HE
      go_enter Tryz.func57, Tryz.ntmps57
      obtain ⟨v0, hv0⟩ : ∃ v, v = w.alloc (.cells #[.int .i64 R, .int .i64 C, .slice A l.length cap] 34) := ⟨_, rfl⟩; have X0 : Whole v0 w.heap.size 34 [.int .i64 R, .int .i64 C, .slice A l.length cap] := (by rw [hv0]; exact heap_alloc_new w _); have hb : Below w.heap.size w v0 := (by rw [hv0]; exact (Below.refl _ _).alloc (Nat.le_refl _) _); have HV := Lib.hid hv0.symm; clear hv0; go_upto_region 1 with (fail); rewrite [HV.out]; clear HV; have X0k0 : v0.cell? ⟨w.heap.size, 0, none⟩ = some (.int .i64 R) := (X0.cell 0).trans rfl; have X0k1 : v0.cell? ⟨w.heap.size, 1, none⟩ = some (.int .i64 C) := (X0.cell 1).trans rfl; have X0k2 : v0.cell? ⟨w.heap.size, 2, none⟩ = some (.slice A l.length cap) := (X0.cell 2).trans rfl
      go_wp2_with fail
      refine (impl_IsBoard _ _ _ _ l _ hn ((hr.below hb).mono hb.size)).mono ?_; rintro e w1 ⟨rfl, b1⟩
      rewrite [HG.out]
      (clear X0k0 X0k1 X0k2; replace X0 := X0.below b1 X0.lt; replace hb := hb.trans (b1.mono hb.size); clear b1; have X0k0 : w1.cell? ⟨w.heap.size, 0, none⟩ = some (.int .i64 R) := (X0.cell 0).trans rfl; have X0k1 : w1.cell? ⟨w.heap.size, 1, none⟩ = some (.int .i64 C) := (X0.cell 1).trans rfl; have X0k2 : w1.cell? ⟨w.heap.size, 2, none⟩ = some (.slice A l.length cap) := (X0.cell 2).trans rfl)
      clear X0k0 X0k1 X0k2
      go_wp2
      go_loopw [17] (fun i wr => ∃ k : Nat, i = .int .i64 k ∧ k ≤ cs.length ∧ (∀ j (hj : j < cs.length), j < k → inI 0 (C - 1) cs[j] = true) ∧ Whole wr w.heap.size 34 [.int .i64 R, .int .i64 C, .slice A l.length cap] ∧ Below w.heap.size w wr) (fun i _ => cs.length - (intOf i).toNat)
      case atStart => exact ⟨0, rfl, Nat.zero_le _, fun j _ h => absurd h (Nat.not_lt_zero j), X0, hb⟩
      case round =>
        clear X0 hb
        obtain ⟨k, rfl, hk, hall, X0, hb⟩ := hrel
        by_cases hlt : k < cs.length
        · obtain ⟨b, o, rfl, hbl, hc⟩ := hr' (by rw [ints_length]; omega)
          have hck := (hb.cell (p := ⟨b, o + k, none⟩) hbl).trans (hc k _ (ints_at cs k hlt))
          have HBk := Lib.hid (HB.out k hlt)
          have hall' : inI 0 (C - 1) cs[k] = true → ∀ j (hj : j < cs.length), j < k + 1 → inI 0 (C - 1) cs[j] = true := fun h j hj hjk => by
            rcases Nat.lt_or_eq_of_le (Nat.lt_succ_iff.1 hjk) with h1 | rfl
            · exact hall j hj h1
            · exact h
          have HAk := Lib.hid hall'
          have HI := Lib.hid (inI_lt (C := C) (x := cs[k]))
          clear hall hall' hc
          generalize hx : cs[k] = x at *
          have X0k0 : wr.cell? ⟨w.heap.size, 0, none⟩ = some (.int .i64 R) := (X0.cell 0).trans rfl; have X0k1 : wr.cell? ⟨w.heap.size, 1, none⟩ = some (.int .i64 C) := (X0.cell 1).trans rfl; have X0k2 : wr.cell? ⟨w.heap.size, 2, none⟩ = some (.slice A l.length cap) := (X0.cell 2).trans rfl
          go_wp2_with fail
          refine (impl_hasColumn _ _ _ _ _ _ _).mono ?_; rintro e w2 ⟨rfl, b2⟩
          clear X0k0 X0k1 X0k2
          replace X0 := X0.below b2 X0.lt
          replace hb := hb.trans (b2.mono hb.size)
          clear b2
          rewrite [← HI.out]
          rcases Bool.eq_false_or_eq_true (inI 0 (C - 1) x) with h | h
          · rewrite [h]
            have HA2 := Lib.hid (HAk.out h)
            clear h hck
            go_wp2
            go_roundw
            case rel => exact ⟨k + 1, by go_num, by omega, HA2.out, X0, hb⟩
            case measure => simp [intOf]; omega
          · rewrite [h]
            have HB2 := Lib.hid (HBk.out h)
            clear h hck
            go_wp2
            go_returns
            exact ⟨by rw [HB2.out]; rfl, hb⟩
        · obtain rfl : k = cs.length := by omega
          have HA2 := Lib.hid (HAl.out (fun j hj => hall j hj hj))
          clear hall
          go_wp2
          go_returns
          exact ⟨by rw [HA2.out]; rfl, hb⟩
    · have hd : decide ((60 : Int) < (cs.length : Int)) = true := by simp; omega
      have HE := Lib.hid (show (true && decide (cs.length ≤ 60) && allI 0 (C - 1) cs) = false by rw [decide_eq_false h60]; rfl)
      go_enter Tryz.func57, Tryz.ntmps57
      obtain ⟨v0, hv0⟩ : ∃ v, v = w.alloc (.cells #[.int .i64 R, .int .i64 C, .slice A l.length cap] 34) := ⟨_, rfl⟩; have X0 : Whole v0 w.heap.size 34 [.int .i64 R, .int .i64 C, .slice A l.length cap] := (by rw [hv0]; exact heap_alloc_new w _); have hb : Below w.heap.size w v0 := (by rw [hv0]; exact (Below.refl _ _).alloc (Nat.le_refl _) _); have HV := Lib.hid hv0.symm; clear hv0; go_upto_region 1 with (fail); rewrite [HV.out]; clear HV; have X0k0 : v0.cell? ⟨w.heap.size, 0, none⟩ = some (.int .i64 R) := (X0.cell 0).trans rfl; have X0k1 : v0.cell? ⟨w.heap.size, 1, none⟩ = some (.int .i64 C) := (X0.cell 1).trans rfl; have X0k2 : v0.cell? ⟨w.heap.size, 2, none⟩ = some (.slice A l.length cap) := (X0.cell 2).trans rfl
      go_wp2_with fail
      refine (impl_IsBoard _ _ _ _ l _ hn ((hr.below hb).mono hb.size)).mono ?_; rintro e w1 ⟨rfl, b1⟩
      rewrite [HG.out]
      (clear X0k0 X0k1 X0k2; replace X0 := X0.below b1 X0.lt; replace hb := hb.trans (b1.mono hb.size); clear b1; have X0k0 : w1.cell? ⟨w.heap.size, 0, none⟩ = some (.int .i64 R) := (X0.cell 0).trans rfl; have X0k1 : w1.cell? ⟨w.heap.size, 1, none⟩ = some (.int .i64 C) := (X0.cell 1).trans rfl; have X0k2 : w1.cell? ⟨w.heap.size, 2, none⟩ = some (.slice A l.length cap) := (X0.cell 2).trans rfl)
      go_wp2
      go_returns
      exact ⟨by rw [HE.out]; rfl, by (repeat' (first | (with_reducible exact Below.refl _ _) | (with_reducible assumption) | (with_reducible refine Below.alloc ?_ ?_ _) | (with_reducible refine Below.setCell ?_ ?_ _) | (with_reducible refine Below.drew ?_) | (with_reducible refine below_drewN ?_ _) | (with_reducible refine Below.trans ?_ (Below.mono (by assumption) ?_)) | (with_reducible exact Nat.le_refl _) | (simp; done) | omega | (simp at *; omega)))⟩
  · have HG := Lib.hid hg
    rw [hg]
    clear hg
    go_enter Tryz.func57, Tryz.ntmps57
    obtain ⟨v0, hv0⟩ : ∃ v, v = w.alloc (.cells #[.int .i64 R, .int .i64 C, .slice A l.length cap] 34) := ⟨_, rfl⟩; have X0 : Whole v0 w.heap.size 34 [.int .i64 R, .int .i64 C, .slice A l.length cap] := (by rw [hv0]; exact heap_alloc_new w _); have hb : Below w.heap.size w v0 := (by rw [hv0]; exact (Below.refl _ _).alloc (Nat.le_refl _) _); have HV := Lib.hid hv0.symm; clear hv0; go_upto_region 1 with (fail); rewrite [HV.out]; clear HV; have X0k0 : v0.cell? ⟨w.heap.size, 0, none⟩ = some (.int .i64 R) := (X0.cell 0).trans rfl; have X0k1 : v0.cell? ⟨w.heap.size, 1, none⟩ = some (.int .i64 C) := (X0.cell 1).trans rfl; have X0k2 : v0.cell? ⟨w.heap.size, 2, none⟩ = some (.slice A l.length cap) := (X0.cell 2).trans rfl
    go_wp2_with fail
    refine (impl_IsBoard _ _ _ _ l _ hn ((hr.below hb).mono hb.size)).mono ?_; rintro e w1 ⟨rfl, b1⟩
    rewrite [HG.out]
    (clear X0k0 X0k1 X0k2; replace X0 := X0.below b1 X0.lt; replace hb := hb.trans (b1.mono hb.size); clear b1; have X0k0 : w1.cell? ⟨w.heap.size, 0, none⟩ = some (.int .i64 R) := (X0.cell 0).trans rfl; have X0k1 : w1.cell? ⟨w.heap.size, 1, none⟩ = some (.int .i64 C) := (X0.cell 1).trans rfl; have X0k2 : w1.cell? ⟨w.heap.size, 2, none⟩ = some (.slice A l.length cap) := (X0.cell 2).trans rfl)
    go_wp2
    go_returns
    exact ⟨rfl, by (repeat' (first | (with_reducible exact Below.refl _ _) | (with_reducible assumption) | (with_reducible refine Below.alloc ?_ ?_ _) | (with_reducible refine Below.setCell ?_ ?_ _) | (with_reducible refine Below.drew ?_) | (with_reducible refine below_drewN ?_ _) | (with_reducible refine Below.trans ?_ (Below.mono (by assumption) ?_)) | (with_reducible exact Nat.le_refl _) | (simp; done) | omega | (simp at *; omega)))⟩
theorem impl_areEntries1 (R C : Int) (A : Option Addr) (cap : Nat) (l : List (Int × Int)) (j : Int) (g : Nat) (w : World) (hn : l.length ≤ 1048576) (hr : Rd w w.heap.size A (flat l)) (hg : Whole w g 3 [.int .i64 j]) :
    Calls Tryz.prog 57 #[.agg #[.int .i64 R, .int .i64 C, .slice A l.length cap], .slice (some ⟨g, 0, none⟩) 1 1] w fun e w' => e = .returned (.bool (okF R C l j)) ∧ Below w.heap.size w w' := by
  rw [← okC'_one]
  exact impl_areEntries R C A cap l (some ⟨g, 0, none⟩) 1 [j] w hn (by simp) hr (hg.rd hg.lt)
end Go.Proofs.YtlambflmabecfaaGreat
namespace Go.Proofs.YtlambflmabecfaaGreat
open Go.ChangeShapes Go.WideShapes Go.ChangeAt Go.RowKit Go.Joins Go.Deep
set_option linter.unusedSimpArgs false
set_option linter.unusedVariables false
set_option maxRecDepth 100000
set_option maxHeartbeats 4000000
end Go.Proofs.YtlambflmabecfaaGreat
namespace Go.Proofs.YtlambflmabecfaaGreat
open Go.ChangeShapes Go.WideShapes Go.ChangeAt Go.RowKit Go.Joins Go.Deep
set_option linter.unusedSimpArgs false
set_option linter.unusedVariables false
set_option maxRecDepth 100000
set_option maxHeartbeats 4000000
theorem flG_num (nm : List Int) (r c : Nat) : ∀ (n row : Nat) (l : List (Int × Int)) (col : Nat) (side : Int) (way : List (List Nat)), numL c (flG nm r c n row l col side way).cells = numL c l
  | 0, _, _, _, _, _ => rfl
  | n + 1, row, l, col, side, way => by
    rw [flG_step nm r c n row l col side way _ _ rfl rfl]
    split
    · rfl
    · split
      · rw [flG_num nm r c n, passL_num]
      · exact passL_num _ _ _ _
theorem stA_num (nm : List Int) (r c : Nat) (l : List (Int × Int)) (cs : List Int) : ∀ k, numL c (stA nm r c l cs k).2 = numL c l
  | 0 => rfl
  | k + 1 => by
    unfold stA
    rw [flG_num]
    exact stA_num nm r c l cs k
theorem run_make_falls0 (n : Nat) (hn : n ≤ 1048576) (w : World) :
    (Instr.makeSlice 74 (.int .i64 0) (.int .i64 (n : Int))).run Tryz.prog w = .ok (.slice (some ⟨w.heap.size, 0, none⟩) 0 n) (w.alloc (.cells (zrow (3 * n)).toArray 55)) := by
  obtain ⟨i0, hi, hz0, hz1, hz2⟩ := info_parts fallInfo
  have h := run_make (P := Tryz.prog) w 74 55 i0 _ Tryz.underlying74 hi hz0 .i64 .i64 0 (n : Int) (by omega) (by omega) (by rw [hz2]; omega) (by omega)
  rw [hz1] at h
  simp only [Int.toNat_natCast] at h
  have e : madeCells (Value.agg #[.int .i64 0, .int .i64 0, .int .i64 0]).cells (n * 3) = (zrow (3 * n)).toArray := by
    apply Array.ext
    · simp [madeCells, zrow]; omega
    · intro i h1 h2
      have h3 : i % 3 = 0 ∨ i % 3 = 1 ∨ i % 3 = 2 := by omega
      rcases h3 with h3 | h3 | h3 <;> simp [madeCells, zrow, Value.cells, h3]
  rw [h, e]
  rfl
theorem two_cells3 {w : World} {o : Obj} {x y z : Value} {t : TypeId} : ∀ j u, [x, y, z][j]? = some u → ((w.alloc o).alloc (.cells #[x, y, z] t)).cell? ((⟨w.heap.size + 1, 0, none⟩ : Addr).add j) = some u := by
  intro j u h
  have hn := heap_alloc_new (w.alloc o) (.cells #[x, y, z] t)
  rw [World.size_alloc] at hn
  have hw : Whole ((w.alloc o).alloc (.cells #[x, y, z] t)) (w.heap.size + 1) t [x, y, z] := hn
  have hj := hw.cell j
  rw [h] at hj
  rw [← hj]
  by_cases h0 : j = 0
  · subst h0; simp [Addr.add]
  · simp [Addr.add, h0]
/-- Ends of marbles, a board, and whether it succeeds: all the call's own. -/
def PostF (w : World) (R C : Int) (l : List (Int × Int)) (fs : List (Int × Int × Int)) (ok : Bool) (e : Ending) (w' : World) : Prop :=
  ∃ A cp A5 c5, e = .returned (.tuple #[.slice A fs.length cp, .agg #[.int .i64 R, .int .i64 C, .slice A5 l.length c5], .bool ok]) ∧ Own w' A 55 (flatF fs) ∧ New w A ∧ Own w' A5 95 (flat l) ∧ New w A5 ∧ Below w.heap.size w w'
theorem PostF.of_row {w w' : World} {R C : Int} {l : List (Int × Int)} {fs : List (Int × Int × Int)} {ok : Bool} {v : Value} {n : Nat} {A5 : Option Addr} {c5 : Nat} (hn : fs.length = n) (h : w'.ownsRow w.heap.size 55 3 v n (flatF fs)) (O5 : Own w' A5 95 (flat l)) (N5 : New w A5) (b : Below w.heap.size w w') :
    PostF w R C l fs ok (.returned (.tuple #[v, .agg #[.int .i64 R, .int .i64 C, .slice A5 l.length c5], .bool ok])) w' := by
  subst hn
  obtain ⟨A, cp, rfl⟩ := slice_of_row h
  have ho := own_of_row h
  exact ⟨A, cp, A5, c5, rfl, ho.1, ho.2, O5, N5, b⟩
theorem fallsO_len (R C : Int) (l : List (Int × Int)) (cs : List Int) (hn : l.length ≤ 1048576) (hn' : cs.length ≤ 1048576) : (fallsO R C l cs).1.length ≤ 1048576 ∧ (fallsO R C l cs).2.length ≤ 1048576 := by
  unfold fallsO
  split
  · obtain ⟨h1, h2⟩ := stA_len (numL C.toNat l) R.toNat C.toNat l cs cs.length
    exact ⟨by rw [h1]; exact hn', by rw [h2]; exact hn⟩
  · exact ⟨by simp, by simp⟩
end Go.Proofs.YtlambflmabecfaaGreat
namespace Go.Proofs.YtlambflmabecfaaGreat
open Go.ChangeShapes Go.WideShapes Go.ChangeAt Go.RowKit Go.Joins Go.Deep
set_option linter.unusedSimpArgs false
set_option linter.unusedVariables false
set_option maxRecDepth 100000
set_option maxHeartbeats 4000000
theorem own_fall {w : World} {k : Nat} {A : Option Addr} {x : List (Int × Int × Int)} (ho : Own w A 55 (flatF x)) (hk : k < x.length) : ∃ g, A = some ⟨g, 0, none⟩ ∧ g < w.heap.size ∧ w.cell? ⟨g, k * 3, none⟩ = some (.int .i64 (x.getD k (0, 0, 0)).1) ∧ w.cell? ⟨g, k * 3 + 1, none⟩ = some (.int .i64 (x.getD k (0, 0, 0)).2.1) ∧ w.cell? ⟨g, k * 3 + 2, none⟩ = some (.int .i64 (x.getD k (0, 0, 0)).2.2) := by
  obtain ⟨g, rest, rfl, X⟩ := ho (by rw [flatF_len]; omega)
  obtain ⟨h0, h1, h2⟩ := flatF_at x k hk
  have hlen := flatF_len x
  refine ⟨g, rfl, X.lt, (X.cell _).trans ?_, (X.cell _).trans ?_, (X.cell _).trans ?_⟩
  · rw [List.getElem?_append_left (by omega)]; exact h0
  · rw [List.getElem?_append_left (by omega)]; exact h1
  · rw [List.getElem?_append_left (by omega)]; exact h2
theorem okD_and (R C : Int) (l : List (Int × Int)) (R' C' : Int) (m : List (Int × Int)) (cs : List Int) : okD R C l R' C' m cs = (okC' R C l cs && okC' R' C' m cs && decide (C = C')) := by
  unfold okD
  by_cases hC : C = C'
  · subst hC
    rw [decide_eq_true rfl, Bool.and_true, Bool.and_true]
    unfold okC'
    cases goodB R C l <;> cases goodB R' C m <;> cases decide (cs.length ≤ 60) <;> cases allI 0 (C - 1) cs <;> rfl
  · rw [decide_eq_false hC, Bool.and_false, Bool.and_false]
theorem firstD_falls {R C : Int} {l : List (Int × Int)} {R' C' : Int} {m : List (Int × Int)} {cs : List Int} (hc : okC' R C l cs = true) (hm : okC' R' C' m cs = true) (hC : C = C') : firstD R C l R' C' m cs = firstAt (fallsO R C l cs).1 (fallsO R' C' m cs).1 (fallsO R C l cs).1.length 0 := by
  have e : (fallsO R C l cs).1.length = cs.length := by unfold fallsO; rw [hc, if_pos rfl]; exact (stA_len _ _ _ _ _ _).1
  rw [e]
  unfold firstD fallsO
  rw [okD_and, hc, hm, decide_eq_true hC]
  rfl
theorem firstD_none {R C : Int} {l : List (Int × Int)} {R' C' : Int} {m : List (Int × Int)} {cs : List Int} (h : okD R C l R' C' m cs = false) : firstD R C l R' C' m cs = none := by
  unfold firstD
  rw [h]
  rfl
end Go.Proofs.YtlambflmabecfaaGreat
namespace Go.Proofs.YtlambflmabecfaaGreat
open Go.ChangeShapes Go.WideShapes Go.ChangeAt Go.RowKit Go.Joins Go.Deep
set_option linter.unusedSimpArgs false
set_option linter.unusedVariables false
set_option maxRecDepth 100000
set_option maxHeartbeats 1000000
def cStep (c : Nat) (v : List Int) (f : Int × Int × Int) : List Int :=
  if f.1 = 1 then v.set f.2.2.toNat (v.getD f.2.2.toNat 0 + 1) else if f.1 = 2 then v.set c (v.getD c 0 + 1) else v.set (c + 1) (v.getD (c + 1) 0 + 1)
def cntK (c : Nat) (fs : List (Int × Int × Int)) : Nat → List Int
  | 0 => List.replicate (c + 2) 0
  | k + 1 => cStep c (cntK c fs k) (fs.getD k (0, 0, 0))
theorem cStep_len (c : Nat) (v : List Int) (f : Int × Int × Int) : (cStep c v f).length = v.length := by
  unfold cStep
  split
  · rw [List.length_set]
  · split <;> rw [List.length_set]
theorem cntK_len (c : Nat) (fs : List (Int × Int × Int)) : ∀ k, (cntK c fs k).length = c + 2
  | 0 => by simp [cntK]
  | k + 1 => by rw [cntK, cStep_len]; exact cntK_len c fs k
theorem set_bd {v : List Int} {j : Nat} {b : Int} (h : ∀ i, 0 ≤ v.getD i 0 ∧ v.getD i 0 ≤ b) : ∀ i, 0 ≤ (v.set j (v.getD j 0 + 1)).getD i 0 ∧ (v.set j (v.getD j 0 + 1)).getD i 0 ≤ b + 1 := fun i => by
  have h1 := h i
  have h2 := h j
  rw [List.getD_eq_getElem?_getD, List.getElem?_set]
  by_cases e : j = i
  · rw [if_pos e]
    by_cases hl : j < v.length
    · rw [if_pos hl]
      show 0 ≤ v.getD j 0 + 1 ∧ v.getD j 0 + 1 ≤ b + 1
      omega
    · rw [if_neg hl]
      show (0 : Int) ≤ 0 ∧ (0 : Int) ≤ b + 1
      omega
  · rw [if_neg e, ← List.getD_eq_getElem?_getD]
    omega
theorem cntK_bd (c : Nat) (fs : List (Int × Int × Int)) : ∀ k i, 0 ≤ (cntK c fs k).getD i 0 ∧ (cntK c fs k).getD i 0 ≤ k
  | 0, i => by
    have e : (cntK c fs 0).getD i 0 = 0 := by
      unfold cntK
      rw [List.getD_eq_getElem?_getD, List.getElem?_replicate]
      split <;> rfl
    rw [e]
    omega
  | k + 1, i => by
    have ih := cntK_bd c fs k
    rw [cntK]
    unfold cStep
    push_cast
    split
    · exact set_bd ih i
    · split
      · exact set_bd ih i
      · exact set_bd ih i
def okE (c : Nat) (f : Int × Int × Int) : Prop := (f.1 = 1 ∧ 0 ≤ f.2.2 ∧ f.2.2 < c) ∨ f.1 = 2 ∨ f.1 = 3
theorem flG_okE (nm : List Int) (r c : Nat) : ∀ (n row : Nat) (l : List (Int × Int)) (col : Nat) (side : Int) (way : List (List Nat)), col < c → okE c ((flG nm r c n row l col side way).e, (flG nm r c n row l col side way).row, (flG nm r c n row l col side way).col)
  | 0, _, _, _, _, _, h => .inl ⟨rfl, by show (0 : Int) ≤ ((_ : Nat) : Int); omega, by show (((_ : Nat) : Int)) < _; omega⟩
  | n + 1, row, l, col, side, way, h => by
    rw [flG_step nm r c n row l col side way _ _ rfl rfl]
    split
    · exact .inr (.inl rfl)
    · split
      · next hin => exact flG_okE nm r c n _ _ _ _ _ (by omega)
      · exact .inr (.inr rfl)
theorem stA_okE (nm : List Int) (r c : Nat) (l : List (Int × Int)) (cs : List Int) (hcs : ∀ k, k < cs.length → 0 ≤ cs.getD k 0 ∧ cs.getD k 0 < c) : ∀ k, k ≤ cs.length → ∀ i, i < k → okE c ((stA nm r c l cs k).1.getD i (0, 0, 0))
  | 0, _, i, h => absurd h (Nat.not_lt_zero i)
  | k + 1, hk, i, h => by
    have hl := (stA_len nm r c l cs k).1
    have hc := hcs k (by omega)
    unfold stA
    rw [List.getD_eq_getElem?_getD]
    by_cases e : i < k
    · rw [List.getElem?_append_left (by omega), ← List.getD_eq_getElem?_getD]
      exact stA_okE nm r c l cs hcs k (by omega) i e
    · have e2 : i = k := by omega
      subst e2
      rw [List.getElem?_append_right (by omega), hl, Nat.sub_self]
      exact flG_okE nm r c r 0 _ _ _ _ (by omega)
theorem ints_setI (v : List Int) (j : Nat) (x : Int) : (ints v).set j (.int .i64 x) = ints (v.set j x) := by
  unfold ints
  rw [List.map_set]
theorem zrow_ints (n : Nat) : zrow n = ints (List.replicate n 0) := by
  unfold zrow ints
  rw [List.map_replicate]
theorem ints_getD (v : List Int) (j : Nat) (h : j < v.length) : (ints v)[j]? = some (.int .i64 (v.getD j 0)) := by
  rw [ints_at v j h, List.getD_eq_getElem?_getD, List.getElem?_eq_getElem h]
  rfl
def arrL (R C : Int) (l : List (Int × Int)) (cs : List Int) : List Int := if okC' R C l cs then cntK C.toNat (fallsO R C l cs).1 cs.length else []
theorem arrL_len (R C : Int) (l : List (Int × Int)) (cs : List Int) : (arrL R C l cs).length ≤ 1048576 := by
  unfold arrL
  split
  · next h =>
    obtain ⟨hg, _, _⟩ := okC'_parts h
    obtain ⟨s1, s2, s3, s4⟩ := sizeB_iff.1 (goodB_iff.1 hg).1
    rw [cntK_len]
    omega
  · simp
theorem run_make_c2 (c : Nat) (hc : c ≤ 9) (w : World) :
    (Instr.makeSlice 73 (.int .i64 ((c : Int) + 2)) (.int .i64 ((c : Int) + 2))).run Tryz.prog w = .ok (.slice (some ⟨w.heap.size, 0, none⟩) (c + 2) (c + 2)) (w.alloc (.cells (zrow (c + 2)).toArray 3)) := by
  have h := run_make_ints (c + 2) (by omega) w
  push_cast at h
  exact h
theorem set_row {w : World} {A : Option Addr} {t t' : TypeId} {xs : List Value} {g j : Nat} {ys : List Value} {u : Value} (h : Own w A t xs) (hw : Whole w g t' ys) (hne : t ≠ t') : Own (w.setCell ⟨g, j, none⟩ u) A t xs :=
  h.apart hw hne ⟨rfl, rfl, rfl, by rw [World.size_setCell]; exact Nat.le_refl _, fun k _ hk => Below.heap_setCell _ _ _ _ (fun e => hk (by rw [e]))⟩
end Go.Proofs.YtlambflmabecfaaGreat
namespace Go.Proofs.YtlambflmabecfaaGreat
open Go.ChangeShapes Go.WideShapes Go.ChangeAt Go.RowKit Go.Joins Go.Deep
set_option linter.unusedSimpArgs false
set_option linter.unusedVariables false
set_option maxRecDepth 100000
set_option maxHeartbeats 1000000
theorem heldCell : Tryz.prog.stoodInHeld 95 = false := by kernel_rfl
theorem guardCell : Tryz.prog.eqGuardType Tryz.prog.depth 95 = false := by kernel_rfl
def diffTo (l m : List (Int × Int)) : Nat → List Int
  | 0 => []
  | k + 1 => if l.getD k (0, 0) = m.getD k (0, 0) then diffTo l m k else diffTo l m k ++ [(k : Int)]
theorem diffTo_le (l m : List (Int × Int)) (k : Nat) : (diffTo l m k).length ≤ k := by
  induction k with
  | zero => exact Nat.le_refl 0
  | succ k ih =>
    show (if l.getD k (0, 0) = m.getD k (0, 0) then diffTo l m k else diffTo l m k ++ [(k : Int)]).length ≤ k + 1
    split
    · omega
    · rw [List.length_append, List.length_singleton]; omega
def sameB (R C : Int) (l : List (Int × Int)) (R' C' : Int) (m : List (Int × Int)) : Bool := goodB R C l && goodB R' C' m && decide (R = R' ∧ C = C')
def diffB (R C : Int) (l : List (Int × Int)) (R' C' : Int) (m : List (Int × Int)) : List Int := if sameB R C l R' C' m then diffTo l m l.length else []
theorem diffB_len (R C : Int) (l : List (Int × Int)) (R' C' : Int) (m : List (Int × Int)) (h : l.length ≤ 1048576) : (diffB R C l R' C' m).length ≤ 1048576 := by
  unfold diffB
  have := diffTo_le l m l.length
  split
  · omega
  · simp
theorem getD_at {l : List (Int × Int)} {k : Nat} (h : k < l.length) : l.getD k (0, 0) = l[k] := by rw [List.getD_eq_getElem?_getD, List.getElem?_eq_getElem h]; rfl
theorem diffTo_no {l m : List (Int × Int)} {k : Nat} (h : k < l.length) (h' : k < m.length) (e : l[k].1 = m[k].1 ∧ l[k].2 = m[k].2) : diffTo l m (k + 1) = diffTo l m k := by
  show (if l.getD k (0, 0) = m.getD k (0, 0) then _ else _) = _
  rw [getD_at h, getD_at h', if_pos (Prod.ext e.1 e.2)]
theorem diffTo_yes {l m : List (Int × Int)} {k : Nat} (h : k < l.length) (h' : k < m.length) (e : ¬ (l[k].1 = m[k].1 ∧ l[k].2 = m[k].2)) : ints (diffTo l m (k + 1)) = ints (diffTo l m k) ++ [.int .i64 (k : Int)] ∧ (diffTo l m (k + 1)).length = (diffTo l m k).length + 1 := by
  have h2 : diffTo l m (k + 1) = diffTo l m k ++ [(k : Int)] := by
    show (if l.getD k (0, 0) = m.getD k (0, 0) then _ else _) = _
    rw [getD_at h, getD_at h', if_neg (fun x => e (by rw [x]; exact ⟨rfl, rfl⟩))]
  rw [h2]
  simp [ints]
theorem sameB_iff {R C : Int} {l : List (Int × Int)} {R' C' : Int} {m : List (Int × Int)} : sameB R C l R' C' m = true ↔ goodB R C l = true ∧ goodB R' C' m = true ∧ R = R' ∧ C = C' := by
  unfold sameB
  rw [Bool.and_eq_true, Bool.and_eq_true, decide_eq_true_eq, and_assoc]
theorem good_len {R C : Int} {l m : List (Int × Int)} (h : goodB R C l = true) (h' : goodB R C m = true) : l.length = m.length := by
  have h1 := (goodB_iff.1 h).2.1
  have h2 := (goodB_iff.1 h').2.1
  omega
end Go.Proofs.YtlambflmabecfaaGreat
namespace Go.Proofs.YtlambflmabecfaaGreat
open Go.ChangeShapes Go.WideShapes Go.ChangeAt Go.RowKit Go.Joins Go.Deep
set_option linter.unusedSimpArgs false
set_option linter.unusedVariables false
set_option maxRecDepth 100000
set_option maxHeartbeats 4000000
def turnedL (R C : Int) (l : List (Int × Int)) (j : Int) : List Int := if okF R C l j then diffTo l (marO R C l j).cells l.length else []
theorem turnedL_len (R C : Int) (l : List (Int × Int)) (j : Int) (hn : l.length ≤ 1048576) : (turnedL R C l j).length ≤ 1048576 := by
  unfold turnedL
  have := diffTo_le l (marO R C l j).cells l.length
  split
  · omega
  · simp
end Go.Proofs.YtlambflmabecfaaGreat
namespace Go.Proofs.YtlambflmabecfaaGreat
open Go.ChangeShapes Go.WideShapes Go.ChangeAt Go.RowKit Go.Joins Go.Deep
set_option linter.unusedSimpArgs false
set_option linter.unusedVariables false
set_option maxRecDepth 100000
set_option maxHeartbeats 4000000
theorem marO_good {r c : Nat} {l : List (Int × Int)} {col : Nat} (hg : goodB (r : Int) (c : Int) l = true) (hcol : col < c) : goodB (r : Int) (c : Int) (marO (r : Int) (c : Int) l (col : Int)).cells = true := by
  obtain ⟨h1, h2, h3⟩ := goodB_iff.1 hg
  refine goodB_iff.2 ⟨h1, by rw [marO_len]; exact h2, ?_⟩
  have hl : l.length = r * c := by
    have e : (l.length : Int) = ((r * c : Nat) : Int) := by rw [h2]; push_cast; rfl
    omega
  exact flG_good _ r c r 0 l _ _ _ hl (by omega) hcol h3
end Go.Proofs.YtlambflmabecfaaGreat
namespace Go.Proofs.YtlambflmabecfaaGreat
open Go.ChangeShapes Go.WideShapes Go.ChangeAt Go.RowKit Go.Joins Go.Deep
set_option linter.unusedSimpArgs false
set_option linter.unusedVariables false
set_option maxRecDepth 100000
set_option maxHeartbeats 1000000
/-- A machine's state in a run: cells, marbles left, the next colour; colours and ends so far. -/
structure MSt where
  l : List (Int × Int)
  bl : Int
  rd : Int
  nx : Int
  cs : List Int
  fs : List (Int × Int × Int)
def inM (lo hi n : Int) : Bool := decide (lo ≤ n) && decide (n ≤ hi)
def okM (R C : Int) (l : List (Int × Int)) (p q bl rd nx : Int) : Bool := okF R C l p && okF R C l q && inM 0 30 bl && inM 0 30 rd && inM 0 2 nx
def canM (bl rd nx : Int) : Bool := decide (nx = 0 ∧ 0 < bl ∨ nx = 1 ∧ 0 < rd)
def colM (p q nx : Int) : Int := if nx = 0 then p else q
def nextM (C : Int) (F : FlR) : Int := if F.e = 1 then (if 2 * F.col < C then 0 else 1) else 2
def stepM (R C p q : Int) (s : MSt) : MSt :=
  ⟨(marO R C s.l (colM p q s.nx)).cells, if s.nx = 0 then s.bl - 1 else s.bl, if s.nx = 0 then s.rd else s.rd - 1, nextM C (marO R C s.l (colM p q s.nx)), s.cs ++ [s.nx],
    s.fs ++ [((marO R C s.l (colM p q s.nx)).e, (marO R C s.l (colM p q s.nx)).row, (marO R C s.l (colM p q s.nx)).col)]⟩
def runM (R C p q : Int) : Nat → MSt → MSt
  | 0, s => s
  | n + 1, s => if canM s.bl s.rd s.nx then runM R C p q n (stepM R C p q s) else s
theorem runM_stop {R C p q : Int} {n : Nat} {s : MSt} (h : canM s.bl s.rd s.nx = false) : runM R C p q n s = s := by
  cases n with
  | zero => rfl
  | succ n => rw [runM, h]; rfl
theorem runM_go {R C p q : Int} {n : Nat} {s : MSt} (h : canM s.bl s.rd s.nx = true) : runM R C p q (n + 1) s = runM R C p q n (stepM R C p q s) := by
  rw [runM, h]; rfl
theorem okM_parts {R C : Int} {l : List (Int × Int)} {p q bl rd nx : Int} (h : okM R C l p q bl rd nx = true) : okF R C l p = true ∧ okF R C l q = true ∧ 0 ≤ bl ∧ bl ≤ 30 ∧ 0 ≤ rd ∧ rd ≤ 30 ∧ 0 ≤ nx ∧ nx ≤ 2 := by
  unfold okM inM at h
  simp only [Bool.and_eq_true, decide_eq_true_eq] at h
  exact ⟨h.1.1.1.1, h.1.1.1.2, h.1.1.2.1, h.1.1.2.2, h.1.2.1, h.1.2.2, h.2.1, h.2.2⟩
theorem colM_or (p q nx : Int) : colM p q nx = p ∨ colM p q nx = q := by
  unfold colM
  split
  · exact .inl rfl
  · exact .inr rfl
theorem canM_iff {bl rd nx : Int} : canM bl rd nx = true ↔ (nx = 0 ∧ 0 < bl ∨ nx = 1 ∧ 0 < rd) := by
  unfold canM
  exact decide_eq_true_iff
/-- What stands in each state of a run. -/
structure MOk (R C p q : Int) (n : Nat) (s : MSt) : Prop where
  len : s.l.length = n
  good : goodB R C s.l = true
  bl0 : 0 ≤ s.bl
  bl1 : s.bl ≤ 30
  rd0 : 0 ≤ s.rd
  rd1 : s.rd ≤ 30
  nx0 : 0 ≤ s.nx
  nx1 : s.nx ≤ 2
  same : s.cs.length = s.fs.length
  few : s.fs.length + s.bl.toNat + s.rd.toNat ≤ 60
theorem nextM_range (C : Int) (F : FlR) : 0 ≤ nextM C F ∧ nextM C F ≤ 2 := by
  unfold nextM
  split
  · split <;> omega
  · omega
theorem MOk.step {r c : Nat} {p q : Int} {n : Nat} {s : MSt} (h : MOk (r : Int) (c : Int) p q n s) (hp : 0 ≤ p ∧ p < c) (hq : 0 ≤ q ∧ q < c) (hc : canM s.bl s.rd s.nx = true) : MOk (r : Int) (c : Int) p q n (stepM (r : Int) (c : Int) p q s) := by
  obtain ⟨col, hcol, hlt⟩ : ∃ k : Nat, colM p q s.nx = (k : Int) ∧ k < c := by
    rcases colM_or p q s.nx with e | e
    · exact ⟨p.toNat, by rw [e]; omega, by omega⟩
    · exact ⟨q.toNat, by rw [e]; omega, by omega⟩
  have hn := nextM_range (c : Int) (marO (r : Int) (c : Int) s.l (colM p q s.nx))
  have h1 := h.bl0
  have h2 := h.bl1
  have h3 := h.rd0
  have h4 := h.rd1
  have h5 := h.few
  rw [canM_iff] at hc
  refine ⟨?_, ?_, ?_, ?_, ?_, ?_, hn.1, hn.2, ?_, ?_⟩
  · show (marO (r : Int) (c : Int) s.l (colM p q s.nx)).cells.length = n
    rw [marO_len]
    exact h.len
  · show goodB (r : Int) (c : Int) (marO (r : Int) (c : Int) s.l (colM p q s.nx)).cells = true
    rw [hcol]
    exact marO_good h.good hlt
  · show 0 ≤ (if s.nx = 0 then s.bl - 1 else s.bl)
    split <;> omega
  · show (if s.nx = 0 then s.bl - 1 else s.bl) ≤ 30
    split <;> omega
  · show 0 ≤ (if s.nx = 0 then s.rd else s.rd - 1)
    split <;> omega
  · show (if s.nx = 0 then s.rd else s.rd - 1) ≤ 30
    split <;> omega
  · show (s.cs ++ [s.nx]).length = (s.fs ++ [_]).length
    rw [List.length_append, List.length_append, h.same]
    rfl
  · show (s.fs ++ [_]).length + (if s.nx = 0 then s.bl - 1 else s.bl).toNat + (if s.nx = 0 then s.rd else s.rd - 1).toNat ≤ 60
    rw [List.length_append, List.length_singleton]
    split <;> omega
theorem MOk.run {r c : Nat} {p q : Int} {m : Nat} (hp : 0 ≤ p ∧ p < c) (hq : 0 ≤ q ∧ q < c) : ∀ (n : Nat) (s : MSt), MOk (r : Int) (c : Int) p q m s → MOk (r : Int) (c : Int) p q m (runM (r : Int) (c : Int) p q n s)
  | 0, _, h => h
  | n + 1, s, h => by
    rcases Bool.eq_false_or_eq_true (canM s.bl s.rd s.nx) with hc | hc
    · rw [runM_go hc]
      exact MOk.run hp hq n _ (h.step hp hq hc)
    · rw [runM_stop hc]
      exact h
theorem MOk.start {R C : Int} {l : List (Int × Int)} {p q bl rd nx : Int} (h : okM R C l p q bl rd nx = true) : MOk R C p q l.length ⟨l, bl, rd, nx, [], []⟩ := by
  obtain ⟨h1, h2, h3, h4, h5, h6, h7, h8⟩ := okM_parts h
  exact ⟨rfl, (okF_parts h1).1, h3, h4, h5, h6, h7, h8, rfl, by show 0 + bl.toNat + rd.toNat ≤ 60; omega⟩
end Go.Proofs.YtlambflmabecfaaGreat
namespace Go.Proofs.YtlambflmabecfaaGreat
open Go.ChangeShapes Go.WideShapes Go.ChangeAt Go.RowKit Go.Joins Go.Deep
set_option linter.unusedSimpArgs false
set_option linter.unusedVariables false
set_option maxRecDepth 100000
set_option maxHeartbeats 1000000
def endV (f : Int × Int × Int) : Value := .iface (if f.1 = 1 then 117 else 118) (.agg #[.int .i64 f.1, .int .i64 f.2.1, .int .i64 f.2.2])
theorem endV_in {a b c : Int} (h : a = 1) : endV (a, b, c) = .iface 117 (.agg #[.int .i64 a, .int .i64 b, .int .i64 c]) := by
  unfold endV
  rw [if_pos h]
theorem endV_out {a b c : Int} (h : a ≠ 1) : endV (a, b, c) = .iface 118 (.agg #[.int .i64 a, .int .i64 b, .int .i64 c]) := by
  unfold endV
  rw [if_neg h]
def flatR (l : List (Int × Int × Int × Int)) : List Value := l.flatMap fun x => [.int .i64 x.1, endV x.2]
theorem flatR_len (l : List (Int × Int × Int × Int)) : (flatR l).length = 2 * l.length := by
  induction l with
  | nil => rfl
  | cons c l ih =>
    have h : (flatR (c :: l)).length = (flatR l).length + 1 + 1 := rfl
    rw [h, ih, List.length_cons]
    omega
theorem flatR_app (l m : List (Int × Int × Int × Int)) : flatR (l ++ m) = flatR l ++ flatR m := by simp [flatR]
theorem flatR_at (l : List (Int × Int × Int × Int)) (k : Nat) (h : k < l.length) : (flatR l)[k * 2]? = some (.int .i64 l[k].1) ∧ (flatR l)[k * 2 + 1]? = some (endV l[k].2) := by
  induction l generalizing k with
  | nil => simp at h
  | cons c l ih =>
    cases k with
    | zero => exact ⟨rfl, rfl⟩
    | succ k =>
      have := ih k (by simpa using h)
      have e1 : (flatR (c :: l))[(k + 1) * 2]? = (flatR l)[k * 2]? := by rw [show (k + 1) * 2 = k * 2 + 1 + 1 by omega]; rfl
      have e2 : (flatR (c :: l))[(k + 1) * 2 + 1]? = (flatR l)[k * 2 + 1]? := by rw [show (k + 1) * 2 + 1 = k * 2 + 1 + 1 + 1 by omega]; rfl
      rw [e1, e2]
      exact this
/-- The releases of a state. -/
def relS (s : MSt) : List (Int × Int × Int × Int) := s.cs.zip s.fs
theorem relS_len {s : MSt} (h : s.cs.length = s.fs.length) : (relS s).length = s.fs.length := by
  unfold relS
  rw [List.length_zip, h, Nat.min_self]
theorem relS_step (R C p q : Int) {s : MSt} (h : s.cs.length = s.fs.length) : relS (stepM R C p q s) = relS s ++ [(s.nx, (marO R C s.l (colM p q s.nx)).e, (marO R C s.l (colM p q s.nx)).row, (marO R C s.l (colM p q s.nx)).col)] := by
  unfold relS stepM
  rw [List.zip_append h]
  rfl
theorem relS_cs {s : MSt} (h : s.cs.length = s.fs.length) : (relS s).map (·.1) = s.cs := List.map_fst_zip (by omega)
theorem relS_fs {s : MSt} (h : s.cs.length = s.fs.length) : (relS s).map (·.2) = s.fs := List.map_snd_zip (by omega)
/-- Only the blocks g and k have turned, and what is new. -/
structure Gr2 (w w' : World) (g k : Nat) : Prop where
  os : w'.os = w.os
  tape : w'.tape = w.tape
  output : w'.output = w.output
  size : w.heap.size ≤ w'.heap.size
  block : ∀ i, i < w.heap.size → i ≠ g → i ≠ k → w'.heap[i]? = w.heap[i]?
theorem Gr2.refl (w : World) (g k : Nat) : Gr2 w w g k := ⟨rfl, rfl, rfl, Nat.le_refl _, fun _ _ _ _ => rfl⟩
theorem Gr2.trans {w v v' : World} {g k : Nat} (h : Gr2 w v g k) (h' : Gr2 v v' g k) : Gr2 w v' g k :=
  ⟨h'.os.trans h.os, h'.tape.trans h.tape, h'.output.trans h.output, Nat.le_trans h.size h'.size, fun i hi h1 h2 => (h'.block i (Nat.lt_of_lt_of_le hi h.size) h1 h2).trans (h.block i hi h1 h2)⟩
theorem Gr2.grown {w v v' : World} {g k : Nat} (h : Gr2 w v g k) (h' : v.grownBy v' (some k)) : Gr2 w v' g k :=
  h.trans ⟨h'.os, h'.tape, h'.output, h'.size, fun i hi _ h2 => h'.block i hi (fun e => h2 (by injection e))⟩
theorem Gr2.below {w v v' : World} {g k : Nat} (h : Gr2 w v g k) (b : Below v.heap.size v v') : Gr2 w v' g k :=
  h.grown (gb_below (gb_refl v k) b)
theorem Gr2.set {w v : World} {g k : Nat} (h : Gr2 w v g k) (j : Nat) (u : Value) : Gr2 w (v.setCell ⟨g, j, none⟩ u) g k :=
  h.trans ⟨rfl, rfl, rfl, by rw [World.size_setCell]; exact Nat.le_refl _, fun i hi h1 _ => Below.heap_setCell _ _ _ _ h1⟩
theorem Gr2.whole {w w' : World} {g k i : Nat} {t : TypeId} {xs : List Value} (h : Gr2 w w' g k) (X : Whole w i t xs) (h1 : i ≠ g) (h2 : i ≠ k) : Whole w' i t xs := (h.block i X.lt h1 h2).trans X
theorem Gr2.toBelow {w w' : World} {g k B : Nat} (h : Gr2 w w' g k) (hB : B ≤ w.heap.size) (h1 : B ≤ g) (h2 : B ≤ k) : Below B w w' := by
  exact ⟨h.os, h.tape, h.output, h.size, fun i hi => h.block i (by omega) (by omega) (by omega)⟩
theorem Gr2.row {w w' : World} {g k base size n : Nat} {e : TypeId} {v : Value} {xs : List Value} (h : Gr2 w w' g k) (hr : w.ownsRow base e size v n xs) (h1 : v.ownBlock ≠ some g) (h2 : v.ownBlock ≠ some k) : w'.ownsRow base e size v n xs := by
  refine ⟨hr.1, ?_⟩
  rcases hr.2 with h3 | ⟨j, cap, cur, rfl, h4, hh, h5⟩
  · exact .inl h3
  · refine .inr ⟨j, cap, cur, rfl, h4, ?_, h5⟩
    refine (h.block j ?_ (fun e' => h1 (by rw [e']; rfl)) (fun e' => h2 (by rw [e']; rfl))).trans hh
    exact Whole.lt hh
/-- Colours and ends of a run. -/
structure MOk2 (c : Nat) (s : MSt) : Prop where
  fs : ∀ f ∈ s.fs, okE c f
  cs : ∀ x ∈ s.cs, x = 0 ∨ x = 1
theorem MOk2.start (c : Nat) (l : List (Int × Int)) (bl rd nx : Int) : MOk2 c ⟨l, bl, rd, nx, [], []⟩ := ⟨fun _ h => absurd h (by simp), fun _ h => absurd h (by simp)⟩
theorem MOk2.step {r c : Nat} {p q : Int} {s : MSt} (h : MOk2 c s) (hp : 0 ≤ p ∧ p < c) (hq : 0 ≤ q ∧ q < c) (hc : canM s.bl s.rd s.nx = true) : MOk2 c (stepM (r : Int) (c : Int) p q s) := by
  obtain ⟨col, hcol, hlt⟩ : ∃ k : Nat, colM p q s.nx = (k : Int) ∧ k < c := by
    rcases colM_or p q s.nx with e | e
    · exact ⟨p.toNat, by rw [e]; omega, by omega⟩
    · exact ⟨q.toNat, by rw [e]; omega, by omega⟩
  rw [canM_iff] at hc
  refine ⟨fun f hf => ?_, fun x hx => ?_⟩
  · rcases List.mem_append.1 hf with h1 | h1
    · exact h.fs f h1
    · rw [List.mem_singleton.1 h1, hcol]
      exact flG_okE _ r c r 0 s.l col 0 [] hlt
  · rcases List.mem_append.1 hx with h1 | h1
    · exact h.cs x h1
    · rw [List.mem_singleton.1 h1]
      omega
theorem MOk2.run {r c : Nat} {p q : Int} (hp : 0 ≤ p ∧ p < c) (hq : 0 ≤ q ∧ q < c) : ∀ (n : Nat) (s : MSt), MOk2 c s → MOk2 c (runM (r : Int) (c : Int) p q n s)
  | 0, _, h => h
  | n + 1, s, h => by
    rcases Bool.eq_false_or_eq_true (canM s.bl s.rd s.nx) with hc | hc
    · rw [runM_go hc]
      exact MOk2.run hp hq n _ (h.step hp hq hc)
    · rw [runM_stop hc]
      exact h
theorem runM_more (R C p q : Int) : ∀ (n : Nat) (s : MSt), canM (runM R C p q n s).bl (runM R C p q n s).rd (runM R C p q n s).nx = false ∨ (runM R C p q n s).fs.length = s.fs.length + n
  | 0, s => .inr rfl
  | n + 1, s => by
    rcases Bool.eq_false_or_eq_true (canM s.bl s.rd s.nx) with hc | hc
    · rw [runM_go hc]
      rcases runM_more R C p q n (stepM R C p q s) with h | h
      · exact .inl h
      · refine .inr (h.trans ?_)
        show (s.fs ++ [_]).length + n = _
        rw [List.length_append, List.length_singleton]
        omega
    · rw [runM_stop hc]
      exact .inl hc
end Go.Proofs.YtlambflmabecfaaGreat
namespace Go.Proofs.YtlambflmabecfaaGreat
open Go.ChangeShapes Go.WideShapes Go.ChangeAt Go.RowKit Go.Joins Go.Deep
set_option linter.unusedSimpArgs false
set_option linter.unusedVariables false
set_option maxRecDepth 100000
set_option maxHeartbeats 2000000
theorem okM_ints {R C : Int} {l : List (Int × Int)} {p q bl rd nx : Int} (h : okM R C l p q bl rd nx = true) : ∃ r c : Nat, R = (r : Int) ∧ C = (c : Int) ∧ Geo r c l.length ∧ goodB (r : Int) (c : Int) l = true ∧ (0 ≤ p ∧ p < (c : Int)) ∧ (0 ≤ q ∧ q < (c : Int)) := by
  obtain ⟨h1, h2, -⟩ := okM_parts h
  obtain ⟨g1, g2⟩ := okF_parts h1
  obtain ⟨-, g3⟩ := okF_parts h2
  obtain ⟨r, c, rfl, rfl, hG⟩ := geo_of g1
  exact ⟨r, c, rfl, rfl, hG, g1, g2, g3⟩
theorem spec_maGood (R C : Int) (A : Option Addr) (cap : Nat) (l : List (Int × Int)) (p q bl rd nx : Int) (w : World) (hn : l.length ≤ 1048576) (hr : Rd w w.heap.size A (flat l)) :
    Calls Tryz.prog 19 #[.agg #[.int .i64 R, .int .i64 C, .slice A l.length cap, .int .i64 p, .int .i64 q, .int .i64 bl, .int .i64 rd, .int .i64 nx]] w fun e w' => e = .returned (.bool (okM R C l p q bl rd nx)) ∧ Below w.heap.size w w' := by
  have HE := Lib.hid (show okM R C l p q bl rd nx = (okF R C l p && okF R C l q && (decide (0 ≤ bl) && decide (bl ≤ 30)) && (decide (0 ≤ rd) && decide (rd ≤ 30)) && (decide (0 ≤ nx) && decide (nx ≤ 2))) from rfl)
  rewrite [HE.out]
  clear HE
  go_enter Tryz.func19, Tryz.ntmps19
  obtain ⟨v0, hv0⟩ : ∃ v, v = w.alloc (.cells #[.int .i64 R, .int .i64 C, .slice A l.length cap, .int .i64 p, .int .i64 q, .int .i64 bl, .int .i64 rd, .int .i64 nx] 36) := ⟨_, rfl⟩; have X0 : Whole v0 w.heap.size 36 [.int .i64 R, .int .i64 C, .slice A l.length cap, .int .i64 p, .int .i64 q, .int .i64 bl, .int .i64 rd, .int .i64 nx] := (by rw [hv0]; exact heap_alloc_new w _); have hb : Below w.heap.size w v0 := (by rw [hv0]; exact (Below.refl _ _).alloc (Nat.le_refl _) _); have HV := Lib.hid hv0.symm; clear hv0; go_upto_region 1 with (fail); rewrite [HV.out]; clear HV; have hy := X0.lt
  have X0k0 : v0.cell? ⟨w.heap.size, 0, none⟩ = some (.int .i64 R) := (X0.cell 0).trans rfl; have X0k1 : v0.cell? ⟨w.heap.size, 1, none⟩ = some (.int .i64 C) := (X0.cell 1).trans rfl; have X0k2 : v0.cell? ⟨w.heap.size, 2, none⟩ = some (.slice A l.length cap) := (X0.cell 2).trans rfl; have X0k3 : v0.cell? ⟨w.heap.size, 3, none⟩ = some (.int .i64 p) := (X0.cell 3).trans rfl; have X0k4 : v0.cell? ⟨w.heap.size, 4, none⟩ = some (.int .i64 q) := (X0.cell 4).trans rfl; have X0k5 : v0.cell? ⟨w.heap.size, 5, none⟩ = some (.int .i64 bl) := (X0.cell 5).trans rfl; have X0k6 : v0.cell? ⟨w.heap.size, 6, none⟩ = some (.int .i64 rd) := (X0.cell 6).trans rfl; have X0k7 : v0.cell? ⟨w.heap.size, 7, none⟩ = some (.int .i64 nx) := (X0.cell 7).trans rfl
  go_wp2_with fail
  refine (spec_flHas _ _ _ _ l _ _ hn ((hr.below hb).mono hb.size)).mono ?_; rintro e w1 ⟨rfl, b1⟩
  clear X0k0 X0k1 X0k2 X0k3 X0k4 X0k5 X0k6 X0k7
  (replace X0 := X0.below b1 X0.lt; replace hb := hb.trans (b1.mono hb.size); have hy := X0.lt; clear b1)
  rcases Bool.eq_false_or_eq_true (okF R C l p) with h1 | h1
  · rewrite [h1]
    have X0k0 : w1.cell? ⟨w.heap.size, 0, none⟩ = some (.int .i64 R) := (X0.cell 0).trans rfl; have X0k1 : w1.cell? ⟨w.heap.size, 1, none⟩ = some (.int .i64 C) := (X0.cell 1).trans rfl; have X0k2 : w1.cell? ⟨w.heap.size, 2, none⟩ = some (.slice A l.length cap) := (X0.cell 2).trans rfl; have X0k3 : w1.cell? ⟨w.heap.size, 3, none⟩ = some (.int .i64 p) := (X0.cell 3).trans rfl; have X0k4 : w1.cell? ⟨w.heap.size, 4, none⟩ = some (.int .i64 q) := (X0.cell 4).trans rfl; have X0k5 : w1.cell? ⟨w.heap.size, 5, none⟩ = some (.int .i64 bl) := (X0.cell 5).trans rfl; have X0k6 : w1.cell? ⟨w.heap.size, 6, none⟩ = some (.int .i64 rd) := (X0.cell 6).trans rfl; have X0k7 : w1.cell? ⟨w.heap.size, 7, none⟩ = some (.int .i64 nx) := (X0.cell 7).trans rfl
    go_wp2_with fail
    refine (spec_flHas _ _ _ _ l _ _ hn ((hr.below hb).mono hb.size)).mono ?_; rintro e w2 ⟨rfl, b2⟩
    clear X0k0 X0k1 X0k2 X0k3 X0k4 X0k5 X0k6 X0k7
    (replace X0 := X0.below b2 X0.lt; replace hb := hb.trans (b2.mono hb.size); have hy := X0.lt; clear b2)
    rcases Bool.eq_false_or_eq_true (okF R C l q) with h2 | h2
    · rewrite [h2]
      have X0k0 : w2.cell? ⟨w.heap.size, 0, none⟩ = some (.int .i64 R) := (X0.cell 0).trans rfl; have X0k1 : w2.cell? ⟨w.heap.size, 1, none⟩ = some (.int .i64 C) := (X0.cell 1).trans rfl; have X0k2 : w2.cell? ⟨w.heap.size, 2, none⟩ = some (.slice A l.length cap) := (X0.cell 2).trans rfl; have X0k3 : w2.cell? ⟨w.heap.size, 3, none⟩ = some (.int .i64 p) := (X0.cell 3).trans rfl; have X0k4 : w2.cell? ⟨w.heap.size, 4, none⟩ = some (.int .i64 q) := (X0.cell 4).trans rfl; have X0k5 : w2.cell? ⟨w.heap.size, 5, none⟩ = some (.int .i64 bl) := (X0.cell 5).trans rfl; have X0k6 : w2.cell? ⟨w.heap.size, 6, none⟩ = some (.int .i64 rd) := (X0.cell 6).trans rfl; have X0k7 : w2.cell? ⟨w.heap.size, 7, none⟩ = some (.int .i64 nx) := (X0.cell 7).trans rfl
      go_wp2_with fail
      refine (spec_l1In _ _ _ _).mono ?_; rintro e w3 ⟨rfl, rfl⟩
      rcases Bool.eq_false_or_eq_true (decide (0 ≤ bl) && decide (bl ≤ 30)) with h3 | h3
      · rewrite [h3]
        go_wp2_with fail
        refine (spec_l1In _ _ _ _).mono ?_; rintro e w4 ⟨rfl, rfl⟩
        rcases Bool.eq_false_or_eq_true (decide (0 ≤ rd) && decide (rd ≤ 30)) with h4 | h4
        · rewrite [h4]
          go_wp2_with fail
          refine (spec_l1In _ _ _ _).mono ?_; rintro e w5 ⟨rfl, rfl⟩
          go_wp2
          go_returns
          exact ⟨by rw [h1, h2, h3, h4]; rfl, hb⟩
        · rewrite [h4]
          go_wp2
          go_returns
          exact ⟨by rw [h1, h2, h3, h4]; rfl, hb⟩
      · rewrite [h3]
        go_wp2
        go_returns
        exact ⟨by rw [h1, h2, h3]; rfl, hb⟩
    · rewrite [h2]
      go_wp2
      go_returns
      exact ⟨by rw [h1, h2]; rfl, hb⟩
  · rewrite [h1]
    go_wp2
    go_returns
    exact ⟨by rw [h1]; rfl, hb⟩
theorem canM_split (bl rd nx : Int) : canM bl rd nx = (decide (nx = 0) && decide (0 < bl) || decide (nx = 1) && decide (0 < rd)) := by
  unfold canM
  rw [Bool.eq_iff_iff]
  simp
theorem spec_maCan (R C : Int) (A : Option Addr) (cap : Nat) (l : List (Int × Int)) (p q bl rd nx : Int) (w : World) :
    Calls Tryz.prog 48 #[.agg #[.int .i64 R, .int .i64 C, .slice A l.length cap, .int .i64 p, .int .i64 q, .int .i64 bl, .int .i64 rd, .int .i64 nx]] w fun e w' => e = .returned (.bool (canM bl rd nx)) ∧ Below w.heap.size w w' := by
  by_cases h0 : nx = 0
  · subst h0
    by_cases h1 : 0 < bl
    · have HE := Lib.hid (show canM bl rd 0 = true by rw [canM_iff]; exact .inl ⟨rfl, h1⟩)
      rewrite [HE.out]
      go_enter Tryz.func48, Tryz.ntmps48
      go_wp2
      go_returns
      exact ⟨rfl, by (repeat' (first | (with_reducible exact Below.refl _ _) | (with_reducible assumption) | (with_reducible refine Below.alloc ?_ ?_ _) | (with_reducible refine Below.setCell ?_ ?_ _) | (with_reducible refine Below.drew ?_) | (with_reducible refine below_drewN ?_ _) | (with_reducible refine Below.trans ?_ (Below.mono (by assumption) ?_)) | (with_reducible exact Nat.le_refl _) | (simp; done) | omega | (simp at *; omega)))⟩
    · have HE := Lib.hid (show canM bl rd 0 = false by rw [Bool.eq_false_iff]; intro h; rw [canM_iff] at h; omega)
      rewrite [HE.out]
      go_enter Tryz.func48, Tryz.ntmps48
      go_wp2
      go_returns
      exact ⟨rfl, by (repeat' (first | (with_reducible exact Below.refl _ _) | (with_reducible assumption) | (with_reducible refine Below.alloc ?_ ?_ _) | (with_reducible refine Below.setCell ?_ ?_ _) | (with_reducible refine Below.drew ?_) | (with_reducible refine below_drewN ?_ _) | (with_reducible refine Below.trans ?_ (Below.mono (by assumption) ?_)) | (with_reducible exact Nat.le_refl _) | (simp; done) | omega | (simp at *; omega)))⟩
  · have hb0 : (nx == 0) = false := by simpa using h0
    by_cases h2 : nx = 1
    · subst h2
      by_cases h1 : 0 < rd
      · have HE := Lib.hid (show canM bl rd 1 = true by rw [canM_iff]; exact .inr ⟨rfl, h1⟩)
        rewrite [HE.out]
        go_enter Tryz.func48, Tryz.ntmps48
        go_wp2
        go_returns
        exact ⟨rfl, by (repeat' (first | (with_reducible exact Below.refl _ _) | (with_reducible assumption) | (with_reducible refine Below.alloc ?_ ?_ _) | (with_reducible refine Below.setCell ?_ ?_ _) | (with_reducible refine Below.drew ?_) | (with_reducible refine below_drewN ?_ _) | (with_reducible refine Below.trans ?_ (Below.mono (by assumption) ?_)) | (with_reducible exact Nat.le_refl _) | (simp; done) | omega | (simp at *; omega)))⟩
      · have HE := Lib.hid (show canM bl rd 1 = false by rw [Bool.eq_false_iff]; intro h; rw [canM_iff] at h; omega)
        rewrite [HE.out]
        go_enter Tryz.func48, Tryz.ntmps48
        go_wp2
        go_returns
        exact ⟨rfl, by (repeat' (first | (with_reducible exact Below.refl _ _) | (with_reducible assumption) | (with_reducible refine Below.alloc ?_ ?_ _) | (with_reducible refine Below.setCell ?_ ?_ _) | (with_reducible refine Below.drew ?_) | (with_reducible refine below_drewN ?_ _) | (with_reducible refine Below.trans ?_ (Below.mono (by assumption) ?_)) | (with_reducible exact Nat.le_refl _) | (simp; done) | omega | (simp at *; omega)))⟩
    · have hb1 : (nx == 1) = false := by simpa using h2
      have HE := Lib.hid (show canM bl rd nx = false by rw [Bool.eq_false_iff]; intro h; rw [canM_iff] at h; omega)
      rewrite [HE.out]
      go_enter Tryz.func48, Tryz.ntmps48
      go_wp2
      go_returns
      exact ⟨rfl, by (repeat' (first | (with_reducible exact Below.refl _ _) | (with_reducible assumption) | (with_reducible refine Below.alloc ?_ ?_ _) | (with_reducible refine Below.setCell ?_ ?_ _) | (with_reducible refine Below.drew ?_) | (with_reducible refine below_drewN ?_ _) | (with_reducible refine Below.trans ?_ (Below.mono (by assumption) ?_)) | (with_reducible exact Nat.le_refl _) | (simp; done) | omega | (simp at *; omega)))⟩
end Go.Proofs.YtlambflmabecfaaGreat
