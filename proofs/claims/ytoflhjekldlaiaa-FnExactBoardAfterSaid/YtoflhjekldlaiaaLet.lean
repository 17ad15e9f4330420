/- letFall: the program's; the whole way of a marble in cells of its own. -/
import Derived.Test.YtoflhjekldlaiaaGo
import Derived.Test.YtoflhjekldlaiaaPassI
namespace Go.Proofs.Ytoflhjekldlaiaa
open Go.ChangeShapes Go.WideShapes Go.ChangeAt Go.RowKit Go.Joins Go.Deep
set_option linter.unusedSimpArgs false
set_option linter.unusedVariables false
set_option maxRecDepth 100000
set_option maxHeartbeats 4000000
theorem impl_hasColumn (R C : Int) (A : Option Addr) (n cap : Nat) (j : Int) (w : World) :
    Calls Try.prog 74 #[.agg #[.int .i64 R, .int .i64 C, .slice A n cap], .int .i64 j] w fun e w' => e = .returned (.bool (decide (0 ≤ j ∧ j < C))) ∧ Below w.heap.size w w' := by
  have HE := Lib.hid (show decide (0 ≤ j ∧ j < C) = (decide (0 ≤ j) && decide (j < C)) by rw [Bool.eq_iff_iff]; simp)
  rewrite [HE.out]
  rcases Bool.eq_false_or_eq_true (decide (0 ≤ j)) with h0 | h0
  · have HD := Lib.hid h0
    rw [h0]
    have h1 := of_decide_eq_true h0
    clear HE
    go_enter Try.func74, Try.ntmps74
    go_wp2
    go_returns
    exact ⟨rfl, by (repeat' (first | (with_reducible exact Below.refl _ _) | (with_reducible assumption) | (with_reducible refine Below.alloc ?_ ?_ _) | (with_reducible refine Below.setCell ?_ ?_ _) | (with_reducible refine Below.drew ?_) | (with_reducible refine below_drewN ?_ _) | (with_reducible refine Below.trans ?_ (Below.mono (by assumption) ?_)) | (with_reducible exact Nat.le_refl _) | (simp; done) | omega | (simp at *; omega)))⟩
  · have h1 := of_decide_eq_false h0
    rw [h0]
    clear HE
    go_enter Try.func74, Try.ntmps74
    go_wp2
    go_returns
    exact ⟨rfl, by (repeat' (first | (with_reducible exact Below.refl _ _) | (with_reducible assumption) | (with_reducible refine Below.alloc ?_ ?_ _) | (with_reducible refine Below.setCell ?_ ?_ _) | (with_reducible refine Below.drew ?_) | (with_reducible refine below_drewN ?_ _) | (with_reducible refine Below.trans ?_ (Below.mono (by assumption) ?_)) | (with_reducible exact Nat.le_refl _) | (simp; done) | omega | (simp at *; omega)))⟩
def wayI (c : Nat) (wy : List (List Nat)) : List Int := wy.map fun p => ((p.getD 0 0 * c + p.getD 1 0 : Nat) : Int)
theorem wayI_len (c : Nat) (wy : List (List Nat)) : (wayI c wy).length = wy.length := by simp [wayI]
theorem wayI_push (c : Nat) (wy : List (List Nat)) (k cl : Nat) : ints (wayI c (wy ++ [[k, cl]])) = ints (wayI c wy) ++ [.int .i64 ((k * c + cl : Nat) : Int)] := by
  simp [wayI, ints]
/-- What letFall leaves behind: the cells met, the end, and its cells turned. -/
def PostM (w : World) (g5 : Nat) (rest5 : List Value) (c : Nat) (F : FlR) (e : Ending) (w' : World) : Prop :=
  ∃ A cp, e = .returned (.tuple #[.slice A F.way.length cp, .agg #[.int .i64 F.e, .int .i64 F.row, .int .i64 F.col]]) ∧ Own w' A 3 (ints (wayI c F.way)) ∧ New w A ∧ Whole w' g5 92 (flat F.cells ++ rest5) ∧ w.grownBy w' (some g5)
theorem gb_far {w v : World} {g : Nat} (h : w.grownBy v (some g)) {p : Addr} (hp : w.heap.size ≤ p.block) (u : Value) : w.grownBy (v.setCell p u) (some g) :=
  ⟨h.os, h.tape, h.output, by rw [World.size_setCell]; exact h.size, fun k hk hne => (Below.heap_setCell _ _ _ _ (by omega)).trans (h.block k hk hne)⟩
theorem gb_grown {w v v' : World} {g : Nat} {row : Option Nat} (h : w.grownBy v (some g)) (hg : v.grownBy v' row) (hrow : ∀ k, row = some k → w.heap.size ≤ k) : w.grownBy v' (some g) :=
  ⟨hg.os.trans h.os, hg.tape.trans h.tape, hg.output.trans h.output, Nat.le_trans h.size hg.size, fun k hk hne => (hg.block k (Nat.lt_of_lt_of_le hk h.size) (fun e => by have := hrow k e.symm; omega)).trans (h.block k hk hne)⟩
theorem gb_same {w v v' : World} {g : Nat} (h : w.grownBy v (some g)) (hg : v.grownBy v' (some g)) : w.grownBy v' (some g) :=
  ⟨hg.os.trans h.os, hg.tape.trans h.tape, hg.output.trans h.output, Nat.le_trans h.size hg.size, fun k hk hne => (hg.block k (Nat.lt_of_lt_of_le hk h.size) hne).trans (h.block k hk hne)⟩
theorem run_make_ints0 (n : Nat) (hn : n ≤ 1048576) (w : World) :
    (Instr.makeSlice 45 (.int .i64 0) (.int .i64 (n : Int))).run Try.prog w = .ok (.slice (some ⟨w.heap.size, 0, none⟩) 0 n) (w.alloc (.cells (zrow n).toArray 3)) := by
  obtain ⟨i0, hi, hz0, hz1, hz2⟩ := info_parts intInfo
  have h := run_make (P := Try.prog) w 45 3 i0 _ Try.underlying45 hi hz0 .i64 .i64 0 (n : Int) (by omega) (by omega) (by rw [hz2]; omega) (by omega)
  rw [hz1] at h
  simp only [Int.toNat_natCast] at h
  rw [h, made_ints]
  rfl
theorem row_far3 {w : World} {base : Nat} {e : TypeId} {size n : Nat} {v : Value} {xs : List Value} (h : w.ownsRow base e size v n xs) {a : Nat} (hne : some a ≠ v.ownBlock) (u0 u1 u2 : Value) : (((w.setCell ⟨a, 0, none⟩ u0).setCell ⟨a, 1, none⟩ u1).setCell ⟨a, 2, none⟩ u2).ownsRow base e size v n xs := by
  have one : ∀ {w : World} (p : Addr) (u : Value), w.ownsRow base e size v n xs → some p.block ≠ v.ownBlock → (w.setCell p u).ownsRow base e size v n xs := fun {w} p u h hne => by
    refine ⟨h.1, ?_⟩
    rcases h.2 with h2 | ⟨g, cap, cur, rfl, h2, hh, h3⟩
    · exact .inl h2
    · have hne' : g ≠ p.block := fun e' => hne (by simp [Value.ownBlock, e'])
      exact .inr ⟨g, cap, cur, rfl, h2, (Below.heap_setCell w p u g hne').trans hh, h3⟩
  exact one ⟨a, 2, none⟩ u2 (one ⟨a, 1, none⟩ u1 (one ⟨a, 0, none⟩ u0 h hne) hne) hne
theorem PostM.mk {w w' : World} {g5 a : Nat} {rest5 : List Value} {c : Nat} {v : Value} {n : Nat} {x y z p q s u0 u1 u2 : Value} {X Y Z : Int} {L : List (Int × Int)} {wy : List (List Nat)} (hx : x = .int .i64 X) (hy : y = .int .i64 Y) (hz : z = .int .i64 Z) (hn : wy.length = n)
    (hown : w'.ownsRow w.heap.size 3 1 v n (ints (wayI c wy))) (X1 : Whole w' a 27 [p, q, s]) (ha : w.heap.size ≤ a) (hne : a ≠ g5) (X7 : Whole w' g5 92 (flat L ++ rest5)) (gb : w.grownBy w' (some g5)) :
    PostM w g5 rest5 c ⟨X, Y, Z, L, wy⟩ (.returned (.tuple #[v, .agg #[x, y, z]])) (((w'.setCell ⟨a, 0, none⟩ u0).setCell ⟨a, 1, none⟩ u1).setCell ⟨a, 2, none⟩ u2) := by
  subst hx hy hz hn
  have h1 := row_far3 hown (row_apart hown X1 (by decide)) u0 u1 u2
  obtain ⟨A, cp, rfl⟩ := slice_of_row h1
  have ho := own_of_row h1
  exact ⟨A, cp, rfl, ho.1, ho.2, three_far X7 hne, gb_far (gb_far (gb_far gb (p := ⟨a, 0, none⟩) ha u0) (p := ⟨a, 1, none⟩) ha u1) (p := ⟨a, 2, none⟩) ha u2⟩
theorem PostM.drew {w w' : World} {g5 : Nat} {rest5 : List Value} {c : Nat} {F : FlR} {e : Ending} (h : PostM w g5 rest5 c F e w') : PostM w g5 rest5 c F e w'.drew := by
  obtain ⟨A, cp, h1, h2, h3, h4, h5⟩ := h
  exact ⟨A, cp, h1, h2.keep ((Below.refl _ _).drew), h3, h4.below ((Below.refl _ _).drew) h4.lt, gb_below h5 ((Below.refl _ _).drew)⟩
theorem impl_letFall (r c g5 cap : Nat) (l : List (Int × Int)) (rest5 : List Value) (col : Nat) (w : World) (hG : Geo r c l.length) (hgd : goodB (r : Int) (c : Int) l = true) (hcol : col < c) (X7 : Whole w g5 92 (flat l ++ rest5)) :
    Calls Try.prog 57 #[.agg #[.int .i64 (r : Int), .int .i64 (c : Int), .slice (some ⟨g5, 0, none⟩) l.length cap], .int .i64 (col : Int)] w (PostM w g5 rest5 c (flG (numL c l) r c r 0 l col 0 [])) := by
  obtain ⟨s1, s2, s3, s4⟩ := sizeB_iff.1 (goodB_iff.1 hgd).1
  have hgd2 := (goodB_iff.1 hgd).2.2
  have n90 := hG.n90
  have HRC := Lib.hid hG.cells
  have HGe := Lib.hid hG
  obtain ⟨i0, hi, hz0, hz1, hz2⟩ := info_parts intInfo
  have hmk := run_make_ints0 r (by omega)
  have h5w := X7.lt
  clear hgd hG
  go_enter Try.func57, Try.ntmps57
  obtain ⟨v0, hv0, X0, X1, B0, hz0⟩ := two_boxes w [.int .i64 (r : Int), .int .i64 (c : Int), .slice (some ⟨g5, 0, none⟩) l.length cap] 32 [.int .i64 0, .int .i64 0, .int .i64 0] 27
  have HV := Lib.hid hv0
  have HZ := Lib.hid hz0
  have hz : w.heap.size + 1 < v0.heap.size := by omega
  have hy : w.heap.size < v0.heap.size := by omega
  have hb0 := B0.size
  clear hv0 hz0
  go_wp2_with fail
  rewrite [show (w.alloc (.cells ([.int .i64 (r : Int), .int .i64 (c : Int), .slice (some ⟨g5, 0, none⟩) l.length cap] : List Value).toArray 32)).alloc (.cells ([.int .i64 0, .int .i64 0, .int .i64 0] : List Value).toArray 27) = v0 from HV.out]
  clear HV
  have hgb : w.grownBy v0 (some g5) := gb_below (gb_refl w g5) B0
  replace X7 := X7.below B0 h5w
  have X0k0 : v0.cell? ⟨w.heap.size, 0, none⟩ = some (.int .i64 (r : Int)) := (X0.cell 0).trans rfl; have X0k1 : v0.cell? ⟨w.heap.size, 1, none⟩ = some (.int .i64 (c : Int)) := (X0.cell 1).trans rfl; have X0k2 : v0.cell? ⟨w.heap.size, 2, none⟩ = some (.slice (some ⟨g5, 0, none⟩) l.length cap) := (X0.cell 2).trans rfl
  go_upto_region 2 with (fail)
  clear X0k0 X0k1 X0k2
  have hown := World.ownsRow_made (e := 3) (size := 1) (base := w.heap.size) v0 (zrow r).toArray r (by omega) (by unfold maxLen; omega) (by simp [zrow])
  have ba : Below v0.heap.size v0 (v0.alloc (.cells (zrow r).toArray 3)) := (Below.refl _ _).alloc (Nat.le_refl _) _
  replace X0 := X0.below ba X0.lt
  replace X1 := X1.below ba X1.lt
  replace X7 := X7.below ba X7.lt
  replace hgb := gb_below hgb ba
  clear ba B0 hb0 hmk
  generalize v0.alloc (.cells (zrow r).toArray 3) = v1 at *
  rw [HZ.out] at hown
  clear HZ
  generalize v0.heap.size = G at *
  have X0k0 : v1.cell? ⟨w.heap.size, 0, none⟩ = some (.int .i64 (r : Int)) := (X0.cell 0).trans rfl; have X0k1 : v1.cell? ⟨w.heap.size, 1, none⟩ = some (.int .i64 (c : Int)) := (X0.cell 1).trans rfl; have X0k2 : v1.cell? ⟨w.heap.size, 2, none⟩ = some (.slice (some ⟨g5, 0, none⟩) l.length cap) := (X0.cell 2).trans rfl
  go_wp2
  clear X0k0 X0k1 X0k2
  obtain ⟨F, hF⟩ : ∃ F, flG (numL c l) r c r 0 l col 0 [] = F := ⟨_, rfl⟩
  have hF0 : flG (numL c l) r c (r - 0) 0 l col 0 [] = F := hF
  have HFq := Lib.hid hF
  generalize hnm : numL c l = nm at *
  clear hF
  go_loopw [1, 6, 7, 17] (fun cv wv sv rv wr => ∃ (k cl : Nat) (d : Int) (lk : List (Int × Int)) (wy : List (List Nat)), rv = .int .i64 k ∧ cv = .int .i64 cl ∧ sv = .int .i64 d ∧ k ≤ r ∧ cl < c ∧ -1 ≤ d ∧ d ≤ 1 ∧ lk.length = l.length ∧ (∀ x ∈ lk, good x.1 x.2 = true) ∧ wy.length = k ∧ numL c lk = nm ∧ flG nm r c (r - k) k lk cl d wy = F ∧
    Whole wr w.heap.size 32 [.int .i64 (r : Int), .int .i64 (c : Int), .slice (some ⟨g5, 0, none⟩) l.length cap] ∧ Whole wr (w.heap.size + 1) 27 [.int .i64 0, .int .i64 0, .int .i64 0] ∧ Whole wr g5 92 (flat lk ++ rest5) ∧ wr.ownsRow w.heap.size 3 1 wv wy.length (ints (wayI c wy)) ∧ w.grownBy wr (some g5)) (fun _ _ _ rv _ => r - (intOf rv).toNat)
  case atStart => exact ⟨0, col, 0, l, [], rfl, rfl, rfl, Nat.zero_le _, hcol, by omega, by omega, rfl, hgd2, rfl, hnm, hF0, X0, X1, X7, hown, hgb⟩
  case round =>
    clear X0 X1 X7 hown hgb hz hy hF0 hgd2 hcol hnm
    obtain ⟨k, cl, d, lk, wy, rfl, rfl, rfl, hk, hcl, hd1, hd2, hlk, hgk, hwy, hnm, hF, X0, X1, X7, hown, hgb⟩ := hrel
    have hs := hgb.size
    have hyw := X0.lt
    have hzw := X1.lt
    by_cases hlt : k < r
    · have hidx : k * c + cl < l.length := by
        have h1 := Nat.mul_le_mul (show k + 1 ≤ r by omega) (Nat.le_refl c)
        rw [Nat.succ_mul] at h1
        have := HRC.out
        omega
      have hGk : Geo r c lk.length := by rw [hlk]; exact HGe.out
      have u0 : (flat lk ++ rest5)[(k * c + cl) * 2]? = some (.int .i64 (lk.getD (k * c + cl) (0, 0)).1) := by
        rw [List.getD_eq_getElem?_getD, List.getElem?_eq_getElem (show k * c + cl < lk.length by omega), List.getElem?_append_left (by rw [flat_length]; omega), (flat_at _ (k * c + cl) (by omega)).1]; rfl
      have u1 : (flat lk ++ rest5)[(k * c + cl) * 2 + 1]? = some (.int .i64 (lk.getD (k * c + cl) (0, 0)).2) := by
        rw [List.getD_eq_getElem?_getD, List.getElem?_eq_getElem (show k * c + cl < lk.length by omega), List.getElem?_append_left (by rw [flat_length]; omega), (flat_at _ (k * c + cl) (by omega)).2]; rfl
      have hxg : good (lk.getD (k * c + cl) (0, 0)).1 (lk.getD (k * c + cl) (0, 0)).2 = true := by
        rw [List.getD_eq_getElem?_getD, List.getElem?_eq_getElem (by omega)]
        exact hgk _ (List.getElem_mem _)
      have HSt := Lib.hid (flG_step nm r c (r - k - 1) k lk cl d wy _ _ rfl rfl)
      have er : r - k = r - k - 1 + 1 := by omega
      rw [er] at hF
      have HTB := Lib.hid (fun w0 X => impl_turnBehind r c g5 cap lk rest5 (k * c + cl) w0 hGk (by omega) (by omega) hgk X)
      rw [hnm, hlk] at HTB
      have HPg := Lib.hid (passL_good (nm := nm) (show k * c + cl < lk.length by omega) hgk)
      have HPl := Lib.hid ((passL_len nm lk (k * c + cl)).trans hlk)
      have HPn := Lib.hid ((passL_num c nm lk (k * c + cl)).trans hnm)
      have m1 : IntKind.i64.wrap ((k : Int) * (c : Int)) = (k : Int) * (c : Int) := by
        have e : (k : Int) * (c : Int) = ((k * c : Nat) : Int) := by push_cast; rfl
        rw [e]; exact IntWalk.i64_in _ (by omega)
      have m2 : IntKind.i64.wrap ((k : Int) * (c : Int) + (cl : Int)) = ((k * c + cl : Nat) : Int) := by
        have e : (k : Int) * (c : Int) + (cl : Int) = ((k * c + cl : Nat) : Int) := by push_cast; rfl
        rw [e]; exact IntWalk.i64_in _ (by omega)
      have HWp := Lib.hid (wayI_push c wy k cl)
      have hwl : (wy ++ [[k, cl]]).length = k + 1 := by rw [List.length_append, hwy]; rfl
      have HWl := Lib.hid hwl
      have HL9 := Lib.hid hlk
      clear hGk hgk hnm hlk hwl
      generalize (lk.getD (k * c + cl) (0, 0)).1 = kd at *
      generalize (lk.getD (k * c + cl) (0, 0)).2 = st at *
      have HFS := Lib.hid (HSt.out.symm.trans hF)
      clear HSt hF er
      rw [hwy] at hown
      have HWy := Lib.hid hwy
      clear hwy
      generalize hix : k * c + cl = ix at *
      have HIx := Lib.hid hix
      clear hix
      have X0k0 : wr.cell? ⟨w.heap.size, 0, none⟩ = some (.int .i64 (r : Int)) := (X0.cell 0).trans rfl; have X0k1 : wr.cell? ⟨w.heap.size, 1, none⟩ = some (.int .i64 (c : Int)) := (X0.cell 1).trans rfl; have X0k2 : wr.cell? ⟨w.heap.size, 2, none⟩ = some (.slice (some ⟨g5, 0, none⟩) l.length cap) := (X0.cell 2).trans rfl
      go_upto_region 8 with (first | (at_builtin; refine wpList_append_own _ rfl (.tmp 26) (.tmp 28) 45 rfl w.heap.size 3 i0 _ 1 8 Try.underlying45 hi hz0 hz1 hz2 rfl (by omega) _ k (ints (wayI c wy)) rfl (hown.alloc _) ⟨wr.heap.size, 0, none⟩ 1 1 [.int .i64 (ix : Int)] rfl rfl one_cellI one_oneI (by unfold maxLen; omega) (by omega) (by simp; omega) ?_; intro v3 w3 hown3 hg3 _) | fail)
      clear X0k0 X0k1 X0k2
      have hYa := hown.alloc (.cells #[.int .i64 (ix : Int)] 3)
      replace X0 := (X0.alloc (.cells #[.int .i64 (ix : Int)] 3)).grown hg3 (row_apart hYa (X0.alloc _) (by decide))
      replace X1 := (X1.alloc (.cells #[.int .i64 (ix : Int)] 3)).grown hg3 (row_apart hYa (X1.alloc _) (by decide))
      replace X7 := (X7.alloc (.cells #[.int .i64 (ix : Int)] 3)).grown hg3 (row_apart hYa (X7.alloc _) (by decide))
      replace hgb := gb_grown (gb_below hgb ((Below.refl _ _).alloc (Nat.le_refl _) (.cells #[.int .i64 (ix : Int)] 3))) hg3 (fun k e => (hYa.lt k e).1)
      replace hs := hgb.size
      rw [← HWp.out] at hown3
      clear hown hYa hg3 HWp m1 m2
      have hc0 : w3.cell? ⟨g5, ix * 2, none⟩ = some (.int .i64 kd) := (X7.cell _).trans u0
      have hc1 : w3.cell? ⟨g5, ix * 2 + 1, none⟩ = some (.int .i64 st) := (X7.cell _).trans u1
      clear u0 u1
      have hg5 := X7.lt
      have X0k0 : w3.cell? ⟨w.heap.size, 0, none⟩ = some (.int .i64 (r : Int)) := (X0.cell 0).trans rfl; have X0k1 : w3.cell? ⟨w.heap.size, 1, none⟩ = some (.int .i64 (c : Int)) := (X0.cell 1).trans rfl; have X0k2 : w3.cell? ⟨w.heap.size, 2, none⟩ = some (.slice (some ⟨g5, 0, none⟩) l.length cap) := (X0.cell 2).trans rfl
      go_wp2_with fail
      refine (impl_GoesTo kd st d _).mono ?_; rintro e w4 ⟨rfl, b4⟩
      clear hc0 hc1
      clear X0k0 X0k1 X0k2
      replace X0 := X0.below b4 X0.lt
      replace X1 := X1.below b4 X1.lt
      replace X7 := X7.below b4 X7.lt
      replace hgb := gb_below hgb b4
      replace hown3 := row_keep hown3 b4
      clear b4
      by_cases h5k : kd = 5
      · have HF := HFS.out
        rw [if_pos h5k] at HF
        have HEq := Lib.hid (HFq.out.trans HF.symm)
        clear HF HFS HTB
        subst h5k
        rewrite [show goB 5 st d = false by unfold goB; simp]
        have X1k0 : w4.cell? ⟨w.heap.size + 1, 0, none⟩ = some (.int .i64 0) := (X1.cell 0).trans rfl; have X1k1 : w4.cell? ⟨w.heap.size + 1, 1, none⟩ = some (.int .i64 0) := (X1.cell 1).trans rfl; have X1k2 : w4.cell? ⟨w.heap.size + 1, 2, none⟩ = some (.int .i64 0) := (X1.cell 2).trans rfl
        have X1f0 := X1.frozen 0; have X1f1 := X1.frozen 1; have X1f2 := X1.frozen 2
        go_wp2
        (refine bodyPost_ret (v := .tuple #[v3, .agg #[.int .i64 2, .int .i64 (k : Int), .int .i64 (cl : Int)]]) ?_ rfl ?_); (focus (simp [results, Try.results57, go_sem, *]; done)); rewrite [HEq.out]
        exact PostM.mk rfl rfl rfl HWl.out hown3 X1 (by omega) (by omega) X7 hgb
      · rw [if_neg h5k] at HFS
        obtain ⟨hg1, hg2⟩ := goN_range hxg hd1 hd2
        rewrite [show goB kd st d = true by unfold goB; rw [hxg, decide_eq_true ⟨hd1, hd2, h5k⟩]; rfl, show selI true (goN kd st d) = goN kd st d from rfl]
        generalize goN kd st d = gs at *
        have m3 : IntKind.i64.wrap ((cl : Int) + gs) = (cl : Int) + gs := IntWalk.i64_in _ (by omega)
        have m4 : IntKind.i64.wrap (-gs) = -gs := IntWalk.i64_in _ (by omega)
        have X0k0 : w4.cell? ⟨w.heap.size, 0, none⟩ = some (.int .i64 (r : Int)) := (X0.cell 0).trans rfl; have X0k1 : w4.cell? ⟨w.heap.size, 1, none⟩ = some (.int .i64 (c : Int)) := (X0.cell 1).trans rfl; have X0k2 : w4.cell? ⟨w.heap.size, 2, none⟩ = some (.slice (some ⟨g5, 0, none⟩) l.length cap) := (X0.cell 2).trans rfl
        go_wp2_with fail
        refine (HTB.out _ X7).mono ?_; rintro e w7 ⟨rfl, X7', gb⟩
        clear X0k0 X0k1 X0k2
        have n5 : ∀ {g : Nat}, g ≠ g5 → some g ≠ some g5 := fun h e => h (by injection e)
        have hne3 := row_apart hown3 X7 (by decide)
        replace X0 := X0.grown gb (n5 (by omega))
        replace X1 := X1.grown gb (n5 (by omega))
        replace hown3 := World.ownsRow.kept hown3 gb (.inr (fun e => hne3 e.symm))
        replace hgb := gb_same hgb gb
        replace hs := hgb.size
        replace X7 := X7'
        clear gb X7' HTB n5 hne3
        by_cases hin2 : 0 ≤ (cl : Int) + gs ∧ (cl : Int) + gs < (c : Int)
        · have HF := HFS.out
          rw [if_pos hin2] at HF
          have HB := Lib.hid (decide_eq_true hin2)
          have HNx := Lib.hid (show ((cl : Int) + gs) = ((((cl : Int) + gs).toNat : Nat) : Int) by omega)
          have HF' := Lib.hid (show flG nm r c (r - (k + 1)) (k + 1) (passL nm lk ix) ((cl : Int) + gs).toNat (-gs) (wy ++ [[k, cl]]) = F by rw [show r - (k + 1) = r - k - 1 by omega]; exact HF)
          clear HFS HF
          have X0k0 : w7.cell? ⟨w.heap.size, 0, none⟩ = some (.int .i64 (r : Int)) := (X0.cell 0).trans rfl; have X0k1 : w7.cell? ⟨w.heap.size, 1, none⟩ = some (.int .i64 (c : Int)) := (X0.cell 1).trans rfl; have X0k2 : w7.cell? ⟨w.heap.size, 2, none⟩ = some (.slice (some ⟨g5, 0, none⟩) l.length cap) := (X0.cell 2).trans rfl
          go_wp2_with fail
          refine (impl_hasColumn _ _ _ _ _ _ _).mono ?_; rintro e w8 ⟨rfl, b8⟩
          rewrite [HB.out]
          clear X0k0 X0k1 X0k2
          replace X0 := X0.below b8 X0.lt
          replace X1 := X1.below b8 X1.lt
          replace X7 := X7.below b8 X7.lt
          replace hgb := gb_below hgb b8
          replace hown3 := row_keep hown3 b8
          clear b8
          go_wp2
          go_roundw
          case rel => exact ⟨k + 1, ((cl : Int) + gs).toNat, -gs, passL nm lk ix, wy ++ [[k, cl]], by go_num, by rw [← HNx.out], rfl, by omega, by omega, by omega, by omega, HPl.out, HPg.out, HWl.out, HPn.out, HF'.out, X0, X1, X7, by rw [HWl.out]; exact hown3, hgb⟩
          case measure => simp [intOf]; omega
        · have HF := HFS.out
          rw [if_neg hin2] at HF
          have HEq := Lib.hid (HFq.out.trans HF.symm)
          have HB := Lib.hid (decide_eq_false hin2)
          clear HF HFS hin2
          have X0k0 : w7.cell? ⟨w.heap.size, 0, none⟩ = some (.int .i64 (r : Int)) := (X0.cell 0).trans rfl; have X0k1 : w7.cell? ⟨w.heap.size, 1, none⟩ = some (.int .i64 (c : Int)) := (X0.cell 1).trans rfl; have X0k2 : w7.cell? ⟨w.heap.size, 2, none⟩ = some (.slice (some ⟨g5, 0, none⟩) l.length cap) := (X0.cell 2).trans rfl
          go_wp2_with fail
          refine (impl_hasColumn _ _ _ _ _ _ _).mono ?_; rintro e w8 ⟨rfl, b8⟩
          rewrite [HB.out]
          clear X0k0 X0k1 X0k2
          replace X1 := X1.below b8 X1.lt
          replace X7 := X7.below b8 X7.lt
          replace hgb := gb_below hgb b8
          replace hown3 := row_keep hown3 b8
          clear b8
          have X1k0 : w8.cell? ⟨w.heap.size + 1, 0, none⟩ = some (.int .i64 0) := (X1.cell 0).trans rfl; have X1k1 : w8.cell? ⟨w.heap.size + 1, 1, none⟩ = some (.int .i64 0) := (X1.cell 1).trans rfl; have X1k2 : w8.cell? ⟨w.heap.size + 1, 2, none⟩ = some (.int .i64 0) := (X1.cell 2).trans rfl
          have X1f0 := X1.frozen 0; have X1f1 := X1.frozen 1; have X1f2 := X1.frozen 2
          go_wp2
          (refine bodyPost_ret (v := .tuple #[v3, .agg #[.int .i64 3, .int .i64 (k : Int), .int .i64 ((cl : Int) + gs)]]) ?_ rfl ?_); (focus (simp [results, Try.results57, go_sem, *]; done)); rewrite [HEq.out]
          exact PostM.mk rfl rfl rfl HWl.out hown3 X1 (by omega) (by omega) X7 hgb
    · obtain rfl : k = r := by omega
      have HEq : Hid (flG nm k c k 0 l col 0 [] = ⟨1, k, cl, lk, wy⟩) := Lib.hid (HFq.out.trans (by rw [← hF, Nat.sub_self]; rfl))
      clear hF HFq
      rw [hwy] at hown
      have X0k0 : wr.cell? ⟨w.heap.size, 0, none⟩ = some (.int .i64 (k : Int)) := (X0.cell 0).trans rfl; have X0k1 : wr.cell? ⟨w.heap.size, 1, none⟩ = some (.int .i64 (c : Int)) := (X0.cell 1).trans rfl; have X0k2 : wr.cell? ⟨w.heap.size, 2, none⟩ = some (.slice (some ⟨g5, 0, none⟩) l.length cap) := (X0.cell 2).trans rfl
      have X1k0 : wr.cell? ⟨w.heap.size + 1, 0, none⟩ = some (.int .i64 0) := (X1.cell 0).trans rfl; have X1k1 : wr.cell? ⟨w.heap.size + 1, 1, none⟩ = some (.int .i64 0) := (X1.cell 1).trans rfl; have X1k2 : wr.cell? ⟨w.heap.size + 1, 2, none⟩ = some (.int .i64 0) := (X1.cell 2).trans rfl
      have X1f0 := X1.frozen 0; have X1f1 := X1.frozen 1; have X1f2 := X1.frozen 2
      have z0 := X0.lt
      have z1 := X1.lt
      go_upto_region 17 with (fail)
      go_region
      go_wp2
      (refine bodyPost_ret (v := .tuple #[u6, .agg #[.int .i64 1, .int .i64 (k : Int), .int .i64 (cl : Int)]]) ?_ rfl ?_); (focus (simp [results, Try.results57, go_sem, *]; done)); rewrite [HEq.out]
      exact (PostM.mk rfl rfl rfl hwy hown X1 (by omega) (by omega) X7 hgb).drew
end Go.Proofs.Ytoflhjekldlaiaa
