/- Contracts of the program and of the model, walked, part 7 of 10. No condition but what each says. -/
import Derived.Test.YtlnekfbhpfhcpaaGreatM5
import Derived.Test.YtlnekfbhpfhcpaaGreatM6
import Derived.Test.YtlnekfbhpfhcpaaGreatM1
import Derived.Test.YtlnekfbhpfhcpaaGreatM3
import Derived.Deep.RegionHeld3
import Derived.Deep.DeepCutAuto
import Derived.StillTailTactics
import Derived.Test.YtlnekfbhpfhcpaaGreatM2
import Derived.Deep.RegionLaw
import Derived.Deep.AppendLies
import Derived.Laws.CopyOwn
import Derived.Test.YtlnekfbhpfhcpaaGreatM4
namespace Go.Proofs.YtlnekfbhpfhcpaaGreat
open Go.ChangeShapes Go.WideShapes Go.ChangeAt Go.RowKit Go.Joins Go.Deep
set_option linter.unusedSimpArgs false
set_option linter.unusedVariables false
set_option maxRecDepth 100000
set_option maxHeartbeats 4000000
theorem flG_wayGe (nm : List Int) (r c : Nat) : ∀ (n row : Nat) (l : List (Int × Int)) (col : Nat) (side : Int) (way : List (List Nat)), way.length ≤ (flG nm r c n row l col side way).way.length
  | 0, _, _, _, _, _ => Nat.le_refl _
  | n + 1, row, l, col, side, way => by
    rw [flG_step nm r c n row l col side way _ _ rfl rfl]
    split
    · rw [List.length_append]; omega
    · split
      · have := flG_wayGe nm r c n (row + 1) (passL nm l (row * c + col)) ((col : Int) + goN (l.getD (row * c + col) (0, 0)).1 (l.getD (row * c + col) (0, 0)).2 side).toNat (-goN (l.getD (row * c + col) (0, 0)).1 (l.getD (row * c + col) (0, 0)).2 side) (way ++ [[row, col]])
        rw [List.length_append] at this
        omega
      · rw [List.length_append]; omega
theorem flG_wayPos (nm : List Int) (r c n row : Nat) (l : List (Int × Int)) (col : Nat) (side : Int) : 0 < (flG nm r c (n + 1) row l col side []).way.length := by
  rw [flG_step nm r c n row l col side [] _ _ rfl rfl]
  split
  · simp
  · split
    · have := flG_wayGe nm r c n (row + 1) (passL nm l (row * c + col)) ((col : Int) + goN (l.getD (row * c + col) (0, 0)).1 (l.getD (row * c + col) (0, 0)).2 side).toNat (-goN (l.getD (row * c + col) (0, 0)).1 (l.getD (row * c + col) (0, 0)).2 side) ([] ++ [[row, col]])
      simp at this ⊢
      omega
    · simp
theorem marO_wayPos {r c : Nat} {l : List (Int × Int)} {k : Int} (hr : 1 ≤ r) : 0 < (marO (r : Int) (c : Int) l k).way.length := by
  obtain ⟨n, rfl⟩ : ∃ n, r = n + 1 := ⟨r - 1, by omega⟩
  exact flG_wayPos _ (n + 1) c n 0 l _ _
theorem wayN_len (c : Nat) (wy : List (List Nat)) : (wayN c wy).length = wy.length := by simp [wayN]
theorem metN_len {r c : Nat} {l : List (Int × Int)} : ∀ k, (metN (r : Int) (c : Int) l k).length ≤ k * r
  | 0 => by simp [metN]
  | k + 1 => by
    have ih := metN_len (r := r) (c := c) (l := l) k
    have h := flG_wayLen (numL c l) r c r 0 l (k : Int).toNat 0 []
    rw [metN, List.length_append, wayN_len, Nat.succ_mul]
    have h2 : (marO (r : Int) (c : Int) l (k : Int)).way.length ≤ r := by
      show (flG (numL c l) r c r 0 l k 0 []).way.length ≤ r
      simpa using h
    omega
open Go.Sort in
theorem sort_rowI {w : World} {base g cap : Nat} {q : List Int} (hrow : IRow w base (.slice (some ⟨g, 0, none⟩) q.length cap) q) (hq : q.length ≤ 1048576) :
    Calls Tryz.prog 43 #[.slice (some ⟨g, 0, none⟩) q.length cap] w fun e w' => e = .returned (.tuple #[]) ∧ IRow w' base (.slice (some ⟨g, 0, none⟩) q.length cap) (q.mergeSort fun x y => decide (x ≤ y)) ∧ w.grownBy w' (some g) := by
  rcases hrow.2 with ⟨h0, _⟩ | ⟨g', cap', cur, e, hbase, hb, h1, h2, h3, h4⟩
  · cases h0
  cases e
  have hH : Sort.Holds (Value.int .i64) w g 0 q.toArray := holds_of_blockI hb (by rw [Nat.mul_one] at h4; exact h4)
  have hc := Tryz.slices_Sort_int g 0 cap q w hH (Array.getElem?_eq_some_iff.1 hb).1 (by omega)
  refine hc.mono ?_
  rintro e w' ⟨rfl, nn, os, rfl⟩
  refine ⟨rfl, ?_, grownBy_sortedI _⟩
  have h := ownsRow_sortedI (n := nn) (os := os) (ts := q.mergeSort fun x y => decide (x ≤ y)) (ss := q) (by rw [List.length_mergeSort]) hbase hb h1 h2 h3
  unfold IRow
  rw [List.length_mergeSort]
  exact h
open Go.Sort in
theorem compact_rowI {w : World} {base g cap : Nat} {q : List Int} (hrow : IRow w base (.slice (some ⟨g, 0, none⟩) q.length cap) q) (hq : q.length ≤ 1048576) :
    Calls Tryz.prog 44 #[.slice (some ⟨g, 0, none⟩) q.length cap] w fun e w' => e = .returned (.slice (some ⟨g, 0, none⟩) (Lib.compact q).length cap) ∧ Own w' (some ⟨g, 0, none⟩) 3 (ints (Lib.compact q)) ∧ base ≤ g ∧ w.grownBy w' (some g) := by
  rcases hrow.2 with ⟨h0, _⟩ | ⟨g', cap', cur, e, hbase, hb, h1, h2, h3, h4⟩
  · cases h0
  cases e
  have hle := Lib.compact_length_le q
  have hH : Sort.Holds (Value.int .i64) w g 0 q.toArray := holds_of_blockI hb (by rw [Nat.mul_one] at h4; exact h4)
  refine (Tryz.slices_Compact_int g 0 cap q w hH (by omega) h1).mono ?_
  rintro e w' ⟨rfl, nn, rfl⟩
  have h := ownsRow_sortedI (n := nn) (os := #[]) (ts := Lib.compact q ++ List.replicate (q.length - (Lib.compact q).length) 0) (ss := q) (by rw [List.length_append, List.length_replicate]; omega) hbase hb h1 h2 h3
  have hgb := grownBy_sortedI (w := w) (g := g) (n := nn) (os := #[]) (Lib.compact q ++ List.replicate (q.length - (Lib.compact q).length) 0).toArray
  rw [grow_empty] at h hgb
  refine ⟨rfl, fun hx => ?_, hbase, hgb⟩
  obtain ⟨g2, rest, e2, hw⟩ := (own_of_row h).1 (by rw [List.length_map, List.length_append]; rw [ints_length] at hx; omega)
  cases e2
  refine ⟨g, (List.replicate (q.length - (Lib.compact q).length) (0 : Int)).map (Value.int .i64) ++ rest, rfl, ?_⟩
  rw [← List.append_assoc]
  rw [List.map_append] at hw
  exact hw
theorem impl_MetCells_good (r c b o cap : Nat) (l : List (Int × Int)) (w : World) (hg : goodB (r : Int) (c : Int) l = true) (hn : l.length ≤ 1048576) (hr : Rd w w.heap.size (some ⟨b, o, none⟩) (flat l)) :
    Calls Tryz.prog 12 #[.agg #[.int .i64 (r : Int), .int .i64 (c : Int), .slice (some ⟨b, o, none⟩) l.length cap]] w (PostL w (nI (sortN l.length (metN (r : Int) (c : Int) l c))) true) := by
  have HG := Lib.hid hg
  obtain ⟨r', c', er, ec, hGe⟩ := geo_of hg
  obtain rfl : r = r' := by omega
  obtain rfl : c = c' := by omega
  obtain ⟨_, h90, hpos⟩ := goodB_parts hg
  obtain ⟨s1, s2, s3, s4⟩ := sizeB_iff.1 (goodB_iff.1 hg).1
  have hlrc := Lib.hid hGe.cells
  obtain ⟨i0, hi, hz0, hz1, hz2⟩ := info_parts intInfo
  have HSC := Lib.hid (sorted_compact (n := l.length) (q := metN (r : Int) (c : Int) l c) (by rw [hlrc.out]; exact metN_lt c (Nat.le_refl _)))
  clear er ec hGe
  go_enter Tryz.func12, Tryz.ntmps12
  obtain ⟨v0, hv0⟩ : ∃ v, v = w.alloc (.cells #[.int .i64 (r : Int), .int .i64 (c : Int), .slice (some ⟨b, o, none⟩) l.length cap] 25) := ⟨_, rfl⟩; have X0 : Whole v0 w.heap.size 25 [.int .i64 (r : Int), .int .i64 (c : Int), .slice (some ⟨b, o, none⟩) l.length cap] := (by rw [hv0]; exact heap_alloc_new w _); have hb : Below w.heap.size w v0 := (by rw [hv0]; exact (Below.refl _ _).alloc (Nat.le_refl _) _); have HV := Lib.hid hv0.symm; clear hv0; go_upto_region 1 with (fail); rewrite [HV.out]; clear HV; have X0k0 : v0.cell? ⟨w.heap.size, 0, none⟩ = some (.int .i64 (r : Int)) := (X0.cell 0).trans rfl; have X0k1 : v0.cell? ⟨w.heap.size, 1, none⟩ = some (.int .i64 (c : Int)) := (X0.cell 1).trans rfl; have X0k2 : v0.cell? ⟨w.heap.size, 2, none⟩ = some (.slice (some ⟨b, o, none⟩) l.length cap) := (X0.cell 2).trans rfl
  go_wp2_with fail
  refine (impl_IsBoard _ _ _ _ l _ hn ((hr.below hb).mono hb.size)).mono ?_; rintro e w1 ⟨rfl, b1⟩
  rewrite [HG.out]
  (clear X0k0 X0k1 X0k2; replace X0 := X0.below b1 X0.lt; replace hb := hb.trans (b1.mono hb.size); clear b1; have X0k0 : w1.cell? ⟨w.heap.size, 0, none⟩ = some (.int .i64 (r : Int)) := (X0.cell 0).trans rfl; have X0k1 : w1.cell? ⟨w.heap.size, 1, none⟩ = some (.int .i64 (c : Int)) := (X0.cell 1).trans rfl; have X0k2 : w1.cell? ⟨w.heap.size, 2, none⟩ = some (.slice (some ⟨b, o, none⟩) l.length cap) := (X0.cell 2).trans rfl)
  go_wp2
  clear X0k0 X0k1 X0k2
  go_loopw [4, 13] (fun v i wr => ∃ k : Nat, i = .int .i64 k ∧ k ≤ c ∧ IRow wr w.heap.size v (nI (metN (r : Int) (c : Int) l k)) ∧ Whole wr w.heap.size 25 [.int .i64 (r : Int), .int .i64 (c : Int), .slice (some ⟨b, o, none⟩) l.length cap] ∧ Below w.heap.size w wr) (fun _ i _ => c - (intOf i).toNat)
  case atStart => exact ⟨0, rfl, Nat.zero_le _, IRow.nil, X0, hb⟩
  case round =>
    clear X0 hb
    obtain ⟨k, rfl, hk, hM, X0, hb⟩ := hrel
    have hs := hb.size
    have hml := metN_len (r := r) (c := c) (l := l) k
    have hkr : k * r ≤ 90 := by
      have := Nat.mul_le_mul (show k ≤ 9 by omega) (show r ≤ 10 by omega)
      omega
    by_cases hlt : k < c
    · have HMt := Lib.hid (show metN (r : Int) (c : Int) l (k + 1) = metN (r : Int) (c : Int) l k ++ wayN c (marO (r : Int) (c : Int) l (k : Int)).way from rfl)
      have hwp := marO_wayPos (r := r) (c := c) (l := l) (k := (k : Int)) (by omega)
      have hwl : (marO (r : Int) (c : Int) l (k : Int)).way.length ≤ r := by
        have h := flG_wayLen (numL c l) r c r 0 l (k : Int).toNat 0 []
        show (flG (numL c l) r c r 0 l k 0 []).way.length ≤ r
        simpa using h
      have X0k0 : wr.cell? ⟨w.heap.size, 0, none⟩ = some (.int .i64 (r : Int)) := (X0.cell 0).trans rfl; have X0k1 : wr.cell? ⟨w.heap.size, 1, none⟩ = some (.int .i64 (c : Int)) := (X0.cell 1).trans rfl; have X0k2 : wr.cell? ⟨w.heap.size, 2, none⟩ = some (.slice (some ⟨b, o, none⟩) l.length cap) := (X0.cell 2).trans rfl
      go_wp2_with fail
      refine (impl_fallAlone r c b o cap l k _ hg ((hr.below hb).mono hs) hlt).mono ?_; rintro e w2 ⟨A5, c5, rfl, O5, N5, b2⟩
      clear X0k0 X0k1 X0k2
      rw [wayI_nI] at O5
      clear N5
      generalize marO (r : Int) (c : Int) l (k : Int) = F at *
      generalize metN (r : Int) (c : Int) l k = Q at *
      obtain ⟨g5, rest5, rfl, X5⟩ := O5 (by rw [ints_length, nI_length, wayN_len]; exact hwp)
      replace hM := hM.keep b2
      replace X0 := X0.below b2 X0.lt
      replace hb := hb.trans (b2.mono hs)
      replace hs := hb.size
      clear b2 O5
      have X5a := X5.alloc (.cells #[.int .i64 F.e, .int .i64 F.row, .int .i64 F.col] 50)
      go_wp2_with (first
        | (at_builtin; refine wpList_append_rd rfl (.tmp 22) (.tmp 23) 26 rfl w.heap.size 3 i0 _ 1 8 Tryz.underlying26 hi hz0 hz1 hz2 rfl (by omega) _ (nI Q).length (ints (nI Q)) rfl (World.ownsRow.alloc hM _) (some ⟨g5, 0, none⟩) F.way.length c5 (w2.heap.size + 1) (ints (nI (wayN c F.way))) rfl (by rw [ints_length, nI_length, wayN_len]; omega) (fun h => absurd h (by simp)) (by have h := Whole.rdA X5a; rw [World.size_alloc] at h; exact h) one_nI (by rw [nI_length]; unfold maxLen; omega) (by rw [nI_length]; omega) (by rw [World.size_alloc]; omega) ?_; intro v3 w3 hown3 hg3)
        | fail)
      have hMa := hM.alloc (.cells #[.int .i64 F.e, .int .i64 F.row, .int .i64 F.col] 50)
      have hb3 : Below w.heap.size w w3 := row_below hMa (hb.alloc (by omega) _) (by rw [World.size_alloc]; omega) hg3
      have X03 := (X0.alloc (.cells #[.int .i64 F.e, .int .i64 F.row, .int .i64 F.col] 50)).grown hg3 (row_apart hMa (X0.alloc (.cells #[.int .i64 F.e, .int .i64 F.row, .int .i64 F.col] 50)) (by decide))
      go_roundw
      case rel => exact ⟨k + 1, by go_num, by omega, row_to hown3 (by rw [HMt.out, nI_length, nI_length, List.length_append, wayN_len]) (by rw [HMt.out]; simp [nI, ints]), X03, hb3⟩
      case measure => simp [intOf]; omega
    · obtain rfl : k = c := by omega
      have hmp : 0 < (metN (r : Int) (k : Int) l k).length := by
        obtain ⟨n, hn1⟩ : ∃ n, k = n + 1 := ⟨k - 1, by omega⟩
        have hwp := marO_wayPos (r := r) (c := k) (l := l) (k := (n : Int)) (by omega)
        have e : metN (r : Int) (k : Int) l k = metN (r : Int) (k : Int) l n ++ wayN (k : Int).toNat (marO (r : Int) (k : Int) l (n : Int)).way := by
          conv => lhs; rw [hn1]
          rw [metN, ← hn1]
        rw [e, List.length_append, wayN_len]
        omega
      generalize hQ : metN (r : Int) (k : Int) l k = Q at *
      have HQ := Lib.hid hQ
      clear hQ
      obtain ⟨g, cp, rfl, hbg⟩ := hM.form (by rw [nI_length]; exact hmp)
      have hql : (nI Q).length ≤ 1048576 := by rw [nI_length]; omega
      have X0k0 : wr.cell? ⟨w.heap.size, 0, none⟩ = some (.int .i64 (r : Int)) := (X0.cell 0).trans rfl; have X0k1 : wr.cell? ⟨w.heap.size, 1, none⟩ = some (.int .i64 (k : Int)) := (X0.cell 1).trans rfl; have X0k2 : wr.cell? ⟨w.heap.size, 2, none⟩ = some (.slice (some ⟨b, o, none⟩) l.length cap) := (X0.cell 2).trans rfl
      clear hlt
      go_wp2_with fail
      refine (sort_rowI hM hql).mono ?_; rintro e w3 ⟨rfl, hM3, gb3⟩
      have hb3 : Below w.heap.size w w3 := hb.grown gb3 hs (fun k e => by cases e; exact hbg)
      have hl3 : (nI Q).length = ((nI Q).mergeSort fun x y => decide (x ≤ y)).length := by rw [List.length_mergeSort]
      rewrite [hl3]
      rw [hl3] at hM3 hql
      clear hM hl3 X0k0 X0k1 X0k2 X0
      generalize hSt : (nI Q).mergeSort (fun x y => decide (x ≤ y)) = St at *
      have HSt := Lib.hid hSt
      clear hSt
      go_wp2_with fail
      refine (compact_rowI hM3 hql).mono ?_; rintro e w4 ⟨rfl, ho4, _, gb4⟩
      have hb4 : Below w.heap.size w w4 := hb3.grown gb4 hb3.size (fun k e => by cases e; exact hbg)
      rw [show Lib.compact St = nI (sortN l.length Q) from HSC.out] at ho4
      rewrite [show Lib.compact St = nI (sortN l.length Q) from HSC.out]
      clear hM3 gb3 gb4 hb3
      go_wp2
      go_returns
      exact PostL.mk ho4 (fun a ha => by cases ha; exact hbg) hb4
theorem spec_MetCells (R C : Int) (A : Option Addr) (cap : Nat) (l : List (Int × Int)) (w : World) (hn : l.length ≤ 1048576) (hr : Rd w w.heap.size A (flat l)) :
    Calls Tryz.prog 13 #[.agg #[.int .i64 R, .int .i64 C, .slice A l.length cap]] w (PostL w (metL R C l) (goodB R C l)) := by
  unfold metL
  rcases Bool.eq_false_or_eq_true (goodB R C l) with hg | hg
  · obtain ⟨_, _, hpos⟩ := goodB_parts hg
    obtain ⟨b, o, rfl, hbl, hc⟩ := hr (by rw [flat_length]; omega)
    have hr' : Rd w w.heap.size (some ⟨b, o, none⟩) (flat l) := fun _ => ⟨b, o, rfl, hbl, hc⟩
    obtain ⟨r, c, rfl, rfl, hG⟩ := geo_of hg
    rw [hg, if_pos rfl, Int.toNat_natCast]
    exact spec_MetCells_good r c b o cap l w hg hn hr'
  · have HG := Lib.hid hg
    rw [hg]
    clear hg
    go_enter Tryz.func13, Tryz.ntmps13
    obtain ⟨v0, hv0⟩ : ∃ v, v = w.alloc (.cells #[.int .i64 R, .int .i64 C, .slice A l.length cap] 25) := ⟨_, rfl⟩; have X0 : Whole v0 w.heap.size 25 [.int .i64 R, .int .i64 C, .slice A l.length cap] := (by rw [hv0]; exact heap_alloc_new w _); have hb : Below w.heap.size w v0 := (by rw [hv0]; exact (Below.refl _ _).alloc (Nat.le_refl _) _); have HV := Lib.hid hv0.symm; clear hv0; go_upto_region 1 with (fail); rewrite [HV.out]; clear HV; have X0k0 : v0.cell? ⟨w.heap.size, 0, none⟩ = some (.int .i64 R) := (X0.cell 0).trans rfl; have X0k1 : v0.cell? ⟨w.heap.size, 1, none⟩ = some (.int .i64 C) := (X0.cell 1).trans rfl; have X0k2 : v0.cell? ⟨w.heap.size, 2, none⟩ = some (.slice A l.length cap) := (X0.cell 2).trans rfl
    go_wp2_with fail
    refine (spec_boGood _ _ _ _ l _ hn ((hr.below hb).mono hb.size)).mono ?_; rintro e w1 ⟨rfl, b1⟩
    rewrite [HG.out]
    (clear X0k0 X0k1 X0k2; replace X0 := X0.below b1 X0.lt; replace hb := hb.trans (b1.mono hb.size); clear b1; have X0k0 : w1.cell? ⟨w.heap.size, 0, none⟩ = some (.int .i64 R) := (X0.cell 0).trans rfl; have X0k1 : w1.cell? ⟨w.heap.size, 1, none⟩ = some (.int .i64 C) := (X0.cell 1).trans rfl; have X0k2 : w1.cell? ⟨w.heap.size, 2, none⟩ = some (.slice A l.length cap) := (X0.cell 2).trans rfl)
    go_wp2
    go_returns
    exact PostL.none_ (by (repeat' (first | (with_reducible exact Below.refl _ _) | (with_reducible assumption) | (with_reducible refine Below.alloc ?_ ?_ _) | (with_reducible refine Below.setCell ?_ ?_ _) | (with_reducible refine Below.drew ?_) | (with_reducible refine below_drewN ?_ _) | (with_reducible refine Below.trans ?_ (Below.mono (by assumption) ?_)) | (with_reducible exact Nat.le_refl _) | (simp; done) | omega | (simp at *; omega))))
theorem impl_MetCells (R C : Int) (A : Option Addr) (cap : Nat) (l : List (Int × Int)) (w : World) (hn : l.length ≤ 1048576) (hr : Rd w w.heap.size A (flat l)) :
    Calls Tryz.prog 12 #[.agg #[.int .i64 R, .int .i64 C, .slice A l.length cap]] w (PostL w (metL R C l) (goodB R C l)) := by
  unfold metL
  rcases Bool.eq_false_or_eq_true (goodB R C l) with hg | hg
  · obtain ⟨_, _, hpos⟩ := goodB_parts hg
    obtain ⟨b, o, rfl, hbl, hc⟩ := hr (by rw [flat_length]; omega)
    have hr' : Rd w w.heap.size (some ⟨b, o, none⟩) (flat l) := fun _ => ⟨b, o, rfl, hbl, hc⟩
    obtain ⟨r, c, rfl, rfl, hG⟩ := geo_of hg
    rw [hg, if_pos rfl, Int.toNat_natCast]
    exact impl_MetCells_good r c b o cap l w hg hn hr'
  · have HG := Lib.hid hg
    rw [hg]
    clear hg
    go_enter Tryz.func12, Tryz.ntmps12
    obtain ⟨v0, hv0⟩ : ∃ v, v = w.alloc (.cells #[.int .i64 R, .int .i64 C, .slice A l.length cap] 25) := ⟨_, rfl⟩; have X0 : Whole v0 w.heap.size 25 [.int .i64 R, .int .i64 C, .slice A l.length cap] := (by rw [hv0]; exact heap_alloc_new w _); have hb : Below w.heap.size w v0 := (by rw [hv0]; exact (Below.refl _ _).alloc (Nat.le_refl _) _); have HV := Lib.hid hv0.symm; clear hv0; go_upto_region 1 with (fail); rewrite [HV.out]; clear HV; have X0k0 : v0.cell? ⟨w.heap.size, 0, none⟩ = some (.int .i64 R) := (X0.cell 0).trans rfl; have X0k1 : v0.cell? ⟨w.heap.size, 1, none⟩ = some (.int .i64 C) := (X0.cell 1).trans rfl; have X0k2 : v0.cell? ⟨w.heap.size, 2, none⟩ = some (.slice A l.length cap) := (X0.cell 2).trans rfl
    go_wp2_with fail
    refine (impl_IsBoard _ _ _ _ l _ hn ((hr.below hb).mono hb.size)).mono ?_; rintro e w1 ⟨rfl, b1⟩
    rewrite [HG.out]
    (clear X0k0 X0k1 X0k2; replace X0 := X0.below b1 X0.lt; replace hb := hb.trans (b1.mono hb.size); clear b1; have X0k0 : w1.cell? ⟨w.heap.size, 0, none⟩ = some (.int .i64 R) := (X0.cell 0).trans rfl; have X0k1 : w1.cell? ⟨w.heap.size, 1, none⟩ = some (.int .i64 C) := (X0.cell 1).trans rfl; have X0k2 : w1.cell? ⟨w.heap.size, 2, none⟩ = some (.slice A l.length cap) := (X0.cell 2).trans rfl)
    go_wp2
    go_returns
    exact PostL.none_ (by (repeat' (first | (with_reducible exact Below.refl _ _) | (with_reducible assumption) | (with_reducible refine Below.alloc ?_ ?_ _) | (with_reducible refine Below.setCell ?_ ?_ _) | (with_reducible refine Below.drew ?_) | (with_reducible refine below_drewN ?_ _) | (with_reducible refine Below.trans ?_ (Below.mono (by assumption) ?_)) | (with_reducible exact Nat.le_refl _) | (simp; done) | omega | (simp at *; omega))))
end Go.Proofs.YtlnekfbhpfhcpaaGreat
namespace Go.Proofs.YtlnekfbhpfhcpaaGreat
open Go.ChangeShapes Go.WideShapes Go.ChangeAt Go.RowKit Go.Joins Go.Deep
set_option linter.unusedSimpArgs false
set_option linter.unusedVariables false
set_option maxRecDepth 100000
set_option maxHeartbeats 1000000
theorem heldCell : Tryz.prog.stoodInHeld 86 = false := by kernel_rfl
theorem guardCell : Tryz.prog.eqGuardType Tryz.prog.depth 86 = false := by kernel_rfl
def diffTo (l m : List (Int × Int)) : Nat → List Int
  | 0 => []
  | k + 1 => if l.getD k (0, 0) = m.getD k (0, 0) then diffTo l m k else diffTo l m k ++ [(k : Int)]
theorem diffTo_le (l m : List (Int × Int)) (k : Nat) : (diffTo l m k).length ≤ k := by
  induction k with
  | zero => exact Nat.le_refl 0
  | succ k ih =>
    show (if l.getD k (0, 0) = m.getD k (0, 0) then diffTo l m k else diffTo l m k ++ [(k : Int)]).length ≤ k + 1
    split
    · omega
    · rw [List.length_append, List.length_singleton]; omega
def sameB (R C : Int) (l : List (Int × Int)) (R' C' : Int) (m : List (Int × Int)) : Bool := goodB R C l && goodB R' C' m && decide (R = R' ∧ C = C')
def diffB (R C : Int) (l : List (Int × Int)) (R' C' : Int) (m : List (Int × Int)) : List Int := if sameB R C l R' C' m then diffTo l m l.length else []
theorem diffB_len (R C : Int) (l : List (Int × Int)) (R' C' : Int) (m : List (Int × Int)) (h : l.length ≤ 1048576) : (diffB R C l R' C' m).length ≤ 1048576 := by
  unfold diffB
  have := diffTo_le l m l.length
  split
  · omega
  · simp
theorem getD_at {l : List (Int × Int)} {k : Nat} (h : k < l.length) : l.getD k (0, 0) = l[k] := by rw [List.getD_eq_getElem?_getD, List.getElem?_eq_getElem h]; rfl
theorem diffTo_no {l m : List (Int × Int)} {k : Nat} (h : k < l.length) (h' : k < m.length) (e : l[k].1 = m[k].1 ∧ l[k].2 = m[k].2) : diffTo l m (k + 1) = diffTo l m k := by
  show (if l.getD k (0, 0) = m.getD k (0, 0) then _ else _) = _
  rw [getD_at h, getD_at h', if_pos (Prod.ext e.1 e.2)]
theorem diffTo_yes {l m : List (Int × Int)} {k : Nat} (h : k < l.length) (h' : k < m.length) (e : ¬ (l[k].1 = m[k].1 ∧ l[k].2 = m[k].2)) : ints (diffTo l m (k + 1)) = ints (diffTo l m k) ++ [.int .i64 (k : Int)] ∧ (diffTo l m (k + 1)).length = (diffTo l m k).length + 1 := by
  have h2 : diffTo l m (k + 1) = diffTo l m k ++ [(k : Int)] := by
    show (if l.getD k (0, 0) = m.getD k (0, 0) then _ else _) = _
    rw [getD_at h, getD_at h', if_neg (fun x => e (by rw [x]; exact ⟨rfl, rfl⟩))]
  rw [h2]
  simp [ints]
theorem sameB_iff {R C : Int} {l : List (Int × Int)} {R' C' : Int} {m : List (Int × Int)} : sameB R C l R' C' m = true ↔ goodB R C l = true ∧ goodB R' C' m = true ∧ R = R' ∧ C = C' := by
  unfold sameB
  rw [Bool.and_eq_true, Bool.and_eq_true, decide_eq_true_eq, and_assoc]
theorem good_len {R C : Int} {l m : List (Int × Int)} (h : goodB R C l = true) (h' : goodB R C m = true) : l.length = m.length := by
  have h1 := (goodB_iff.1 h).2.1
  have h2 := (goodB_iff.1 h').2.1
  omega
end Go.Proofs.YtlnekfbhpfhcpaaGreat
namespace Go.Proofs.YtlnekfbhpfhcpaaGreat
open Go.ChangeShapes Go.WideShapes Go.ChangeAt Go.RowKit Go.Joins Go.Deep
set_option linter.unusedSimpArgs false
set_option linter.unusedVariables false
set_option maxRecDepth 100000
set_option maxHeartbeats 4000000
def turnedL (R C : Int) (l : List (Int × Int)) (j : Int) : List Int := if okF R C l j then diffTo l (marO R C l j).cells l.length else []
theorem turnedL_len (R C : Int) (l : List (Int × Int)) (j : Int) (hn : l.length ≤ 1048576) : (turnedL R C l j).length ≤ 1048576 := by
  unfold turnedL
  have := diffTo_le l (marO R C l j).cells l.length
  split
  · omega
  · simp
end Go.Proofs.YtlnekfbhpfhcpaaGreat
namespace Go.Proofs.YtlnekfbhpfhcpaaGreat
open Go.ChangeShapes Go.WideShapes Go.ChangeAt Go.RowKit Go.Joins Go.Deep
set_option linter.unusedSimpArgs false
set_option linter.unusedVariables false
set_option maxRecDepth 100000
set_option maxHeartbeats 4000000
def wayL (R C : Int) (l : List (Int × Int)) (j : Int) : List (List Nat) := if okF R C l j then (marO R C l j).way else []
theorem spec_WayOf (R C : Int) (A : Option Addr) (cap : Nat) (l : List (Int × Int)) (j : Int) (w : World) (hn : l.length ≤ 1048576) (hr0 : Rd w w.heap.size A (flat l)) :
    Calls Tryz.prog 26 #[.agg #[.int .i64 R, .int .i64 C, .slice A l.length cap], .int .i64 j] w fun e w' => ∃ v, e = .returned (.tuple #[v, .bool (okF R C l j)]) ∧ LRow w' w.heap.size v (wayL R C l j) ∧ Below w.heap.size w w' := by
  unfold wayL
  rcases Bool.eq_false_or_eq_true (okF R C l j) with ho | ho
  · have HO := Lib.hid ho
    obtain ⟨hg, h1, h2⟩ := okF_parts ho
    obtain ⟨_, _, hpos⟩ := goodB_parts hg
    obtain ⟨b, o, rfl, hbl, hc⟩ := hr0 (by rw [flat_length]; omega)
    have hr : Rd w w.heap.size (some ⟨b, o, none⟩) (flat l) := fun _ => ⟨b, o, rfl, hbl, hc⟩
    obtain ⟨r, c, rfl, rfl, hG⟩ := geo_of hg
    obtain ⟨col, rfl⟩ : ∃ cl : Nat, j = (cl : Int) := ⟨j.toNat, by omega⟩
    have hcol : col < c := by omega
    have HG := Lib.hid hG
    have HGd := Lib.hid hg
    have HM := Lib.hid (show marO (r : Int) (c : Int) l (col : Int) = flG (numL c l) r c r 0 l col 0 [] from rfl)
    have HNl := Lib.hid (numL_len c l)
    have hb9 : b < w.heap.size := hbl
    rw [ho]
    clear ho hr0 hG hg
    go_enter Tryz.func26, Tryz.ntmps26
    obtain ⟨v0, hv0⟩ : ∃ v, v = w.alloc (.cells #[.int .i64 (r : Int), .int .i64 (c : Int), .slice (some ⟨b, o, none⟩) l.length cap] 25) := ⟨_, rfl⟩; have X0 : Whole v0 w.heap.size 25 [.int .i64 (r : Int), .int .i64 (c : Int), .slice (some ⟨b, o, none⟩) l.length cap] := (by rw [hv0]; exact heap_alloc_new w _); have hb : Below w.heap.size w v0 := (by rw [hv0]; exact (Below.refl _ _).alloc (Nat.le_refl _) _); have HV := Lib.hid hv0.symm; clear hv0; go_upto_region 1 with (fail); rewrite [HV.out]; clear HV; have X0k0 : v0.cell? ⟨w.heap.size, 0, none⟩ = some (.int .i64 (r : Int)) := (X0.cell 0).trans rfl; have X0k1 : v0.cell? ⟨w.heap.size, 1, none⟩ = some (.int .i64 (c : Int)) := (X0.cell 1).trans rfl; have X0k2 : v0.cell? ⟨w.heap.size, 2, none⟩ = some (.slice (some ⟨b, o, none⟩) l.length cap) := (X0.cell 2).trans rfl
    go_wp2_with fail
    refine (spec_flHas _ _ _ _ l _ _ hn ((hr.below hb).mono hb.size)).mono ?_; rintro e w1x ⟨rfl, b1⟩
    rewrite [HO.out]
    (clear X0k0 X0k1 X0k2; replace X0 := X0.below b1 X0.lt; replace hb := hb.trans (b1.mono hb.size); clear b1; have X0k0 : w1x.cell? ⟨w.heap.size, 0, none⟩ = some (.int .i64 (r : Int)) := (X0.cell 0).trans rfl; have X0k1 : w1x.cell? ⟨w.heap.size, 1, none⟩ = some (.int .i64 (c : Int)) := (X0.cell 1).trans rfl; have X0k2 : w1x.cell? ⟨w.heap.size, 2, none⟩ = some (.slice (some ⟨b, o, none⟩) l.length cap) := (X0.cell 2).trans rfl)
    have B0 := hb
    have hy := X0.lt
    go_upto_region 3 with (fail)
    generalize w1x = vv at *
    have KS := Lib.hid (fun (w' : World) (h : Below vv.heap.size vv w') => (⟨(h.cell (p := ⟨w.heap.size, 0, none⟩) hy).trans X0k0, (h.cell (p := ⟨w.heap.size, 1, none⟩) hy).trans X0k1, (h.cell (p := ⟨w.heap.size, 2, none⟩) hy).trans X0k2⟩ : w'.cell? ⟨w.heap.size, 0, none⟩ = some (.int .i64 (r : Int)) ∧ w'.cell? ⟨w.heap.size, 1, none⟩ = some (.int .i64 (c : Int)) ∧ w'.cell? ⟨w.heap.size, 2, none⟩ = some (.slice (some ⟨b, o, none⟩) l.length cap)))
    go_cut [6, 7, 8] (fun z y v wx => ∃ (gf gb : Nat) (A : Option Addr) (c5 : Nat), z = .pointer (some ⟨gf, 0, none⟩) ∧ y = .pointer (some ⟨gb, 0, none⟩) ∧ vv.heap.size ≤ gf ∧ vv.heap.size ≤ gb ∧ Whole wx gf 50 [.int .i64 (flG (numL c l) r c r 0 l col 0 []).e, .int .i64 (flG (numL c l) r c r 0 l col 0 []).row, .int .i64 (flG (numL c l) r c r 0 l col 0 []).col] ∧ Whole wx gb 25 [.int .i64 (r : Int), .int .i64 (c : Int), .slice A l.length c5] ∧ Own wx A 86 (flat (flG (numL c l) r c r 0 l col 0 []).cells) ∧ New vv A ∧ LRow wx vv.heap.size v (flG (numL c l) r c r 0 l col 0 []).way ∧ Below vv.heap.size vv wx)
    case first =>
      (go_region_held3 (fun w' => w'.cell? ⟨w.heap.size, 0, none⟩ = some (.int .i64 (r : Int)) ∧ w'.cell? ⟨w.heap.size, 1, none⟩ = some (.int .i64 (c : Int)) ∧ w'.cell? ⟨w.heap.size, 2, none⟩ = some (.slice (some ⟨b, o, none⟩) l.length cap)) (exact KS.out _ (by (repeat' (first | (with_reducible exact Below.refl _ _) | (with_reducible assumption) | (with_reducible refine Below.alloc ?_ ?_ _) | (with_reducible refine Below.setCell ?_ ?_ _) | (with_reducible refine Below.drew ?_) | (with_reducible refine below_drewN ?_ _) | (with_reducible refine Below.trans ?_ (Below.mono (by assumption) ?_)) | go_size)))) ((first | (go_at_call 46; (with_reducible refine (spec_ggGroups r c (some ⟨b, o, none⟩) cap l _ HG.out ?_).mono ?_); (focus exact (hr.below (B0.trans ((by (repeat' (first | (with_reducible exact Below.refl _ _) | (with_reducible assumption) | (with_reducible refine Below.alloc ?_ ?_ _) | (with_reducible refine Below.setCell ?_ ?_ _) | (with_reducible refine Below.drew ?_) | (with_reducible refine below_drewN ?_ _) | (with_reducible refine Below.trans ?_ (Below.mono (by assumption) ?_)) | go_size)) : Below vv.heap.size vv _).mono B0.size))).mono (Nat.le_trans B0.size (by (repeat' (first | (with_reducible exact Below.refl _ _) | (with_reducible assumption) | (with_reducible refine Below.alloc ?_ ?_ _) | (with_reducible refine Below.setCell ?_ ?_ _) | (with_reducible refine Below.drew ?_) | (with_reducible refine below_drewN ?_ _) | (with_reducible refine Below.trans ?_ (Below.mono (by assumption) ?_)) | go_size)) : Below vv.heap.size vv _).size)); rintro e w1 hP; obtain ⟨A6, c6, rfl, o6, n6, bT⟩ := hP.value; clear hP; obtain ⟨g6, rest6, rfl, X6⟩ := o6 (by rw [ints_length, HNl.out]; exact hpos); clear o6 n6; have sT : vv.heap.size ≤ w1.heap.size := (by (repeat' (first | (with_reducible exact Below.refl _ _) | (with_reducible assumption) | (with_reducible refine Below.alloc ?_ ?_ _) | (with_reducible refine Below.setCell ?_ ?_ _) | (with_reducible refine Below.drew ?_) | (with_reducible refine below_drewN ?_ _) | (with_reducible refine Below.trans ?_ (Below.mono (by assumption) ?_)) | go_size)) : Below vv.heap.size vv w1).size; (first | have zf := newB (t := 50) (xs := [.int .i64 0, .int .i64 0, .int .i64 0]) bT | have zf := newB2 (t := 50) (xs := [.int .i64 0, .int .i64 0, .int .i64 0]) bT | have zf := newD (t := 50) (xs := [.int .i64 0, .int .i64 0, .int .i64 0]) bT | have zf := newD2 (t := 50) (xs := [.int .i64 0, .int .i64 0, .int .i64 0]) bT | skip); (first | have zb := newB (t := 25) (xs := [.int .i64 0, .int .i64 0, .slice none 0 0]) bT | have zb := newB2 (t := 25) (xs := [.int .i64 0, .int .i64 0, .slice none 0 0]) bT | have zb := newD (t := 25) (xs := [.int .i64 0, .int .i64 0, .slice none 0 0]) bT | have zb := newD2 (t := 25) (xs := [.int .i64 0, .int .i64 0, .slice none 0 0]) bT | skip); (try rw [World.size_alloc] at zf); (try rw [World.size_alloc] at zb); (try replace zf : Whole w1 vv.heap.size _ _ := zf); (try replace zb : Whole w1 vv.heap.size _ _ := zb); (try replace zf : Whole w1 (vv.heap.size + 1) _ _ := zf); (try replace zb : Whole w1 (vv.heap.size + 1) _ _ := zb); (first | have hzf1 := zf.lt | skip); (first | have hzb1 := zb.lt | skip); (try have nA1 : vv.heap.size ≠ w1.heap.size := by omega); (try have nA2 : w1.heap.size ≠ vv.heap.size := by omega)) | (go_at_call 47; (with_reducible refine (spec_flGo r c b o cap g6 c6 l (numL c l) rest6 col _ HG.out HGd.out ?_ (numL_len c l) ?_ hcol).mono ?_); (focus exact (hr.below (B0.trans ((by (repeat' (first | (with_reducible exact Below.refl _ _) | (with_reducible assumption) | (with_reducible refine Below.alloc ?_ ?_ _) | (with_reducible refine Below.setCell ?_ ?_ _) | (with_reducible refine Below.drew ?_) | (with_reducible refine below_drewN ?_ _) | (with_reducible refine Below.trans ?_ (Below.mono (by assumption) ?_)) | go_size)) : Below vv.heap.size vv _).mono B0.size))).mono (Nat.le_trans B0.size (by (repeat' (first | (with_reducible exact Below.refl _ _) | (with_reducible assumption) | (with_reducible refine Below.alloc ?_ ?_ _) | (with_reducible refine Below.setCell ?_ ?_ _) | (with_reducible refine Below.drew ?_) | (with_reducible refine below_drewN ?_ _) | (with_reducible refine Below.trans ?_ (Below.mono (by assumption) ?_)) | go_size)) : Below vv.heap.size vv _).size)); (focus exact X6.below (by (repeat' (first | (with_reducible exact Below.refl _ _) | (with_reducible assumption) | (with_reducible refine Below.alloc ?_ ?_ _) | (with_reducible refine Below.setCell ?_ ?_ _) | (with_reducible refine Below.drew ?_) | (with_reducible refine below_drewN ?_ _) | (with_reducible refine Below.trans ?_ (Below.mono (by assumption) ?_)) | go_size)) : Below w1.heap.size w1 _) X6.lt); rintro e w2 ⟨A5, c5, v5, rfl, O5, N5, L5, bF⟩; replace N5 : New vv A5 := N5.mono (by (repeat' (first | (with_reducible exact Below.refl _ _) | (with_reducible assumption) | (with_reducible refine Below.alloc ?_ ?_ _) | (with_reducible refine Below.setCell ?_ ?_ _) | (with_reducible refine Below.drew ?_) | (with_reducible refine below_drewN ?_ _) | (with_reducible refine Below.trans ?_ (Below.mono (by assumption) ?_)) | go_size)) : Below vv.heap.size vv _).size; replace L5 := L5.mono (by (repeat' (first | (with_reducible exact Below.refl _ _) | (with_reducible assumption) | (with_reducible refine Below.alloc ?_ ?_ _) | (with_reducible refine Below.setCell ?_ ?_ _) | (with_reducible refine Below.drew ?_) | (with_reducible refine below_drewN ?_ _) | (with_reducible refine Below.trans ?_ (Below.mono (by assumption) ?_)) | go_size)) : Below vv.heap.size vv _).size; have sF : w1.heap.size ≤ w2.heap.size := (by (repeat' (first | (with_reducible exact Below.refl _ _) | (with_reducible assumption) | (with_reducible refine Below.alloc ?_ ?_ _) | (with_reducible refine Below.setCell ?_ ?_ _) | (with_reducible refine Below.drew ?_) | (with_reducible refine below_drewN ?_ _) | (with_reducible refine Below.trans ?_ (Below.mono (by assumption) ?_)) | go_size)) : Below w1.heap.size w1 w2).size; (first | have zf := oldB zf bF | have zf := oldA zf bF | have zf := newB (t := 50) (xs := [.int .i64 0, .int .i64 0, .int .i64 0]) bF | have zf := newB2 (t := 50) (xs := [.int .i64 0, .int .i64 0, .int .i64 0]) bF | skip); (first | have zb := oldB zb bF | have zb := oldA zb bF | have zb := newB (t := 25) (xs := [.int .i64 0, .int .i64 0, .slice none 0 0]) bF | have zb := newB2 (t := 25) (xs := [.int .i64 0, .int .i64 0, .slice none 0 0]) bF | skip); (try rw [World.size_alloc] at zf); (try rw [World.size_alloc] at zb); (try have nB1 : w1.heap.size ≠ w2.heap.size := by (first | (have h1 := zf.lt; omega) | (have h1 := zb.lt; omega))); (try have nB2 : w2.heap.size ≠ w1.heap.size := by omega); (try have nC1 : vv.heap.size ≠ w2.heap.size := by (first | (have h1 := zf.lt; omega) | (have h1 := zb.lt; omega))); (try have nC2 : w2.heap.size ≠ vv.heap.size := by omega); (first | (have hzf2 := zf.lt; have qf0 := (zf.cell 0).trans rfl; have qf1 := (zf.cell 1).trans rfl; have qf2 := (zf.cell 2).trans rfl; have rf0 := zf.frozen 0; have rf1 := zf.frozen 1; have rf2 := zf.frozen 2) | skip); (first | (have hzb2 := zb.lt; have qb0 := (zb.cell 0).trans rfl; have qb1 := (zb.cell 1).trans rfl; have qb2 := (zb.cell 2).trans rfl; have rb0 := zb.frozen 0; have rb1 := zb.frozen 1; have rb2 := zb.frozen 2) | skip)) | fail)); all_goals (go_wp2_with fail; go_meet); all_goals (refine ⟨_, _, A5, c5, rfl, rfl, ?_, ?_, ?_, ?_, ?_, N5, ?_, by (repeat' (first | (with_reducible exact Below.refl _ _) | (with_reducible assumption) | (with_reducible refine Below.alloc ?_ ?_ _) | (with_reducible refine Below.setCell ?_ ?_ _) | (with_reducible refine Below.drew ?_) | (with_reducible refine below_drewN ?_ _) | (with_reducible refine Below.trans ?_ (Below.mono (by assumption) ?_)) | go_size))⟩); all_goals (repeat' (first | (with_reducible assumption) | (with_reducible exact newW) | (with_reducible exact newW1) | (with_reducible exact newW3) | (with_reducible refine wh_threeF ?_) | (with_reducible refine wh_threeB ?_) | (with_reducible refine three_far ?_ ?_) | (with_reducible refine Whole.alloc ?_ _) | (with_reducible refine own_threeF ?_ ?_) | (with_reducible refine own_threeB ?_ ?_) | (with_reducible refine Own.alloc_ ?_ _) | (with_reducible refine lrow_threeF ?_ ?_) | (with_reducible refine lrow_threeB ?_ ?_) | (with_reducible refine LRow.alloc ?_ _) | (focus omega) | (focus (simp; omega)))))
    case rest =>
      rename World => w3
      obtain ⟨gf, gb, A5, c5, rfl, rfl, hgf, hgb, Xf, Xb, O5, N5, L5, b3⟩ := hcut
      clear KS
      go_wp2
      go_returns
      rewrite [HM.out]
      exact ⟨_, rfl, L5.mono hb.size, hb.trans (b3.mono hb.size)⟩
  · have HO := Lib.hid ho
    rw [ho]
    clear ho
    go_enter Tryz.func26, Tryz.ntmps26
    obtain ⟨v0, hv0⟩ : ∃ v, v = w.alloc (.cells #[.int .i64 R, .int .i64 C, .slice A l.length cap] 25) := ⟨_, rfl⟩; have X0 : Whole v0 w.heap.size 25 [.int .i64 R, .int .i64 C, .slice A l.length cap] := (by rw [hv0]; exact heap_alloc_new w _); have hb : Below w.heap.size w v0 := (by rw [hv0]; exact (Below.refl _ _).alloc (Nat.le_refl _) _); have HV := Lib.hid hv0.symm; clear hv0; go_upto_region 1 with (fail); rewrite [HV.out]; clear HV; have X0k0 : v0.cell? ⟨w.heap.size, 0, none⟩ = some (.int .i64 R) := (X0.cell 0).trans rfl; have X0k1 : v0.cell? ⟨w.heap.size, 1, none⟩ = some (.int .i64 C) := (X0.cell 1).trans rfl; have X0k2 : v0.cell? ⟨w.heap.size, 2, none⟩ = some (.slice A l.length cap) := (X0.cell 2).trans rfl
    go_wp2_with fail
    refine (spec_flHas _ _ _ _ l _ _ hn ((hr0.below hb).mono hb.size)).mono ?_; rintro e w1 ⟨rfl, b1⟩
    rewrite [HO.out]
    (clear X0k0 X0k1 X0k2; replace X0 := X0.below b1 X0.lt; replace hb := hb.trans (b1.mono hb.size); clear b1; have X0k0 : w1.cell? ⟨w.heap.size, 0, none⟩ = some (.int .i64 R) := (X0.cell 0).trans rfl; have X0k1 : w1.cell? ⟨w.heap.size, 1, none⟩ = some (.int .i64 C) := (X0.cell 1).trans rfl; have X0k2 : w1.cell? ⟨w.heap.size, 2, none⟩ = some (.slice A l.length cap) := (X0.cell 2).trans rfl)
    go_wp2
    go_returns
    exact ⟨_, rfl, LRow.nil, by (repeat' (first | (with_reducible exact Below.refl _ _) | (with_reducible assumption) | (with_reducible refine Below.alloc ?_ ?_ _) | (with_reducible refine Below.setCell ?_ ?_ _) | (with_reducible refine Below.drew ?_) | (with_reducible refine below_drewN ?_ _) | (with_reducible refine Below.trans ?_ (Below.mono (by assumption) ?_)) | (with_reducible exact Nat.le_refl _) | (simp; done) | omega | (simp at *; omega)))⟩
end Go.Proofs.YtlnekfbhpfhcpaaGreat
namespace Go.Proofs.YtlnekfbhpfhcpaaGreat
open Go.ChangeShapes Go.WideShapes Go.ChangeAt Go.RowKit Go.Joins Go.Deep
set_option linter.unusedSimpArgs false
set_option linter.unusedVariables false
set_option maxRecDepth 100000
set_option maxHeartbeats 2000000
def seqI : Int → Nat → List Int
  | _, 0 => []
  | k, n + 1 => k :: seqI (k + 1) n
theorem ints_seqI : ∀ (k : Int) (n : Nat), ints (seqI k n) = marks k n
  | _, 0 => rfl
  | k, n + 1 => by
    show .int .i64 k :: ints (seqI (k + 1) n) = marks k (n + 1)
    rw [ints_seqI (k + 1) n]
    rfl
theorem seqI_len : ∀ (k : Int) (n : Nat), (seqI k n).length = n
  | _, 0 => rfl
  | k, n + 1 => by simp [seqI, seqI_len]
def tot : List (List Int) → Nat
  | [] => 0
  | l :: L => l.length + tot L
def seqLL : Int → List (List Int) → List (List Int)
  | _, [] => []
  | k, l :: L => seqI k l.length :: seqLL (k + l.length) L
theorem seqLL_len : ∀ (k : Int) (L : List (List Int)), (seqLL k L).length = L.length
  | _, [] => rfl
  | k, l :: L => by simp [seqLL, seqLL_len]
theorem tot_app : ∀ (a b : List (List Int)), tot (a ++ b) = tot a + tot b
  | [], b => by simp [tot]
  | l :: a, b => by
    show l.length + tot (a ++ b) = l.length + tot a + tot b
    rw [tot_app a b]
    omega
theorem seqLL_app : ∀ (k : Int) (a b : List (List Int)), seqLL k (a ++ b) = seqLL k a ++ seqLL (k + tot a) b
  | k, [], b => by simp [seqLL, tot]
  | k, l :: a, b => by
    show seqI k l.length :: seqLL (k + l.length) (a ++ b) = seqI k l.length :: (seqLL (k + l.length) a ++ seqLL (k + tot (l :: a)) b)
    rw [seqLL_app (k + l.length) a b, show k + (tot (l :: a) : Int) = k + l.length + tot a by show k + ((l.length + tot a : Nat) : Int) = _; omega]
theorem tot_take {L : List (List Int)} {j : Nat} (h : j < L.length) : tot (L.take (j + 1)) = tot (L.take j) + (L.getD j []).length := by
  rw [List.take_succ_eq_append_getElem h, tot_app, List.getD_eq_getElem?_getD, List.getElem?_eq_getElem h]
  rfl
theorem tot_le (L : List (List Int)) (j : Nat) : tot (L.take j) ≤ tot L := by
  have h := tot_app (L.take j) (L.drop j)
  rw [List.take_append_drop] at h
  omega
theorem seqLL_getD {k : Int} {L : List (List Int)} {j : Nat} (h : j < L.length) : (seqLL k L).getD j [] = seqI (k + tot (L.take j)) (L.getD j []).length := by
  have e : L = L.take j ++ (L.getD j [] :: L.drop (j + 1)) := by
    have h2 := List.take_append_drop j L
    rw [List.drop_eq_getElem_cons h] at h2
    rw [List.getD_eq_getElem?_getD, List.getElem?_eq_getElem h]
    exact h2.symm
  have e2 : (seqLL k L).getD j [] = (seqLL k (L.take j ++ (L.getD j [] :: L.drop (j + 1)))).getD j [] := congrArg (fun x => (seqLL k x).getD j []) e
  rw [e2, seqLL_app, List.getD_eq_getElem?_getD, List.getElem?_append_right (by rw [seqLL_len, List.length_take]; omega), seqLL_len, List.length_take, show j - min j L.length = 0 by omega]
  rfl
/-- What a marking run has written behind j rounds. -/
def semi (k : Int) (L : List (List Int)) (j : Nat) : List (List Int) := seqLL k (L.take j) ++ L.drop j
theorem semi_len (k : Int) (L : List (List Int)) (j : Nat) : (semi k L j).length = L.length := by
  unfold semi
  rw [List.length_append, seqLL_len, ← List.length_append, List.take_append_drop]
theorem semi_zero (k : Int) (L : List (List Int)) : semi k L 0 = L := rfl
theorem semi_all (k : Int) (L : List (List Int)) : semi k L L.length = seqLL k L := by
  unfold semi
  rw [List.take_length, List.drop_length, List.append_nil]
theorem semi_getD {k : Int} {L : List (List Int)} {j : Nat} (h : j < L.length) : (semi k L j).getD j [] = L.getD j [] := by
  unfold semi
  rw [List.getD_eq_getElem?_getD, List.getElem?_append_right (by rw [seqLL_len, List.length_take]; omega), seqLL_len, List.length_take, show j - min j L.length = 0 by omega, List.getElem?_drop, Nat.add_zero, List.getD_eq_getElem?_getD]
theorem semi_step {k : Int} {L : List (List Int)} {j : Nat} (h : j < L.length) : (semi k L j).set j (seqI (k + tot (L.take j)) (L.getD j []).length) = semi k L (j + 1) := by
  have hl : (seqLL k (L.take j)).length = j := by rw [seqLL_len, List.length_take]; omega
  unfold semi
  rw [List.set_append_right _ _ (by omega), hl, Nat.sub_self, List.drop_eq_getElem_cons h, List.set_cons_zero, List.take_succ_eq_append_getElem h, seqLL_app, List.append_assoc, List.getD_eq_getElem?_getD, List.getElem?_eq_getElem h]
  rfl
/-- The words of the outer row. -/
def rowsV (As : Nat → Option Addr) (cs : Nat → Nat) (L : List (List Int)) : List Value := (List.range L.length).map fun i => .slice (As i) (L.getD i []).length (cs i)
theorem rowsV_len (As : Nat → Option Addr) (cs : Nat → Nat) (L : List (List Int)) : (rowsV As cs L).length = L.length := by simp [rowsV]
theorem rowsV_at {As : Nat → Option Addr} {cs : Nat → Nat} {L : List (List Int)} {i : Nat} (h : i < L.length) : (rowsV As cs L)[i]? = some (.slice (As i) (L.getD i []).length (cs i)) := by
  unfold rowsV
  rw [List.getElem?_map, List.getElem?_range h]
  rfl
theorem rowsV_congr {As : Nat → Option Addr} {cs : Nat → Nat} {L M : List (List Int)} (hl : L.length = M.length) (h : ∀ i, i < L.length → (L.getD i []).length = (M.getD i []).length) : rowsV As cs L = rowsV As cs M := by
  unfold rowsV
  rw [← hl]
  refine List.map_congr_left fun i hi => ?_
  rw [h i (List.mem_range.1 hi)]
structure SSr (w : World) (base : Nat) (A : Option Addr) (As : Nat → Option Addr) (cs : Nat → Nat) (L : List (List Int)) : Prop where
  outer : Own w A 26 (rowsV As cs L)
  inner : ∀ i, i < L.length → Own w (As i) 3 (ints (L.getD i []))
  lo : ∀ a, A = some a → base ≤ a.block
  los : ∀ i, i < L.length → ∀ a, As i = some a → base ≤ a.block
  apart : ∀ i j, i < L.length → j < L.length → i ≠ j → ∀ a a', As i = some a → As j = some a' → 0 < (L.getD i []).length → 0 < (L.getD j []).length → a.block ≠ a'.block
/-- The list of lists at A reads so. -/
def RdSS (w : World) (A : Option Addr) (L : List (List Int)) : Prop :=
  ∃ (As : Nat → Option Addr) (cs : Nat → Nat), Rd w w.heap.size A (rowsV As cs L) ∧ ∀ i, i < L.length → Rd w w.heap.size (As i) (ints (L.getD i []))
variable {w w' : World} {base : Nat} {A : Option Addr} {As : Nat → Option Addr} {cs : Nat → Nat} {L : List (List Int)}
theorem SSr.rd (h : SSr w base A As cs L) : RdSS w A L := ⟨As, cs, h.outer.rd, fun i hi => (h.inner i hi).rd⟩
theorem SSr.keep (h : SSr w base A As cs L) (hb : Below w.heap.size w w') : SSr w' base A As cs L :=
  ⟨h.outer.keep hb, fun i hi => (h.inner i hi).keep hb, h.lo, h.los, h.apart⟩
theorem RdSS.keep (h : RdSS w A L) (hb : Below w.heap.size w w') : RdSS w' A L := by
  obtain ⟨As, cs, h1, h2⟩ := h
  exact ⟨As, cs, (h1.below hb).mono hb.size, fun i hi => ((h2 i hi).below hb).mono hb.size⟩
/-- Another block turns, below base. -/
theorem SSr.fx {A' : Option Addr} {n : Nat} (h : SSr w base A As cs L) (hf : Fx w w' A' n) (hlo : 0 < n → ∀ a, A' = some a → a.block < base) : SSr w' base A As cs L :=
  ⟨h.outer.fx hf (fun hn _ a a' ha ha' => by have h1 := h.lo a ha; have h2 := hlo hn a' ha'; omega), fun i hi => (h.inner i hi).fx hf (fun hn _ a a' ha ha' => by have h1 := h.los i hi a ha; have h2 := hlo hn a' ha'; omega), h.lo, h.los, h.apart⟩
theorem set_lens {L : List (List Int)} {i : Nat} {new : List Int} (hi : i < L.length) (hlen : new.length = (L.getD i []).length) (j : Nat) : ((L.set i new).getD j []).length = (L.getD j []).length := by
  rw [List.getD_eq_getElem?_getD, List.getElem?_set]
  by_cases e : i = j
  · subst e
    rw [if_pos rfl, if_pos hi]
    exact hlen
  · rw [if_neg e, List.getD_eq_getElem?_getD]
theorem SSr.mark {i : Nat} {new : List Int} (h : SSr w base A As cs L) (hi : i < L.length) (hlen : new.length = (L.getD i []).length) (ho : Own w' (As i) 3 (ints new)) (hf : Fx w w' (As i) new.length) : SSr w' base A As cs (L.set i new) := by
  have hl : (L.set i new).length = L.length := List.length_set ..
  have hr : rowsV As cs (L.set i new) = rowsV As cs L := rowsV_congr hl (fun j _ => set_lens hi hlen j)
  refine ⟨?_, fun j hj => ?_, h.lo, fun j hj => h.los j (by rw [← hl]; exact hj), fun j j' hj hj' hne a a' ha ha' h1 h2 => ?_⟩
  · rw [hr]
    refine h.outer.fx hf (fun hn hx a a' ha ha' => ?_)
    obtain ⟨g, rest, e, hw⟩ := h.inner i hi (by rw [ints_length]; omega)
    rw [e] at ha'
    cases ha'
    exact own_apart h.outer hw (by decide) hx ha
  · rw [hl] at hj
    by_cases e : i = j
    · subst e
      rw [List.getD_eq_getElem?_getD, List.getElem?_set, if_pos rfl, if_pos hi]
      exact ho
    · have e2 : (L.set i new).getD j [] = L.getD j [] := by rw [List.getD_eq_getElem?_getD, List.getElem?_set, if_neg e, List.getD_eq_getElem?_getD]
      rw [e2]
      exact (h.inner j hj).fx hf (fun hn hx a a' ha ha' => h.apart j i hj hi (fun h => e h.symm) a a' ha ha' (by rw [ints_length] at hx; exact hx) (by omega))
  · rw [hl] at hj hj'
    rw [set_lens hi hlen] at h1 h2
    exact h.apart j j' hj hj' hne a a' ha ha' h1 h2
theorem takeL_step {l m : List (List Int)} {k : Nat} (h1 : k < l.length) (h2 : k < m.length) (h : l.take k = m.take k) : l.getD k [] = m.getD k [] → l.take (k + 1) = m.take (k + 1) := fun a => by
  rw [List.getD_eq_getElem?_getD, List.getElem?_eq_getElem h1, List.getD_eq_getElem?_getD, List.getElem?_eq_getElem h2] at a
  rw [List.take_succ_eq_append_getElem h1, List.take_succ_eq_append_getElem h2, h, show l[k] = m[k] from a]
theorem len_of_tot {L : List (List Int)} (j : Nat) (h : j < L.length) : (L.getD j []).length ≤ tot L := by
  have h1 := tot_take h
  have h2 := tot_le L (j + 1)
  omega
end Go.Proofs.YtlnekfbhpfhcpaaGreat
namespace Go.Proofs.YtlnekfbhpfhcpaaGreat
open Go.ChangeShapes Go.WideShapes Go.ChangeAt Go.RowKit Go.Joins Go.Deep
set_option linter.unusedSimpArgs false
set_option linter.unusedVariables false
set_option maxRecDepth 100000
set_option maxHeartbeats 4000000
def rowVals (gs : List Nat) : List Value := gs.map fun g => .slice (some ⟨g, 0, none⟩) 2 2
theorem zlistsInfo : (Tryz.prog.info? 26).map (fun i => (i.zero, i.size, i.bytes)) = some (some (.slice none 0 0), 1, 24) := by kernel_rfl
def zlst (n : Nat) : List Value := List.replicate n (.slice none 0 0)
theorem run_make_lists0 (n : Nat) (hn : n ≤ 1048576) (w : World) :
    (Instr.makeSlice 53 (.int .i64 0) (.int .i64 (n : Int))).run Tryz.prog w = .ok (.slice (some ⟨w.heap.size, 0, none⟩) 0 n) (w.alloc (.cells (zlst n).toArray 26)) := by
  obtain ⟨i0, hi, hz0, hz1, hz2⟩ := info_parts zlistsInfo
  have h := run_make (P := Tryz.prog) w 53 26 i0 _ Tryz.underlying53 hi hz0 .i64 .i64 0 (n : Int) (by omega) (by omega) (by rw [hz2]; omega) (by omega)
  rw [hz1] at h
  simp only [Int.toNat_natCast] at h
  have e : madeCells (Value.slice none 0 0).cells (n * 1) = (zlst n).toArray := by
    apply Array.ext
    · simp [madeCells, zlst]
    · intro i h1 h2
      simp [madeCells, zlst, Value.cells, Nat.mod_one]
  rw [h, e]
  rfl
theorem div_pair {a b c : Nat} (hb : b < c) : ((a * c + b : Nat) : Int).tdiv (c : Int) = (a : Int) ∧ ((a * c + b : Nat) : Int).tmod (c : Int) = (b : Int) := by
  have h1 : (a * c + b) / c = a := by rw [Nat.add_comm, Nat.add_mul_div_right _ _ (by omega), Nat.div_eq_of_lt hb, Nat.zero_add]
  have h2 : (a * c + b) % c = b := by rw [Nat.add_comm, Nat.add_mul_mod_self_right, Nat.mod_eq_of_lt hb]
  constructor
  · rw [← Int.ofNat_tdiv, h1]
  · rw [← Int.ofNat_tmod, h2]
/-- Lists of two numbers each, all the call's own and apart, and whether it succeeds. -/
def PostW (w : World) (L : List (List Int)) (ok : Bool) (e : Ending) (w' : World) : Prop :=
  ∃ A cp As cs, e = .returned (.tuple #[.slice A L.length cp, .bool ok]) ∧ SSr w' w.heap.size A As cs L ∧ Below w.heap.size w w'
theorem nIs_getD {wy : List (List Nat)} {i : Nat} (h : i < wy.length) : (wy.map nI).getD i [] = nI wy[i] := by
  rw [List.getD_eq_getElem?_getD, List.getElem?_map, List.getElem?_eq_getElem h]
  rfl
theorem PostW.of_rows {w w' : World} {r c n : Nat} {wy : List (List Nat)} {gs : List Nat} {v : Value} (hn : wy.length = n) (hgl : gs.length = n) (hW : wayOK r c wy) (hown : w'.ownsRow w.heap.size 26 1 v n (rowVals gs))
    (hrow : ∀ j (h : j < wy.length), j < n → Whole w' (gs.getD j 0) 3 (ints (nI wy[j]))) (hpw : gs.Pairwise (· < ·)) (hgb : ∀ g ∈ gs, w.heap.size ≤ g ∧ g < w'.heap.size) (hb : Below w.heap.size w w') :
    PostW w (wy.map nI) true (.returned (.tuple #[v, .bool true])) w' := by
  subst hn
  obtain ⟨A, cp, rfl⟩ := slice_of_row hown
  have ho := own_of_row hown
  have hm : ∀ i, i < wy.length → gs.getD i 0 ∈ gs := fun i hi => by
    rw [List.getD_eq_getElem?_getD, List.getElem?_eq_getElem (show i < gs.length by omega)]
    exact List.getElem_mem _
  have hrv : rowsV (fun i => some ⟨gs.getD i 0, 0, none⟩) (fun _ => 2) (wy.map nI) = rowVals gs := by
    unfold rowsV rowVals
    apply List.ext_getElem?
    intro i
    rw [List.getElem?_map, List.getElem?_map, List.length_map]
    by_cases hi : i < wy.length
    · rw [List.getElem?_range hi, List.getElem?_eq_getElem (show i < gs.length by omega)]
      obtain ⟨a, b, hp, _, _⟩ := hW _ (List.getElem_mem hi)
      show some (Value.slice (some ⟨gs.getD i 0, 0, none⟩) ((wy.map nI).getD i []).length 2) = some (Value.slice (some ⟨gs[i], 0, none⟩) 2 2)
      rw [nIs_getD hi, hp, List.getD_eq_getElem?_getD, List.getElem?_eq_getElem (show i < gs.length by omega)]
      rfl
    · rw [List.getElem?_eq_none (by rw [List.length_range]; omega), List.getElem?_eq_none (by omega)]
      rfl
  refine ⟨A, cp, fun i => some ⟨gs.getD i 0, 0, none⟩, fun _ => 2, by rw [List.length_map], ⟨?_, fun i hi => ?_, ho.2, fun i hi a ha => ?_, fun i j hi hj hne a a' ha ha' _ _ => ?_⟩, hb⟩
  · rw [hrv]
    exact ho.1
  · rw [List.length_map] at hi
    rw [nIs_getD hi]
    exact fun _ => ⟨gs.getD i 0, [], rfl, by rw [List.append_nil]; exact hrow i hi hi⟩
  · rw [List.length_map] at hi
    cases ha
    exact (hgb _ (hm i hi)).1
  · rw [List.length_map] at hi hj
    cases ha
    cases ha'
    have e1 : gs.getD i 0 = gs[i] := by rw [List.getD_eq_getElem?_getD, List.getElem?_eq_getElem (show i < gs.length by omega)]; rfl
    have e2 : gs.getD j 0 = gs[j] := by rw [List.getD_eq_getElem?_getD, List.getElem?_eq_getElem (show j < gs.length by omega)]; rfl
    show gs.getD i 0 ≠ gs.getD j 0
    rw [e1, e2]
    rcases Nat.lt_or_ge i j with h | h
    · have := List.pairwise_iff_getElem.1 hpw i j (by omega) (by omega) h
      omega
    · have := List.pairwise_iff_getElem.1 hpw j i (by omega) (by omega) (by omega)
      omega
theorem PostW.none_ {w w' : World} (b : Below w.heap.size w w') : PostW w [] false (.returned (.tuple #[.slice none 0 0, .bool false])) w' :=
  ⟨none, 0, fun _ => none, fun _ => 0, rfl, ⟨fun h => absurd h (by simp [rowsV]), fun i h => absurd h (Nat.not_lt_zero i), fun a ha => (by cases ha), fun i h => absurd h (Nat.not_lt_zero i), fun i j h => absurd h (Nat.not_lt_zero i)⟩, b⟩
theorem impl_WayOf_good (r c b o cap : Nat) (l : List (Int × Int)) (cl : Nat) (w : World) (ho : okF (r : Int) (c : Int) l (cl : Int) = true) (hg : goodB (r : Int) (c : Int) l = true) (hcl : cl < c) (hn : l.length ≤ 1048576) (hr' : Rd w w.heap.size (some ⟨b, o, none⟩) (flat l)) :
    Calls Tryz.prog 25 #[.agg #[.int .i64 (r : Int), .int .i64 (c : Int), .slice (some ⟨b, o, none⟩) l.length cap], .int .i64 (cl : Int)] w (PostW w ((marO (r : Int) (c : Int) l (cl : Int)).way.map nI) true) := by
  have HO := Lib.hid ho
  obtain ⟨_, h90, hpos⟩ := goodB_parts hg
  obtain ⟨s1, s2, s3, s4⟩ := sizeB_iff.1 (goodB_iff.1 hg).1
  obtain ⟨i0, hi, hz0, hz1, hz2⟩ := info_parts zlistsInfo
  have hW := marO_wayOK (r := r) (l := l) hcl
  have hwl : (marO (r : Int) (c : Int) l (cl : Int)).way.length ≤ r := by
    have h := flG_wayLen (numL c l) r c r 0 l cl 0 []
    show (flG (numL c l) r c r 0 l cl 0 []).way.length ≤ r
    simpa using h
  have hwp := marO_wayPos (r := r) (c := c) (l := l) (k := (cl : Int)) (by omega)
  have hmk := run_make_lists0 (marO (r : Int) (c : Int) l (cl : Int)).way.length (by omega)
  clear ho
  go_enter Tryz.func25, Tryz.ntmps25
  obtain ⟨v0, hv0⟩ : ∃ v, v = w.alloc (.cells #[.int .i64 (r : Int), .int .i64 (c : Int), .slice (some ⟨b, o, none⟩) l.length cap] 25) := ⟨_, rfl⟩; have X0 : Whole v0 w.heap.size 25 [.int .i64 (r : Int), .int .i64 (c : Int), .slice (some ⟨b, o, none⟩) l.length cap] := (by rw [hv0]; exact heap_alloc_new w _); have hb : Below w.heap.size w v0 := (by rw [hv0]; exact (Below.refl _ _).alloc (Nat.le_refl _) _); have HV := Lib.hid hv0.symm; clear hv0; go_upto_region 1 with (fail); rewrite [HV.out]; clear HV; have X0k0 : v0.cell? ⟨w.heap.size, 0, none⟩ = some (.int .i64 (r : Int)) := (X0.cell 0).trans rfl; have X0k1 : v0.cell? ⟨w.heap.size, 1, none⟩ = some (.int .i64 (c : Int)) := (X0.cell 1).trans rfl; have X0k2 : v0.cell? ⟨w.heap.size, 2, none⟩ = some (.slice (some ⟨b, o, none⟩) l.length cap) := (X0.cell 2).trans rfl
  go_wp2_with fail
  have bl : Below v0.heap.size v0 (v0.alloc (.cells #[.int .i64 (cl : Int)] 3)) := (Below.refl _ _).alloc (Nat.le_refl _) _; have Xl : Whole (v0.alloc (.cells #[.int .i64 (cl : Int)] 3)) v0.heap.size 3 [.int .i64 (cl : Int)] := heap_alloc_new v0 _; clear X0k0 X0k1 X0k2; replace X0 := X0.below bl X0.lt; replace hb := hb.trans (bl.mono hb.size); clear bl; generalize v0.alloc (.cells #[.int .i64 (cl : Int)] 3) = v1 at *
  refine (impl_areEntries1 _ _ _ _ l _ _ _ hn ((hr'.below hb).mono hb.size) Xl).mono ?_; rintro e w1 ⟨rfl, b1⟩
  rewrite [HO.out]
  replace X0 := X0.below b1 X0.lt; replace hb := hb.trans (b1.mono hb.size); clear b1
  clear Xl
  have X0k0 : w1.cell? ⟨w.heap.size, 0, none⟩ = some (.int .i64 (r : Int)) := (X0.cell 0).trans rfl; have X0k1 : w1.cell? ⟨w.heap.size, 1, none⟩ = some (.int .i64 (c : Int)) := (X0.cell 1).trans rfl; have X0k2 : w1.cell? ⟨w.heap.size, 2, none⟩ = some (.slice (some ⟨b, o, none⟩) l.length cap) := (X0.cell 2).trans rfl
  go_wp2_with fail
  refine (impl_fallAlone r c b o cap l cl _ hg ((hr'.below hb).mono hb.size) hcl).mono ?_; rintro e w2 ⟨A5, c5, rfl, O5, N5, b2⟩
  clear X0k0 X0k1 X0k2
  replace X0 := X0.below b2 X0.lt; replace hb := hb.trans (b2.mono hb.size); clear b2
  rw [wayI_nI] at O5
  clear N5
  generalize marO (r : Int) (c : Int) l (cl : Int) = F at *
  have hs2 := hb.size
  go_upto_region 4 with (fail)
  generalize hv3 : World.alloc _ _ = v3
  have b3 : Below w2.heap.size w2 v3 := by rw [← hv3]; exact (Below.refl _ _).alloc (Nat.le_refl _) _
  clear hv3
  replace X0 := X0.below b3 X0.lt
  replace O5 := O5.keep b3
  replace hb := hb.trans (b3.mono hs2)
  clear b3 hs2
  go_upto_region 5 with (fail)
  have hown := World.ownsRow_made (e := 26) (size := 1) (base := w.heap.size) v3 (zlst F.way.length).toArray F.way.length hb.size (by unfold maxLen; omega) (by simp [zlst])
  have ba : Below v3.heap.size v3 (v3.alloc (.cells (zlst F.way.length).toArray 26)) := (Below.refl _ _).alloc (Nat.le_refl _) _
  replace O5 := O5.keep ba
  replace X0 := X0.below ba X0.lt; replace hb := hb.trans (ba.mono hb.size); clear ba
  clear hmk
  generalize v3.alloc (.cells (zlst F.way.length).toArray 26) = v4 at *
  generalize v3.heap.size = Y at *
  obtain ⟨g5, rest5, rfl, X5⟩ := O5 (by rw [ints_length, nI_length, wayN_len]; exact hwp)
  clear O5
  go_wp2
  go_loopw [8, 27] (fun v i wr => ∃ (k : Nat) (gs : List Nat), i = .int .i64 k ∧ k ≤ F.way.length ∧ gs.length = k ∧ wr.ownsRow w.heap.size 26 1 v k (rowVals gs) ∧ (∀ j (h : j < F.way.length), j < k → Whole wr (gs.getD j 0) 3 (ints (nI F.way[j]))) ∧ gs.Pairwise (· < ·) ∧ (∀ g ∈ gs, w.heap.size ≤ g ∧ g < wr.heap.size) ∧ Whole wr w.heap.size 25 [.int .i64 (r : Int), .int .i64 (c : Int), .slice (some ⟨b, o, none⟩) l.length cap] ∧ Whole wr g5 3 (ints (nI (wayN c F.way)) ++ rest5) ∧ Below w.heap.size w wr) (fun _ i _ => F.way.length - (intOf i).toNat)
  case atStart => exact ⟨0, [], rfl, Nat.zero_le _, rfl, hown, fun j _ h => absurd h (Nat.not_lt_zero j), List.Pairwise.nil, fun g h => absurd h List.not_mem_nil, X0, X5, hb⟩
  case round =>
    clear hown X0 X5 hb
    obtain ⟨k, gs, rfl, hk, hgl, hown, hrow, hpw, hgb, X0, X5, hb⟩ := hrel
    have hs := hb.size
    by_cases hlt : k < F.way.length
    · obtain ⟨ra, rb, hp, hra, hrb⟩ := hW _ (List.getElem_mem hlt)
      have hnk : (ints (nI (wayN c F.way)) ++ rest5)[k]? = some (.int .i64 ((ra * c + rb : Nat) : Int)) := by
        rw [List.getElem?_append_left (by rw [ints_length, nI_length, wayN_len]; exact hlt), nI_atP (by rw [wayN_len]; exact hlt)]
        congr 2
        unfold wayN
        rw [List.getElem_map, hp]
        rfl
      have hck := (X5.cell k).trans hnk
      obtain ⟨hdq, hdm⟩ := div_pair (a := ra) (b := rb) (c := c) hrb
      have hcn : ¬ c = 0 := by omega
      have hcne : ¬ (c : Int) = 0 := by omega
      have hcb : ((c : Int) == 0) = false := by simpa using hcne
      have hw1 : IntKind.i64.wrap (ra : Int) = (ra : Int) := IntWalk.i64_in _ (by omega)
      have hw2 : IntKind.i64.wrap (rb : Int) = (rb : Int) := IntWalk.i64_in _ (by omega)
      have HP := Lib.hid hp
      have HRo := Lib.hid hrow
      clear hnk hp hrow
      generalize ra * c + rb = ix at *
      go_upto_region 8 with (fail)
      clear hck
      have bd : Below wr.heap.size wr wr.drew := (Below.refl _ _).drew
      replace hown := row_keep hown bd
      have X0d := X0.below bd X0.lt
      have hk1 : wr.drew.cell? ⟨w.heap.size, 1, none⟩ = some (.int .i64 (c : Int)) := (X0d.cell 1).trans rfl
      have hyw := X0d.lt
      have hsd := hb.drew.size
      have hown2 := (hown.alloc (.cells #[.int .i64 (ra : Int), .int .i64 (rb : Int)] 3)).alloc (.cells #[.slice (some ⟨wr.heap.size, 0, none⟩) 2 2] 26)
      have hcel : ∀ j u, [Value.slice (some ⟨wr.heap.size, 0, none⟩) 2 2][j]? = some u → ((wr.drew.alloc (.cells #[.int .i64 (ra : Int), .int .i64 (rb : Int)] 3)).alloc (.cells #[.slice (some ⟨wr.heap.size, 0, none⟩) 2 2] 26)).cell? ((⟨wr.heap.size + 1, 0, none⟩ : Addr).add j) = some u := by
        intro j u hj
        have h := one_cellI (w := wr.drew.alloc (.cells #[.int .i64 (ra : Int), .int .i64 (rb : Int)] 3)) (t := 26) j u hj
        rw [World.size_alloc] at h
        exact h
      have hbs : w.heap.size ≤ ((wr.drew.alloc (.cells #[.int .i64 (ra : Int), .int .i64 (rb : Int)] 3)).alloc (.cells #[.slice (some ⟨wr.heap.size, 0, none⟩) 2 2] 26)).heap.size := by
        rw [World.size_alloc, World.size_alloc]
        omega
      have HA := Lib.hid (And.intro hown2 (And.intro hcel hbs))
      clear hown2 hcel hbs
      go_region_law (first
        | (refine step_append_lies _ (by rfl) _ _ _ (by rfl) w.heap.size 26 i0 _ 1 24 Tryz.underlying53 hi hz0 hz1 hz2 rfl (by omega) u8 k (rowVals gs) (by simp [Act.eval, Act.put]) HA.out.1 ⟨wr.heap.size + 1, 0, none⟩ 1 1 [.slice (some ⟨wr.heap.size, 0, none⟩) 2 2] (by simp [Act.eval, Act.put]) rfl HA.out.2.1 one_oneL (by omega) (by unfold maxLen; omega) (by omega) HA.out.2.2 _ rfl ?_; intro g9 c9 w9 hown9 hg9 hat9 hlt9)
        | fail)
      all_goals
        have hY := HA.out.1
        have O1b : Below wr.heap.size wr ((wr.drew.alloc (.cells #[.int .i64 (ra : Int), .int .i64 (rb : Int)] 3)).alloc (.cells #[.slice (some ⟨wr.heap.size, 0, none⟩) 2 2] 26)) := (bd.alloc (Nat.le_refl _) _).alloc (by rw [World.size_alloc]; exact Nat.le_succ _) _
        have hkeep : ∀ {g : Nat} {t : TypeId} {xs : List Value}, 26 ≠ t → Whole wr g t xs → Whole w9 g t xs := fun hne hw => (hw.below O1b hw.lt).grown hg9 (row_apart hY (hw.below O1b hw.lt) hne)
        have Xn : Whole ((wr.drew.alloc (.cells #[.int .i64 (ra : Int), .int .i64 (rb : Int)] 3)).alloc (.cells #[.slice (some ⟨wr.heap.size, 0, none⟩) 2 2] 26)) wr.heap.size 3 [.int .i64 (ra : Int), .int .i64 (rb : Int)] := Whole.alloc (heap_alloc_new wr.drew (.cells #[.int .i64 (ra : Int), .int .i64 (rb : Int)] 3)) _
        have Xn9 := Xn.grown hg9 (row_apart hY Xn (by decide))
        have hb9 : Below w.heap.size w w9 := row_below hY (hb.trans (O1b.mono hs)) HA.out.2.2 hg9
        have X09 := hkeep (by decide) X0
        have X59 := hkeep (by decide) X5
        have hrow9 : ∀ j (h : j < F.way.length), j < k + 1 → Whole w9 ((gs ++ [wr.heap.size]).getD j 0) 3 (ints (nI F.way[j])) := fun j h hjk => by
          rw [List.getD_eq_getElem?_getD]
          by_cases e : j < k
          · rw [List.getElem?_append_left (by omega), ← List.getD_eq_getElem?_getD]
            exact hkeep (by decide) (HRo.out j h e)
          · have e2 : j = k := by omega
            subst e2
            rw [List.getElem?_append_right (by omega), hgl, Nat.sub_self, HP.out]
            exact Xn9
        have hpw9 : (gs ++ [wr.heap.size]).Pairwise (· < ·) := by
          rw [List.pairwise_append]
          refine ⟨hpw, List.pairwise_singleton _ _, fun a ha x hx => ?_⟩
          rw [List.mem_singleton] at hx
          subst hx
          exact (hgb a ha).2
        have hgb9 : ∀ g ∈ gs ++ [wr.heap.size], w.heap.size ≤ g ∧ g < w9.heap.size := fun g hg => by
          have h9 := Xn9.lt
          rcases List.mem_append.1 hg with h | h
          · have := hgb g h
            omega
          · rw [List.mem_singleton] at h
            subst h
            exact ⟨hs, h9⟩
        have HR9 := Lib.hid (⟨hrow9, hpw9, hgb9, X09, X59, hb9⟩ : _ ∧ _ ∧ _ ∧ _ ∧ _ ∧ _)
        clear hrow9 hpw9 hgb9 X09 X59 hb9 Xn Xn9 hkeep O1b hY HA HRo hpw hgb X0 X5 hb X0d hown hk1 bd hg9
        go_wp2
        go_roundw
      all_goals first
        | (obtain ⟨hrow9, hpw9, hgb9, X09, X59, hb9⟩ := HR9.out; exact ⟨k + 1, gs ++ [wr.heap.size], by go_num, by omega, by simp [hgl], by unfold rowVals at hown9 ⊢; rw [List.map_append]; exact hown9, hrow9, hpw9, hgb9, X09, X59, hb9⟩)
        | (simp [intOf]; omega)
        | fail
    · obtain rfl : k = F.way.length := by omega
      clear hlt
      go_wp2
      go_returns
      exact PostW.of_rows rfl hgl hW hown hrow hpw hgb hb
def wayM (R C : Int) (l : List (Int × Int)) (j : Int) : List (List Int) := (wayL R C l j).map nI
theorem impl_WayOf0 (R C : Int) (A : Option Addr) (cap : Nat) (l : List (Int × Int)) (j : Int) (w : World) (hn : l.length ≤ 1048576) (hr : Rd w w.heap.size A (flat l)) :
    Calls Tryz.prog 25 #[.agg #[.int .i64 R, .int .i64 C, .slice A l.length cap], .int .i64 j] w (PostW w ((wayL R C l j).map nI) (okF R C l j)) := by
  unfold wayL
  rcases Bool.eq_false_or_eq_true (okF R C l j) with ho | ho
  · obtain ⟨hg, h1, h2⟩ := okF_parts ho
    obtain ⟨_, _, hpos⟩ := goodB_parts hg
    obtain ⟨b, o, rfl, hbl, hc⟩ := hr (by rw [flat_length]; omega)
    have hr' : Rd w w.heap.size (some ⟨b, o, none⟩) (flat l) := fun _ => ⟨b, o, rfl, hbl, hc⟩
    obtain ⟨r, c, rfl, rfl, hG⟩ := geo_of hg
    obtain ⟨cl, rfl⟩ : ∃ cl : Nat, j = (cl : Int) := ⟨j.toNat, by omega⟩
    rw [ho, if_pos rfl]
    exact impl_WayOf_good r c b o cap l cl w ho hg (by omega) hn hr'
  · have HO := Lib.hid ho
    rw [ho]
    clear ho
    go_enter Tryz.func25, Tryz.ntmps25
    obtain ⟨v0, hv0⟩ : ∃ v, v = w.alloc (.cells #[.int .i64 R, .int .i64 C, .slice A l.length cap] 25) := ⟨_, rfl⟩; have X0 : Whole v0 w.heap.size 25 [.int .i64 R, .int .i64 C, .slice A l.length cap] := (by rw [hv0]; exact heap_alloc_new w _); have hb : Below w.heap.size w v0 := (by rw [hv0]; exact (Below.refl _ _).alloc (Nat.le_refl _) _); have HV := Lib.hid hv0.symm; clear hv0; go_upto_region 1 with (fail); rewrite [HV.out]; clear HV; have X0k0 : v0.cell? ⟨w.heap.size, 0, none⟩ = some (.int .i64 R) := (X0.cell 0).trans rfl; have X0k1 : v0.cell? ⟨w.heap.size, 1, none⟩ = some (.int .i64 C) := (X0.cell 1).trans rfl; have X0k2 : v0.cell? ⟨w.heap.size, 2, none⟩ = some (.slice A l.length cap) := (X0.cell 2).trans rfl
    go_wp2_with fail
    have bl : Below v0.heap.size v0 (v0.alloc (.cells #[.int .i64 j] 3)) := (Below.refl _ _).alloc (Nat.le_refl _) _; have Xl : Whole (v0.alloc (.cells #[.int .i64 j] 3)) v0.heap.size 3 [.int .i64 j] := heap_alloc_new v0 _; clear X0k0 X0k1 X0k2; replace X0 := X0.below bl X0.lt; replace hb := hb.trans (bl.mono hb.size); clear bl; generalize v0.alloc (.cells #[.int .i64 j] 3) = v1 at *
    refine (impl_areEntries1 _ _ _ _ l _ _ _ hn ((hr.below hb).mono hb.size) Xl).mono ?_; rintro e w1 ⟨rfl, b1⟩
    rewrite [HO.out]
    replace X0 := X0.below b1 X0.lt; replace hb := hb.trans (b1.mono hb.size); clear b1
    have hbs := hb.size
    go_wp2
    go_returns
    exact PostW.none_ hb
theorem impl_WayOf (R C : Int) (A : Option Addr) (cap : Nat) (l : List (Int × Int)) (j : Int) (w : World) (hn : l.length ≤ 1048576) (hr : Rd w w.heap.size A (flat l)) :
    Calls Tryz.prog 25 #[.agg #[.int .i64 R, .int .i64 C, .slice A l.length cap], .int .i64 j] w (PostW w (wayM R C l j) (okF R C l j)) := impl_WayOf0 R C A cap l j w hn hr
theorem wayL_tot (R C : Int) (l : List (Int × Int)) (j : Int) : ((wayL R C l j).map nI).length ≤ 1048576 ∧ tot ((wayL R C l j).map nI) ≤ 1048576 := by
  have h2 : ∀ (wy : List (List Nat)) (r c : Nat), wayOK r c wy → tot (wy.map nI) = 2 * wy.length := fun wy => by
    induction wy with
    | nil => intro r c _; rfl
    | cons p wy ih =>
      intro r c h
      obtain ⟨a, b, rfl, _, _⟩ := h p (List.mem_cons_self ..)
      show (nI [a, b]).length + tot (wy.map nI) = 2 * (wy.length + 1)
      rw [ih r c (fun q hq => h q (List.mem_cons_of_mem _ hq)), nI_length]
      simp
      omega
  unfold wayL
  split
  · next ho =>
    obtain ⟨hg, h1, h3⟩ := okF_parts ho
    obtain ⟨s1, s2, s3, s4⟩ := sizeB_iff.1 (goodB_iff.1 hg).1
    obtain ⟨r, c, rfl, rfl, hG⟩ := geo_of hg
    obtain ⟨cl, rfl⟩ : ∃ cl : Nat, j = (cl : Int) := ⟨j.toNat, by omega⟩
    have hw := marO_wayOK (r := r) (l := l) (show cl < c by omega)
    have hl : (marO (r : Int) (c : Int) l (cl : Int)).way.length ≤ r := by
      have h := flG_wayLen (numL c l) r c r 0 l cl 0 []
      show (flG (numL c l) r c r 0 l cl 0 []).way.length ≤ r
      simpa using h
    rw [h2 _ r c hw, List.length_map]
    omega
  · simp [tot]
theorem LRow.rdss {w : World} {base : Nat} {v : Value} {L : List (List Nat)} (h : LRow w base v L) : ∃ A cp, v = .slice A (L.map nI).length cp ∧ RdSS w A (L.map nI) := by
  obtain ⟨hs, h1, h2, h3⟩ := h
  obtain ⟨A, cp, rfl⟩ := slice_of_row h2
  have ho := own_of_row h2
  have hx : ∀ k, ∃ p : Option Addr × Nat, ∀ h : k < L.length, hs[k]? = some (.slice p.1 L[k].length p.2) ∧ Own w p.1 3 (ints (nI L[k])) := fun k => by
    by_cases hk : k < L.length
    · obtain ⟨B, cb, e1, e2, _⟩ := h3 k hk
      exact ⟨(B, cb), fun _ => ⟨e1, e2⟩⟩
    · exact ⟨(none, 0), fun h => absurd h hk⟩
  obtain ⟨f, hf⟩ := Classical.axiomOfChoice hx
  refine ⟨A, cp, by rw [List.length_map], fun i => (f i).1, fun i => (f i).2, ?_, fun i hi => ?_⟩
  · have e : rowsV (fun i => (f i).1) (fun i => (f i).2) (L.map nI) = hs := by
      unfold rowsV
      apply List.ext_getElem?
      intro i
      rw [List.getElem?_map, List.length_map]
      by_cases hi : i < L.length
      · rw [List.getElem?_range hi, (hf i hi).1]
        show some (Value.slice (f i).1 ((L.map nI).getD i []).length (f i).2) = some (Value.slice (f i).1 L[i].length (f i).2)
        rw [nIs_getD hi, nI_length]
      · rw [List.getElem?_eq_none (by rw [List.length_range]; omega), List.getElem?_eq_none (by omega)]
        rfl
    rw [e]
    exact ho.1.rd
  · rw [List.length_map] at hi
    rw [nIs_getD hi]
    exact (hf i hi).2.rd
theorem wayM_tot (R C : Int) (l : List (Int × Int)) (j : Int) : (wayM R C l j).length ≤ 1048576 ∧ tot (wayM R C l j) ≤ 1048576 := wayL_tot R C l j
theorem spec_WayOfP (R C : Int) (A : Option Addr) (cap : Nat) (l : List (Int × Int)) (j : Int) (w : World) (hn : l.length ≤ 1048576) (hr : Rd w w.heap.size A (flat l)) :
    Calls Tryz.prog 26 #[.agg #[.int .i64 R, .int .i64 C, .slice A l.length cap], .int .i64 j] w fun e w' => ∃ A' cp, e = .returned (.tuple #[.slice A' (wayM R C l j).length cp, .bool (okF R C l j)]) ∧ RdSS w' A' (wayM R C l j) ∧ Below w.heap.size w w' := by
  refine (spec_WayOf R C A cap l j w hn hr).mono ?_
  rintro e w' ⟨v, rfl, h1, h2⟩
  obtain ⟨A', cp, e3, h3⟩ := h1.rdss
  subst e3
  exact ⟨A', cp, rfl, h3, h2⟩
end Go.Proofs.YtlnekfbhpfhcpaaGreat
namespace Go.Proofs.YtlnekfbhpfhcpaaGreat
open Go.ChangeShapes Go.WideShapes Go.ChangeAt Go.RowKit Go.Joins Go.Deep
set_option linter.unusedSimpArgs false
set_option linter.unusedVariables false
set_option maxRecDepth 100000
set_option maxHeartbeats 4000000
def tri (F : FlR) : Int × Int × Int := (F.e, F.row, F.col)
def endsK (R C : Int) (l : List (Int × Int)) (k : Nat) : List (Int × Int × Int) := (List.range 9).map fun i => if i < k then tri (marO R C l i) else (0, 0, 0)
theorem endsK_len (R C : Int) (l : List (Int × Int)) (k : Nat) : (endsK R C l k).length = 9 := by simp [endsK]
theorem endsK_getD {R C : Int} {l : List (Int × Int)} {k i : Nat} (h : i < k) (h9 : i < 9) : (endsK R C l k).getD i (0, 0, 0) = tri (marO R C l i) := by
  unfold endsK
  rw [List.getD_eq_getElem?_getD, List.getElem?_map, List.getElem?_range h9]
  simp [h]
theorem endsK_set {R C : Int} {l : List (Int × Int)} {k : Nat} (h9 : k < 9) : (endsK R C l k).set k (tri (marO R C l k)) = endsK R C l (k + 1) := by
  apply List.ext_getElem?
  intro i
  rw [List.getElem?_set]
  unfold endsK
  rw [List.length_map, List.length_range, List.getElem?_map, List.getElem?_map]
  by_cases hi : i < 9
  · rw [List.getElem?_range hi]
    by_cases e : k = i
    · subst e
      simp [hi]
    · have e1 : (i < k + 1) ↔ (i < k) := by omega
      simp [e, e1]
  · have hn : (List.range 9)[i]? = none := by rw [List.getElem?_eq_none]; simp; omega
    rw [hn]
    by_cases e : k = i
    · omega
    · simp [e]
theorem flatF_set (l : List (Int × Int × Int)) (n : Nat) (x y z : Int) (h : n < l.length) : (((flatF l).set (n * 3) (.int .i64 x)).set (n * 3 + 1) (.int .i64 y)).set (n * 3 + 2) (.int .i64 z) = flatF (l.set n (x, y, z)) := by
  induction l generalizing n with
  | nil => simp at h
  | cons c l ih =>
    cases n with
    | zero => rfl
    | succ n =>
      have := ih n (by simpa using h)
      rw [show (n + 1) * 3 = n * 3 + 1 + 1 + 1 by omega]
      show (((Value.int .i64 c.1 :: Value.int .i64 c.2.1 :: Value.int .i64 c.2.2 :: flatF l).set (n * 3 + 1 + 1 + 1) (Value.int .i64 x)).set (n * 3 + 1 + 1 + 1 + 1) (Value.int .i64 y)).set (n * 3 + 1 + 1 + 1 + 2) (Value.int .i64 z) = Value.int .i64 c.1 :: Value.int .i64 c.2.1 :: Value.int .i64 c.2.2 :: flatF (l.set n (x, y, z))
      rw [← this]
      rfl
theorem endsInfo : (Tryz.prog.info? 73).map (·.size) = some 27 := by kernel_rfl
theorem endsUnder : Tryz.prog.underlying 73 = some (.array 9 50) := by kernel_rfl
theorem guardEnds : Tryz.prog.eqGuardType Tryz.prog.depth 73 = false := by kernel_rfl
theorem flatF_one (l : List (Int × Int × Int)) : (flatF l).toArray.all (·.oneCell') = true := by
  rw [Array.all_eq_true_iff_forall_mem]
  intro v hv
  have hv' : v ∈ flatF l := by simpa using hv
  unfold flatF at hv'
  obtain ⟨f, _, hf⟩ := List.mem_flatMap.1 hv'
  simp only [List.mem_cons, List.not_mem_nil, or_false] at hf
  rcases hf with rfl | rfl | rfl <;> rfl
def zeros27 : List Value := [.int .i64 0, .int .i64 0, .int .i64 0, .int .i64 0, .int .i64 0, .int .i64 0, .int .i64 0, .int .i64 0, .int .i64 0, .int .i64 0, .int .i64 0, .int .i64 0, .int .i64 0, .int .i64 0, .int .i64 0, .int .i64 0, .int .i64 0, .int .i64 0, .int .i64 0, .int .i64 0, .int .i64 0, .int .i64 0, .int .i64 0, .int .i64 0, .int .i64 0, .int .i64 0, .int .i64 0]
theorem endsK_zero (R C : Int) (l : List (Int × Int)) : flatF (endsK R C l 0) = zeros27 := rfl
theorem impl_endsAlone (r c b o cap : Nat) (l : List (Int × Int)) (w : World) (hgd : goodB (r : Int) (c : Int) l = true) (hr : Rd w w.heap.size (some ⟨b, o, none⟩) (flat l)) :
    Calls Tryz.prog 38 #[.agg #[.int .i64 (r : Int), .int .i64 (c : Int), .slice (some ⟨b, o, none⟩) l.length cap]] w fun e w' => e = .returned (.agg (flatF (endsK (r : Int) (c : Int) l c)).toArray) ∧ Below w.heap.size w w' := by
  obtain ⟨s1, s2, s3, s4⟩ := sizeB_iff.1 (goodB_iff.1 hgd).1
  have HE0 := Lib.hid (endsK_zero (r : Int) (c : Int) l)
  go_enter Tryz.func38, Tryz.ntmps38
  obtain ⟨v0, hv0, X0, X1, X2, B0, hz0⟩ := three_boxes w [.int .i64 (r : Int), .int .i64 (c : Int), .slice (some ⟨b, o, none⟩) l.length cap] 25 [.int .i64 0, .int .i64 0, .int .i64 0, .int .i64 0, .int .i64 0, .int .i64 0, .int .i64 0, .int .i64 0, .int .i64 0, .int .i64 0, .int .i64 0, .int .i64 0, .int .i64 0, .int .i64 0, .int .i64 0, .int .i64 0, .int .i64 0, .int .i64 0, .int .i64 0, .int .i64 0, .int .i64 0, .int .i64 0, .int .i64 0, .int .i64 0, .int .i64 0, .int .i64 0, .int .i64 0] 73 [.int .i64 0, .int .i64 0, .int .i64 0, .int .i64 0, .int .i64 0, .int .i64 0, .int .i64 0, .int .i64 0, .int .i64 0, .int .i64 0, .int .i64 0, .int .i64 0, .int .i64 0, .int .i64 0, .int .i64 0, .int .i64 0, .int .i64 0, .int .i64 0, .int .i64 0, .int .i64 0, .int .i64 0, .int .i64 0, .int .i64 0, .int .i64 0, .int .i64 0, .int .i64 0, .int .i64 0] 73; have HV := Lib.hid hv0; have hx : w.heap.size + 1 + 1 < v0.heap.size := (by omega); have hz : w.heap.size + 1 < v0.heap.size := (by omega); have hy : w.heap.size < v0.heap.size := (by omega); have hb0 := B0.size; clear hv0 hz0; go_wp2_with fail; rewrite [show ((w.alloc (.cells ([.int .i64 (r : Int), .int .i64 (c : Int), .slice (some ⟨b, o, none⟩) l.length cap] : List Value).toArray 25)).alloc (.cells ([.int .i64 0, .int .i64 0, .int .i64 0, .int .i64 0, .int .i64 0, .int .i64 0, .int .i64 0, .int .i64 0, .int .i64 0, .int .i64 0, .int .i64 0, .int .i64 0, .int .i64 0, .int .i64 0, .int .i64 0, .int .i64 0, .int .i64 0, .int .i64 0, .int .i64 0, .int .i64 0, .int .i64 0, .int .i64 0, .int .i64 0, .int .i64 0, .int .i64 0, .int .i64 0, .int .i64 0] : List Value).toArray 73)).alloc (.cells ([.int .i64 0, .int .i64 0, .int .i64 0, .int .i64 0, .int .i64 0, .int .i64 0, .int .i64 0, .int .i64 0, .int .i64 0, .int .i64 0, .int .i64 0, .int .i64 0, .int .i64 0, .int .i64 0, .int .i64 0, .int .i64 0, .int .i64 0, .int .i64 0, .int .i64 0, .int .i64 0, .int .i64 0, .int .i64 0, .int .i64 0, .int .i64 0, .int .i64 0, .int .i64 0, .int .i64 0] : List Value).toArray 73) = v0 from HV.out]; clear HV
  replace X1 : Whole v0 (w.heap.size + 1) 73 zeros27 := X1
  replace X2 : Whole v0 (w.heap.size + 1 + 1) 73 (flatF (endsK (r : Int) (c : Int) l 0)) := by rw [HE0.out]; exact X2
  have X0k0 : v0.cell? ⟨w.heap.size, 0, none⟩ = some (.int .i64 (r : Int)) := (X0.cell 0).trans rfl; have X0k1 : v0.cell? ⟨w.heap.size, 1, none⟩ = some (.int .i64 (c : Int)) := (X0.cell 1).trans rfl; have X0k2 : v0.cell? ⟨w.heap.size, 2, none⟩ = some (.slice (some ⟨b, o, none⟩) l.length cap) := (X0.cell 2).trans rfl
  go_wp2
  clear X0k0 X0k1 X0k2
  go_loopw [7] (fun i wr => ∃ k : Nat, k ≤ c ∧ i = .int .i64 k ∧ Whole wr w.heap.size 25 [.int .i64 (r : Int), .int .i64 (c : Int), .slice (some ⟨b, o, none⟩) l.length cap] ∧ Whole wr (w.heap.size + 1) 73 zeros27 ∧ Whole wr (w.heap.size + 1 + 1) 73 (flatF (endsK (r : Int) (c : Int) l k)) ∧ Below w.heap.size w wr) (fun i _ => c - (intOf i).toNat)
  case atStart => exact ⟨0, Nat.zero_le _, rfl, X0, X1, X2, B0⟩
  case round =>
    clear X0 X1 X2 B0 hx hy hz hb0
    obtain ⟨k, hk, rfl, X0, X1, X2, B0⟩ := hrel
    have hs := B0.size
    by_cases hlt : k < c
    · have HS := Lib.hid (endsK_set (R := (r : Int)) (C := (c : Int)) (l := l) (k := k) (by omega))
      have HFs := Lib.hid (fun x y z => flatF_set (endsK (r : Int) (c : Int) l k) k x y z (by rw [endsK_len]; omega))
      have hlen : (flatF (endsK (r : Int) (c : Int) l k)).length = 27 := by rw [flatF_len, endsK_len]
      obtain ⟨u0, hu0⟩ : ∃ u, (flatF (endsK (r : Int) (c : Int) l k))[k * 3]? = some u := ⟨_, List.getElem?_eq_getElem (by omega)⟩
      obtain ⟨u1, hu1⟩ : ∃ u, (flatF (endsK (r : Int) (c : Int) l k))[k * 3 + 1]? = some u := ⟨_, List.getElem?_eq_getElem (by omega)⟩
      obtain ⟨u2, hu2⟩ : ∃ u, (flatF (endsK (r : Int) (c : Int) l k))[k * 3 + 2]? = some u := ⟨_, List.getElem?_eq_getElem (by omega)⟩
      clear hlen
      have HU := Lib.hid (And.intro hu0 (And.intro hu1 hu2))
      clear hu0 hu1 hu2
      have X0k0 : wr.cell? ⟨w.heap.size, 0, none⟩ = some (.int .i64 (r : Int)) := (X0.cell 0).trans rfl; have X0k1 : wr.cell? ⟨w.heap.size, 1, none⟩ = some (.int .i64 (c : Int)) := (X0.cell 1).trans rfl; have X0k2 : wr.cell? ⟨w.heap.size, 2, none⟩ = some (.slice (some ⟨b, o, none⟩) l.length cap) := (X0.cell 2).trans rfl
      go_wp2_with fail
      refine (impl_fallAlone r c b o cap l k _ hgd ((hr.below B0).mono B0.size) hlt).mono ?_; rintro e w2 ⟨A5, c5, rfl, O5, N5, b2⟩
      clear X0k0 X0k1 X0k2
      clear O5 N5
      have hxw := X2.lt
      replace X0 := X0.below b2 X0.lt
      replace X1 := X1.below b2 X1.lt
      replace X2 := X2.below b2 X2.lt
      replace B0 := B0.trans (b2.mono hs)
      clear b2
      have q0 : w2.cell? ⟨w.heap.size + 1 + 1, k * 3, none⟩ = some u0 := (X2.cell _).trans HU.out.1
      have q1 : w2.cell? ⟨w.heap.size + 1 + 1, k * 3 + 1, none⟩ = some u1 := (X2.cell _).trans HU.out.2.1
      have q2 : w2.cell? ⟨w.heap.size + 1 + 1, k * 3 + 2, none⟩ = some u2 := (X2.cell _).trans HU.out.2.2
      have f0 := X2.frozen (k * 3)
      have f1 := X2.frozen (k * 3 + 1)
      have f2 := X2.frozen (k * 3 + 2)
      have hk0 : (0 : Int) ≤ (k : Int) := by omega
      have hk9 : (k : Int) < 9 := by omega
      have HM := Lib.hid (show tri (marO (r : Int) (c : Int) l (k : Int)) = ((marO (r : Int) (c : Int) l (k : Int)).e, (marO (r : Int) (c : Int) l (k : Int)).row, (marO (r : Int) (c : Int) l (k : Int)).col) from rfl)
      rw [HM.out] at HS
      generalize marO (r : Int) (c : Int) l (k : Int) = M at *
      go_wp2
      go_roundw
      case rel =>
        refine ⟨k + 1, by omega, by go_num, ?_, ?_, ?_, ?_⟩
        · exact ((X0.set_far _ _ (by show w.heap.size + 1 + 1 ≠ _; omega)).set_far _ _ (by show w.heap.size + 1 + 1 ≠ _; omega)).set_far _ _ (by show w.heap.size + 1 + 1 ≠ _; omega)
        · exact ((X1.set_far _ _ (by show w.heap.size + 1 + 1 ≠ _; omega)).set_far _ _ (by show w.heap.size + 1 + 1 ≠ _; omega)).set_far _ _ (by show w.heap.size + 1 + 1 ≠ _; omega)
        · rw [← HS.out, ← HFs.out]
          exact ((X2.set _ _).set _ _).set _ _
        · exact ((B0.setCell (p := ⟨w.heap.size + 1 + 1, k * 3, none⟩) (by show w.heap.size ≤ w.heap.size + 1 + 1; omega) _).setCell (p := ⟨w.heap.size + 1 + 1, k * 3 + 1, none⟩) (by show w.heap.size ≤ w.heap.size + 1 + 1; omega) _).setCell (p := ⟨w.heap.size + 1 + 1, k * 3 + 2, none⟩) (by show w.heap.size ≤ w.heap.size + 1 + 1; omega) _
      case measure => simp [intOf]; omega
    · obtain rfl : k = c := by omega
      have hlen := endsK_len (r : Int) (k : Int) l k
      generalize hE : endsK (r : Int) (k : Int) l k = E at *
      have HE := Lib.hid hE
      clear hE
      have hl27 : (flatF E).length = 27 := by rw [flatF_len, hlen]
      go_wp2_with (first
        | (refine wpList_load_row rfl 73 (.tmp 3) rfl (w.heap.size + 1 + 1) rfl 73 (flatF E).toArray (0, 0) (.array 9 50) X2 endsUnder rfl (by rw [endsInfo]; simp [hl27]) ?_)
        | (refine wpList_plain rfl fun _ hK => wp_store_row 73 (.tmp 2) (.tmp 19) rfl (w.heap.size + 1) (flatF E).toArray rfl rfl 73 zeros27.toArray X1 (by rw [endsInfo]; simp [hl27]) (by simp [hl27, zeros27]) (flatF_one E) (hK _ _ ?_))
        | fail)
      have hq : (wr.setRow (w.heap.size + 1) (flatF E).toArray).heap[w.heap.size + 1]? = some (.cells (flatF E).toArray 73 (0, 0)) := setRow_heap wr _ _ _ _ _ X1
      have B1 := below_setRow B0 (show w.heap.size ≤ w.heap.size + 1 by omega) (flatF E).toArray
      generalize wr.setRow (w.heap.size + 1) (flatF E).toArray = w9 at *
      go_wp2
      refine bodyPost_ret (v := .agg (flatF E).toArray) ?_ rfl ⟨by rw [HE.out], B1⟩
      exact results_cell_row (p := 2) (ty := 73) (by kernel_rfl) _ _ (w.heap.size + 1) 73 (flatF E).toArray (0, 0) (.array 9 50) rfl hq endsUnder rfl (by rw [endsInfo]; simp [hl27])
end Go.Proofs.YtlnekfbhpfhcpaaGreat
namespace Go.Proofs.YtlnekfbhpfhcpaaGreat
open Go.ChangeShapes Go.WideShapes Go.ChangeAt Go.RowKit Go.Joins Go.Deep
set_option linter.unusedSimpArgs false
set_option linter.unusedVariables false
set_option maxRecDepth 100000
set_option maxHeartbeats 4000000
theorem flG_row (nm : List Int) (r c : Nat) : ∀ (n row : Nat) (l : List (Int × Int)) (col : Nat) (side : Int) (way : List (List Nat)), (flG nm r c n row l col side way).e = 1 → (flG nm r c n row l col side way).row = r
  | 0, _, _, _, _, _, _ => rfl
  | n + 1, row, l, col, side, way, h => by
    rw [flG_step nm r c n row l col side way _ _ rfl rfl] at h ⊢
    split at h
    · cases h
    · next h5 =>
      rw [if_neg h5]
      split at h
      · next hin =>
        rw [if_pos hin]
        exact flG_row nm r c n _ _ _ _ _ h
      · cases h
theorem marO_row {r : Nat} {C : Int} {l : List (Int × Int)} {j : Int} (h : (marO (r : Int) C l j).e = 1) : (marO (r : Int) C l j).row = r := flG_row _ _ _ _ _ _ _ _ _ h
theorem flatF_at4 {x : List (Int × Int × Int)} {k : Nat} {a b c : Int} (hk : k < x.length) (h : x.getD k (0, 0, 0) = (a, b, c)) : (flatF x)[k * 3]? = some (.int .i64 a) ∧ (flatF x)[k * 3 + 1]? = some (.int .i64 b) ∧ (flatF x)[k * 3 + 2]? = some (.int .i64 c) := by
  have h2 := flatF_at x k hk
  rw [h] at h2
  exact h2
theorem colsO_len (R C : Int) (l : List (Int × Int)) (j : Int) : (colsO R C l j).length ≤ 1048576 := by
  unfold colsO
  split
  · next h =>
    obtain ⟨hg, _, _⟩ := okF_parts h
    obtain ⟨s1, s2, s3, s4⟩ := sizeB_iff.1 (goodB_iff.1 hg).1
    have := colsTo_le R C l j C.toNat
    omega
  · simp
theorem impl_ColumnsTo (R C : Int) (A : Option Addr) (cap : Nat) (l : List (Int × Int)) (j : Int) (w : World) (hn : l.length ≤ 1048576) (hr : Rd w w.heap.size A (flat l)) :
    Calls Tryz.prog 10 #[.agg #[.int .i64 R, .int .i64 C, .slice A l.length cap], .int .i64 j] w (PostL w (colsO R C l j) (okF R C l j)) := by
  unfold colsO
  rcases Bool.eq_false_or_eq_true (okF R C l j) with ho | ho
  · have HO := Lib.hid ho
    obtain ⟨hg, h1, h2⟩ := okF_parts ho
    obtain ⟨_, _, hpos⟩ := goodB_parts hg
    obtain ⟨b, o, rfl, hbl, hc⟩ := hr (by rw [flat_length]; omega)
    have hr' : Rd w w.heap.size (some ⟨b, o, none⟩) (flat l) := fun _ => ⟨b, o, rfl, hbl, hc⟩
    obtain ⟨r, c, rfl, rfl, hG⟩ := geo_of hg
    obtain ⟨cl, rfl⟩ : ∃ cl : Nat, j = (cl : Int) := ⟨j.toNat, by omega⟩
    have hcl : cl < c := by omega
    rw [ho, if_pos rfl, Int.toNat_natCast]
    clear ho hr hG
    obtain ⟨i0, hi, hz0, hz1, hz2⟩ := info_parts intInfo
    obtain ⟨s1, s2, s3, s4⟩ := sizeB_iff.1 (goodB_iff.1 hg).1
    go_enter Tryz.func10, Tryz.ntmps10
    obtain ⟨v0, hv0⟩ : ∃ v, v = w.alloc (.cells #[.int .i64 (r : Int), .int .i64 (c : Int), .slice (some ⟨b, o, none⟩) l.length cap] 25) := ⟨_, rfl⟩; have X0 : Whole v0 w.heap.size 25 [.int .i64 (r : Int), .int .i64 (c : Int), .slice (some ⟨b, o, none⟩) l.length cap] := (by rw [hv0]; exact heap_alloc_new w _); have hb : Below w.heap.size w v0 := (by rw [hv0]; exact (Below.refl _ _).alloc (Nat.le_refl _) _); have HV := Lib.hid hv0.symm; clear hv0; go_upto_region 1 with (fail); rewrite [HV.out]; clear HV; have X0k0 : v0.cell? ⟨w.heap.size, 0, none⟩ = some (.int .i64 (r : Int)) := (X0.cell 0).trans rfl; have X0k1 : v0.cell? ⟨w.heap.size, 1, none⟩ = some (.int .i64 (c : Int)) := (X0.cell 1).trans rfl; have X0k2 : v0.cell? ⟨w.heap.size, 2, none⟩ = some (.slice (some ⟨b, o, none⟩) l.length cap) := (X0.cell 2).trans rfl
    go_wp2_with fail
    have bl : Below v0.heap.size v0 (v0.alloc (.cells #[.int .i64 (cl : Int)] 3)) := (Below.refl _ _).alloc (Nat.le_refl _) _; have Xl : Whole (v0.alloc (.cells #[.int .i64 (cl : Int)] 3)) v0.heap.size 3 [.int .i64 (cl : Int)] := heap_alloc_new v0 _; clear X0k0 X0k1 X0k2; replace X0 := X0.below bl X0.lt; replace hb := hb.trans (bl.mono hb.size); clear bl; generalize v0.alloc (.cells #[.int .i64 (cl : Int)] 3) = v1 at *
    refine (impl_areEntries1 _ _ _ _ l _ _ _ hn ((hr'.below hb).mono hb.size) Xl).mono ?_; rintro e w1 ⟨rfl, b1⟩
    rewrite [HO.out]
    replace X0 := X0.below b1 X0.lt; replace hb := hb.trans (b1.mono hb.size); clear b1
    have X0k0 : w1.cell? ⟨w.heap.size, 0, none⟩ = some (.int .i64 (r : Int)) := (X0.cell 0).trans rfl; have X0k1 : w1.cell? ⟨w.heap.size, 1, none⟩ = some (.int .i64 (c : Int)) := (X0.cell 1).trans rfl; have X0k2 : w1.cell? ⟨w.heap.size, 2, none⟩ = some (.slice (some ⟨b, o, none⟩) l.length cap) := (X0.cell 2).trans rfl
    clear Xl
    go_upto_region 4 with (fail)
    clear X0k0 X0k1 X0k2
    obtain ⟨v4, hv4⟩ : ∃ v4, v4 = w1.alloc (.cells #[.int .i64 1, .int .i64 (r : Int), .int .i64 (cl : Int)] 50) := ⟨_, rfl⟩
    have X6 : Whole v4 w1.heap.size 50 [.int .i64 1, .int .i64 (r : Int), .int .i64 (cl : Int)] := by rw [hv4]; exact newW
    have b4 : Below w1.heap.size w1 v4 := by rw [hv4]; exact (Below.refl _ _).alloc (Nat.le_refl _) _
    rewrite [← hv4]
    clear hv4
    replace X0 := X0.below b4 X0.lt
    replace hb := hb.trans (b4.mono hb.size)
    clear b4
    have h6 := X6.lt
    generalize w1.heap.size = g6 at *
    have X0k0 : v4.cell? ⟨w.heap.size, 0, none⟩ = some (.int .i64 (r : Int)) := (X0.cell 0).trans rfl; have X0k1 : v4.cell? ⟨w.heap.size, 1, none⟩ = some (.int .i64 (c : Int)) := (X0.cell 1).trans rfl; have X0k2 : v4.cell? ⟨w.heap.size, 2, none⟩ = some (.slice (some ⟨b, o, none⟩) l.length cap) := (X0.cell 2).trans rfl
    go_wp2_with fail
    refine (impl_endsAlone r c b o cap l _ hg ((hr'.below hb).mono hb.size)).mono ?_; rintro e w5 ⟨rfl, b5⟩
    clear X0k0 X0k1 X0k2
    replace X0 := X0.below b5 X0.lt
    replace X6 := X6.below b5 X6.lt
    replace hb := hb.trans (b5.mono hb.size)
    clear b5
    have hlen := endsK_len (r : Int) (c : Int) l c
    have HG9 := Lib.hid (fun i h => endsK_getD (R := (r : Int)) (C := (c : Int)) (l := l) (k := c) (i := i) h)
    generalize endsK (r : Int) (c : Int) l c = E at *
    have hl27 : (flatF E).length = 27 := by rw [flatF_len, hlen]
    go_upto_region 5 with (first
      | (refine wpList_plain rfl fun _ hK => wp_store_row 73 (.tmp 7) (.tmp 20) rfl w5.heap.size (flatF E).toArray rfl rfl 73 zeros27.toArray (heap_alloc_new w5 _) (by rw [endsInfo]; simp [hl27]) (by simp [hl27, zeros27]) (flatF_one E) (hK _ _ ?_))
      | fail)
    generalize hv7 : World.setRow _ _ _ = v7
    have X7 : Whole v7 w5.heap.size 73 (flatF E) := by rw [← hv7]; exact setRow_heap _ _ _ _ _ _ (heap_alloc_new w5 _)
    have b7 : Below w5.heap.size w5 v7 := by rw [← hv7]; exact below_setRow ((Below.refl _ _).alloc (Nat.le_refl _) _) (Nat.le_refl _) _
    clear hv7 hl27
    replace X0 := X0.below b7 X0.lt
    replace X6 := X6.below b7 X6.lt
    replace hb := hb.trans (b7.mono hb.size)
    clear b7
    generalize w5.heap.size = g7 at *
    have h0 := heldFall
    have h1 := guardFall
    have X0k0 : v7.cell? ⟨w.heap.size, 0, none⟩ = some (.int .i64 (r : Int)) := (X0.cell 0).trans rfl; have X0k1 : v7.cell? ⟨w.heap.size, 1, none⟩ = some (.int .i64 (c : Int)) := (X0.cell 1).trans rfl; have X0k2 : v7.cell? ⟨w.heap.size, 2, none⟩ = some (.slice (some ⟨b, o, none⟩) l.length cap) := (X0.cell 2).trans rfl
    go_wp2
    clear X0k0 X0k1 X0k2
    go_loopw [8, 23] (fun v i wr => ∃ k : Nat, k ≤ c ∧ i = .int .i64 k ∧ wr.ownsRow w.heap.size 3 1 v (colsTo r c l cl k).length (ints (colsTo r c l cl k)) ∧ Whole wr w.heap.size 25 [.int .i64 (r : Int), .int .i64 (c : Int), .slice (some ⟨b, o, none⟩) l.length cap] ∧ Whole wr g6 50 [.int .i64 1, .int .i64 (r : Int), .int .i64 (cl : Int)] ∧ Whole wr g7 73 (flatF E) ∧ Below w.heap.size w wr) (fun _ i _ => c - (intOf i).toNat)
    case atStart => exact ⟨0, Nat.zero_le _, rfl, World.ownsRow_nil _ _ _ _, X0, X6, X7, hb⟩
    case round =>
      clear X0 X6 X7 hb
      obtain ⟨k, hk, rfl, hown, X0, X6, X7, hb⟩ := hrel
      by_cases hlt : k < c
      · have hs := hb.size
        have hgk := HG9.out k hlt (by omega)
        have HLe := Lib.hid (colsTo_le (r : Int) c l cl k)
        have HY := Lib.hid (fun h h' => colsTo_yes (R := (r : Int)) (C := (c : Int)) (l := l) (j := (cl : Int)) (k := k) h h')
        have HN := Lib.hid (fun h => colsTo_no (R := (r : Int)) (C := (c : Int)) (l := l) (j := (cl : Int)) (k := k) h)
        have HR := Lib.hid (marO_row (r := r) (C := (c : Int)) (l := l) (j := (k : Int)))
        obtain ⟨u0, u1, u2⟩ := flatF_at4 (a := (marO (r : Int) (c : Int) l (k : Int)).e) (b := (marO (r : Int) (c : Int) l (k : Int)).row) (c := (marO (r : Int) (c : Int) l (k : Int)).col) (show k < E.length by omega) hgk
        have q0 := (X7.cell _).trans u0
        have q1 := (X7.cell _).trans u1
        have q2 := (X7.cell _).trans u2
        clear u0 u1 u2 hgk
        generalize (marO (r : Int) (c : Int) l (k : Int)).e = x at *
        generalize (marO (r : Int) (c : Int) l (k : Int)).row = y at *
        generalize (marO (r : Int) (c : Int) l (k : Int)).col = z at *
        have p0 : wr.cell? ⟨g6, 0, none⟩ = some (.int .i64 1) := (X6.cell 0).trans rfl
        have p1 : wr.cell? ⟨g6, 1, none⟩ = some (.int .i64 (r : Int)) := (X6.cell 1).trans rfl
        have p2 : wr.cell? ⟨g6, 2, none⟩ = some (.int .i64 (cl : Int)) := (X6.cell 2).trans rfl
        have hk0 : (0 : Int) ≤ (k : Int) := by omega
        have hk9 : (k : Int) < 9 := by omega
        by_cases hx : x = 1
        · subst hx
          obtain rfl := HR.out rfl
          by_cases hy : z = (cl : Int)
          · subst hy
            have HX := Lib.hid (HY.out rfl rfl)
            clear HY HN HR
            have hle := HLe.out
            generalize hL : colsTo (r : Int) c l cl k = L at *
            go_wp2
            go_quiet (fail)
            have bq : Below wr.heap.size wr (wr.drewN nq) := below_drewN (Below.refl _ _) _
            replace hown := row_keep hown bq
            replace X0 := X0.below bq X0.lt
            replace X6 := X6.below bq X6.lt
            replace X7 := X7.below bq X7.lt
            replace hb := hb.trans (bq.mono hs)
            clear bq q0 q1 q2 p0 p1 p2
            replace hs := hb.size
            generalize wr.drewN nq = wq at *
            go_wp2_with (first | (at_builtin; refine wpList_append_own _ rfl (.tmp 31) (.tmp 33) 26 rfl w.heap.size 3 i0 _ 1 8 Tryz.underlying26 hi hz0 hz1 hz2 rfl (by omega) _ L.length (ints L) rfl (hown.alloc _) ⟨wq.heap.size, 0, none⟩ 1 1 [.int .i64 (k : Int)] rfl rfl one_cellI one_oneI (by unfold maxLen; omega) (by omega) (by simp; omega) ?_; intro v3 w3 hown3 hg3 _) | fail)
            have hb3 : Below w.heap.size w w3 := row_below (hown.alloc _) (hb.alloc (by omega) _) (by simp; omega) hg3
            have hYa := hown.alloc (.cells #[.int .i64 (k : Int)] 3)
            have X03 := (X0.alloc (.cells #[.int .i64 (k : Int)] 3)).grown hg3 (row_apart hYa (X0.alloc (.cells #[.int .i64 (k : Int)] 3)) (by decide))
            have X63 := (X6.alloc (.cells #[.int .i64 (k : Int)] 3)).grown hg3 (row_apart hYa (X6.alloc (.cells #[.int .i64 (k : Int)] 3)) (by decide))
            have X73 := (X7.alloc (.cells #[.int .i64 (k : Int)] 3)).grown hg3 (row_apart hYa (X7.alloc (.cells #[.int .i64 (k : Int)] 3)) (by decide))
            rw [← HX.out.1, ← HX.out.2] at hown3
            go_roundw
            case rel => exact ⟨k + 1, by omega, by go_num, hown3, X03, X63, X73, hb3⟩
            case measure => simp [intOf]; omega
          · have HX := Lib.hid (HN.out (fun h => hy h.2))
            clear HY HN HR
            (go_wp2; go_quiet (fail); go_wp2; (have hb9 : Below wr.heap.size wr (wr.drewN nq) := below_drewN (Below.refl _ _) _); go_roundw; (case rel => exact ⟨k + 1, by omega, by go_num, (by rw [HX.out]; exact row_keep hown hb9), X0.below hb9 X0.lt, X6.below hb9 X6.lt, X7.below hb9 X7.lt, hb.trans (hb9.mono hs)⟩); (case measure => (simp [intOf]; omega)))
        · have HX := Lib.hid (HN.out (fun h => hx h.1))
          clear HY HN HR
          by_cases hx2 : y = (r : Int)
          · subst hx2
            by_cases hx3 : z = (cl : Int)
            · subst hx3
              (go_wp2; go_quiet (fail); go_wp2; (have hb9 : Below wr.heap.size wr (wr.drewN nq) := below_drewN (Below.refl _ _) _); go_roundw; (case rel => exact ⟨k + 1, by omega, by go_num, (by rw [HX.out]; exact row_keep hown hb9), X0.below hb9 X0.lt, X6.below hb9 X6.lt, X7.below hb9 X7.lt, hb.trans (hb9.mono hs)⟩); (case measure => (simp [intOf]; omega)))
            · skip
              (go_wp2; go_quiet (fail); go_wp2; (have hb9 : Below wr.heap.size wr (wr.drewN nq) := below_drewN (Below.refl _ _) _); go_roundw; (case rel => exact ⟨k + 1, by omega, by go_num, (by rw [HX.out]; exact row_keep hown hb9), X0.below hb9 X0.lt, X6.below hb9 X6.lt, X7.below hb9 X7.lt, hb.trans (hb9.mono hs)⟩); (case measure => (simp [intOf]; omega)))
          · skip
            (go_wp2; go_quiet (fail); go_wp2; (have hb9 : Below wr.heap.size wr (wr.drewN nq) := below_drewN (Below.refl _ _) _); go_roundw; (case rel => exact ⟨k + 1, by omega, by go_num, (by rw [HX.out]; exact row_keep hown hb9), X0.below hb9 X0.lt, X6.below hb9 X6.lt, X7.below hb9 X7.lt, hb.trans (hb9.mono hs)⟩); (case measure => (simp [intOf]; omega)))
      · obtain rfl : k = c := by omega
        obtain ⟨A7, cap7, rfl⟩ := slice_of_row hown
        have ho := own_of_row hown
        clear hlt
        go_wp2
        go_returns
        exact PostL.mk ho.1 ho.2 hb
  · have HO := Lib.hid ho
    rw [ho]
    clear ho
    go_enter Tryz.func10, Tryz.ntmps10
    obtain ⟨v0, hv0⟩ : ∃ v, v = w.alloc (.cells #[.int .i64 R, .int .i64 C, .slice A l.length cap] 25) := ⟨_, rfl⟩; have X0 : Whole v0 w.heap.size 25 [.int .i64 R, .int .i64 C, .slice A l.length cap] := (by rw [hv0]; exact heap_alloc_new w _); have hb : Below w.heap.size w v0 := (by rw [hv0]; exact (Below.refl _ _).alloc (Nat.le_refl _) _); have HV := Lib.hid hv0.symm; clear hv0; go_upto_region 1 with (fail); rewrite [HV.out]; clear HV; have X0k0 : v0.cell? ⟨w.heap.size, 0, none⟩ = some (.int .i64 R) := (X0.cell 0).trans rfl; have X0k1 : v0.cell? ⟨w.heap.size, 1, none⟩ = some (.int .i64 C) := (X0.cell 1).trans rfl; have X0k2 : v0.cell? ⟨w.heap.size, 2, none⟩ = some (.slice A l.length cap) := (X0.cell 2).trans rfl
    go_wp2_with fail
    have bl : Below v0.heap.size v0 (v0.alloc (.cells #[.int .i64 j] 3)) := (Below.refl _ _).alloc (Nat.le_refl _) _; have Xl : Whole (v0.alloc (.cells #[.int .i64 j] 3)) v0.heap.size 3 [.int .i64 j] := heap_alloc_new v0 _; clear X0k0 X0k1 X0k2; replace X0 := X0.below bl X0.lt; replace hb := hb.trans (bl.mono hb.size); clear bl; generalize v0.alloc (.cells #[.int .i64 j] 3) = v1 at *
    refine (impl_areEntries1 _ _ _ _ l _ _ _ hn ((hr.below hb).mono hb.size) Xl).mono ?_; rintro e w1 ⟨rfl, b1⟩
    rewrite [HO.out]
    replace X0 := X0.below b1 X0.lt; replace hb := hb.trans (b1.mono hb.size); clear b1
    have hbs := hb.size
    go_wp2
    go_returns
    exact PostL.none_ (by (repeat' (first | (with_reducible exact Below.refl _ _) | (with_reducible assumption) | (with_reducible refine Below.alloc ?_ ?_ _) | (with_reducible refine Below.setCell ?_ ?_ _) | (with_reducible refine Below.drew ?_) | (with_reducible refine below_drewN ?_ _) | (with_reducible refine Below.trans ?_ (Below.mono (by assumption) ?_)) | (with_reducible exact Nat.le_refl _) | (simp; done) | omega | (simp at *; omega))))
end Go.Proofs.YtlnekfbhpfhcpaaGreat
