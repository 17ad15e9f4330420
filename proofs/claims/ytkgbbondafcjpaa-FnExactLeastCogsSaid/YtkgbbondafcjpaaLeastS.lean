/- LeastCogs, the model's. -/
import Derived.Test.YtkgbbondafcjpaaLeastIW
namespace Go.Proofs.Ytkgbbondafcjpaa
open Go.ChangeShapes Go.WideShapes Go.ChangeAt Go.RowKit Go.Joins Go.Deep
set_option linter.unusedSimpArgs false
set_option linter.unusedVariables false
set_option maxRecDepth 100000
set_option maxHeartbeats 8000000
theorem ints_getD {ls : List Int} {x : Nat} (h : x < ls.length) : (ints ls)[x]? = some (.int .i64 (ls.getD x 0)) := by
  rw [ints_at ls x h, List.getD_eq_getElem?_getD, List.getElem?_eq_getElem h]
  rfl
theorem ints_set {ls : List Int} {x : Nat} {v : Int} : (ints ls).set x (.int .i64 v) = ints (ls.set x v) := by
  unfold ints
  rw [List.map_set]
theorem fill_all (n : Nat) : fillM n n = ints (List.replicate n (-1)) := by
  unfold fillM ints
  simp
theorem rst_yes {J E : Nat → Bool} {i y : Nat} {ls : List Int} (h : (E y || J y) = true) (h2 : ls.getD y 0 < 0 ∨ cst E i ls y < ls.getD y 0) : rst J E i ls y = ls.set y (cst E i ls y) := by unfold rst; rw [if_pos ⟨h, h2⟩]
theorem rst_no {J E : Nat → Bool} {i y : Nat} {ls : List Int} (h : (E y || J y) = false ∨ ¬ (ls.getD y 0 < 0 ∨ cst E i ls y < ls.getD y 0)) : rst J E i ls y = ls := by
  unfold rst
  rw [if_neg]
  rintro ⟨h1, h2⟩
  rcases h with h | h
  · rw [h] at h1; cases h1
  · exact h h2
theorem fold_take {J E : Nat → Bool} {i p : Nat} {nl : List Nat} {ls : List Int} (h : p < nl.length) : (nl.take (p + 1)).foldl (rst J E i) ls = rst J E i ((nl.take p).foldl (rst J E i) ls) nl[p] := by
  rw [List.take_succ_eq_append_getElem h, List.foldl_append]
  rfl
theorem spec_LeastCogs_yes (r c a tt : Nat) (A : Option Addr) (cap : Nat) (l : List (Int × Int)) (i j i2 j2 : Int) (w : World) (hn : l.length ≤ 1048576) (hr : Rd w w.heap.size A (flat l)) (hG : Geo r c l.length)
    (h1 : okJ (r : Int) (c : Int) l i j = true) (h2 : okJ (r : Int) (c : Int) l i2 j2 = true) (ha : atI (c : Int) i j = a) (hb2 : atI (c : Int) i2 j2 = tt) (m1 : IntKind.i64.wrap (i * (c : Int)) = i * (c : Int)) (m2 : IntKind.i64.wrap (i * (c : Int) + j) = (atI (c : Int) i j : Int)) (m3 : IntKind.i64.wrap (i2 * (c : Int)) = i2 * (c : Int)) (m4 : IntKind.i64.wrap (i2 * (c : Int) + j2) = (atI (c : Int) i2 j2 : Int)) (hk1 : a < l.length) (hk2 : tt < l.length) :
    Calls Try.prog 32 #[.agg #[.int .i64 (r : Int), .int .i64 (c : Int), .slice A l.length cap], .int .i64 i, .int .i64 j, .int .i64 i2, .int .i64 j2] w fun e w' => e = .returned (.tuple #[.int .i64 (if 0 ≤ lcF (c : Int) l a tt then lcF (c : Int) l a tt else 0), .bool (decide (0 ≤ lcF (c : Int) l a tt))]) ∧ Below w.heap.size w w' := by
  have n90 := hG.n90
  have H := lev_of hG hk1
  obtain ⟨b, o, rfl, hbl, hc⟩ := hr (by rw [flat_length]; omega)
  have hr' : Rd w w.heap.size (some ⟨b, o, none⟩) (flat l) := fun _ => ⟨b, o, rfl, hbl, hc⟩
  have H1 := Lib.hid h1
  have H2 := Lib.hid h2
  have HG := Lib.hid hG
  have hmk := fun w => run_make_ints l.length (by omega) w
  have HF := Lib.hid (show lcF (c : Int) l a tt = (rit (J l) (emp l) (nearL c l.length) l.length a l.length).getD tt 0 by unfold lcF; rw [Int.toNat_natCast])
  rw [ha] at m2
  rw [hb2] at m4
  have HI := Lib.hid (fun i hi s y hy h => inner_ok H (i := i) hi s y hy h)
  have HIB := Lib.hid (fun i b hi m s hm h1 h2 h3 h4 => inner_bnd H (i := i) (b := b) hi m s hm h1 h2 h3 h4)
  have HRB := Lib.hid (fun t => rit_bnd H t)
  have HCB := Lib.hid (fun b s hl h i hi => rcs_bnd H (b := b) (s := s) hl h i hi)
  have HNe := Lib.hid hG.near
  clear h1 h2 hr H
  generalize lcF (c : Int) l a tt = F at *
  go_enter Try.func32, Try.ntmps32
  obtain ⟨v0, hv0⟩ : ∃ v, v = w.alloc (.cells #[.int .i64 (r : Int), .int .i64 (c : Int), .slice (some ⟨b, o, none⟩) l.length cap] 31) := ⟨_, rfl⟩
  have X0 : Whole v0 w.heap.size 31 [.int .i64 (r : Int), .int .i64 (c : Int), .slice (some ⟨b, o, none⟩) l.length cap] := by rw [hv0]; exact heap_alloc_new w _
  have hb : Below w.heap.size w v0 := by rw [hv0]; exact (Below.refl _ _).alloc (Nat.le_refl _) _
  have HV := Lib.hid hv0.symm
  clear hv0
  go_upto_region 1 with (fail)
  rewrite [HV.out]
  clear HV
  have X0k0 : v0.cell? ⟨w.heap.size, 0, none⟩ = some (.int .i64 (r : Int)) := (X0.cell 0).trans rfl; have X0k1 : v0.cell? ⟨w.heap.size, 1, none⟩ = some (.int .i64 (c : Int)) := (X0.cell 1).trans rfl; have X0k2 : v0.cell? ⟨w.heap.size, 2, none⟩ = some (.slice (some ⟨b, o, none⟩) l.length cap) := (X0.cell 2).trans rfl
  go_wp2_with fail
  refine (spec_ggHas _ _ _ _ l _ _ _ hn ((hr'.below hb).mono hb.size)).mono ?_; rintro e w1 ⟨rfl, b1⟩
  rewrite [H1.out]
  clear X0k0 X0k1 X0k2
  replace X0 := X0.below b1 X0.lt
  replace hb := hb.trans (b1.mono hb.size)
  clear b1
  have X0k0 : w1.cell? ⟨w.heap.size, 0, none⟩ = some (.int .i64 (r : Int)) := (X0.cell 0).trans rfl; have X0k1 : w1.cell? ⟨w.heap.size, 1, none⟩ = some (.int .i64 (c : Int)) := (X0.cell 1).trans rfl; have X0k2 : w1.cell? ⟨w.heap.size, 2, none⟩ = some (.slice (some ⟨b, o, none⟩) l.length cap) := (X0.cell 2).trans rfl
  go_wp2_with fail
  refine (spec_ggHas _ _ _ _ l _ _ _ hn ((hr'.below hb).mono hb.size)).mono ?_; rintro e w2 ⟨rfl, b2⟩
  rewrite [H2.out]
  clear X0k0 X0k1 X0k2
  replace X0 := X0.below b2 X0.lt
  replace hb := hb.trans (b2.mono hb.size)
  clear b2
  have X0k0 : w2.cell? ⟨w.heap.size, 0, none⟩ = some (.int .i64 (r : Int)) := (X0.cell 0).trans rfl; have X0k1 : w2.cell? ⟨w.heap.size, 1, none⟩ = some (.int .i64 (c : Int)) := (X0.cell 1).trans rfl; have X0k2 : w2.cell? ⟨w.heap.size, 2, none⟩ = some (.slice (some ⟨b, o, none⟩) l.length cap) := (X0.cell 2).trans rfl
  go_upto_region 4 with (fail)
  clear X0k0 X0k1 X0k2
  have X1 : Whole (w2.alloc (.cells (zrow l.length).toArray 3)) w2.heap.size 3 (fillM l.length 0) := heap_alloc_new w2 _
  have bd : Below w2.heap.size w2 (w2.alloc (.cells (zrow l.length).toArray 3)) := (Below.refl _ _).alloc (Nat.le_refl _) _
  have hg0 : w.heap.size < w2.heap.size := X0.lt
  replace X0 := X0.below bd X0.lt
  replace hb := hb.trans (bd.mono hb.size)
  clear bd hmk
  generalize w2.alloc (.cells (zrow l.length).toArray 3) = w3 at *
  generalize w2.heap.size = g at *
  go_wp2_with fail
  go_loopw [37] (fun j wr => ∃ k : Nat, j = .int .i64 k ∧ k ≤ l.length ∧ Whole wr w.heap.size 31 [.int .i64 (r : Int), .int .i64 (c : Int), .slice (some ⟨b, o, none⟩) l.length cap] ∧ Whole wr g 3 (fillM l.length k) ∧ Below w.heap.size w wr) (fun j _ => l.length - (intOf j).toNat)
  case atStart => exact ⟨0, rfl, Nat.zero_le _, X0, X1, hb⟩
  case round =>
    clear X0 X1 hb
    obtain ⟨k, rfl, hk, X0, X1, hb⟩ := hrel
    by_cases hlt : k < l.length
    · have hk1 := (X1.cell k).trans (fill_at hlt)
      have hk2 := X1.frozen k
      have HS := Lib.hid (fill_set hlt)
      go_wp2
      go_roundw
      case rel => exact ⟨k + 1, by go_num, by omega, X0.set_far _ _ (show g ≠ w.heap.size by omega), by rw [← HS.out]; exact X1.set _ _, hb.setCell (p := ⟨g, k, none⟩) (by show w.heap.size ≤ g; omega) _⟩
      case measure => simp [intOf]; omega
    · obtain rfl : k = l.length := by omega
      rw [fill_all] at X1
      have q1 : wr.cell? ⟨g, a, none⟩ = some (.int .i64 (-1)) := (X1.cell a).trans (by rw [ints_at _ a (by rw [List.length_replicate]; exact hk1)]; simp)
      have q2 := X1.frozen a
      have X1' := X1.set a (.int .i64 0)
      rw [ints_set] at X1'
      have X1'' : Whole (wr.setCell ⟨g, a, none⟩ (.int .i64 0)) g 3 (ints (rit (J l) (emp l) (nearL c l.length) l.length a 0)) := X1'
      have X0' := X0.set_far ⟨g, a, none⟩ (.int .i64 0) (show g ≠ w.heap.size by omega)
      have hb' := hb.setCell (p := ⟨g, a, none⟩) (by show w.heap.size ≤ g; omega) (.int .i64 0)
      clear X1'
      have X0k0 : wr.cell? ⟨w.heap.size, 0, none⟩ = some (.int .i64 (r : Int)) := (X0.cell 0).trans rfl; have X0k1 : wr.cell? ⟨w.heap.size, 1, none⟩ = some (.int .i64 (c : Int)) := (X0.cell 1).trans rfl; have X0k2 : wr.cell? ⟨w.heap.size, 2, none⟩ = some (.slice (some ⟨b, o, none⟩) l.length cap) := (X0.cell 2).trans rfl
      go_upto_region 10 with (fail)
      clear X0k0 X0k1 X0k2
      generalize wr.setCell ⟨g, a, none⟩ (.int .i64 0) = w5 at *
      clear X0 X1 hb q1 q2 hk hlt
      have X0'k0 : w5.cell? ⟨w.heap.size, 0, none⟩ = some (.int .i64 (r : Int)) := (X0'.cell 0).trans rfl; have X0'k1 : w5.cell? ⟨w.heap.size, 1, none⟩ = some (.int .i64 (c : Int)) := (X0'.cell 1).trans rfl; have X0'k2 : w5.cell? ⟨w.heap.size, 2, none⟩ = some (.slice (some ⟨b, o, none⟩) l.length cap) := (X0'.cell 2).trans rfl
      go_wp2_with fail
      clear X0'k0 X0'k1 X0'k2
      go_loopw [55] (fun j wr => ∃ t : Nat, j = .int .i64 t ∧ t ≤ l.length ∧ Whole wr w.heap.size 31 [.int .i64 (r : Int), .int .i64 (c : Int), .slice (some ⟨b, o, none⟩) l.length cap] ∧ Whole wr g 3 (ints (rit (J l) (emp l) (nearL c l.length) l.length a t)) ∧ Below w.heap.size w wr) (fun j _ => l.length - (intOf j).toNat)
      case atStart => exact ⟨0, rfl, Nat.zero_le _, X0', X1'', hb'⟩
      case round =>
        clear X0' X1'' hb'
        obtain ⟨t, rfl, ht, X0, X1, hb⟩ := hrel
        by_cases htl : t < l.length
        · have hln := rit_len (J := J l) (E := emp l) (near := nearL c l.length) (n := l.length) (src := a) t
          have hrb := HRB.out t
          have htn : t * l.length ≤ 8100 := Nat.le_trans (Nat.mul_le_mul (show t ≤ 90 by omega) n90) (by omega)
          have HR := Lib.hid (show rit (J l) (emp l) (nearL c l.length) l.length a (t + 1) = rcs (J l) (emp l) (nearL c l.length) (rit (J l) (emp l) (nearL c l.length) l.length a t) l.length from rfl)
          generalize rit (J l) (emp l) (nearL c l.length) l.length a t = L0 at *
          have X0k0 : wr.cell? ⟨w.heap.size, 0, none⟩ = some (.int .i64 (r : Int)) := (X0.cell 0).trans rfl; have X0k1 : wr.cell? ⟨w.heap.size, 1, none⟩ = some (.int .i64 (c : Int)) := (X0.cell 1).trans rfl; have X0k2 : wr.cell? ⟨w.heap.size, 2, none⟩ = some (.slice (some ⟨b, o, none⟩) l.length cap) := (X0.cell 2).trans rfl
          go_wp2_with fail
          clear X0k0 X0k1 X0k2
          go_loopw [60] (fun j wr => ∃ k : Nat, j = .int .i64 k ∧ k ≤ l.length ∧ Whole wr w.heap.size 31 [.int .i64 (r : Int), .int .i64 (c : Int), .slice (some ⟨b, o, none⟩) l.length cap] ∧ Whole wr g 3 (ints (rcs (J l) (emp l) (nearL c l.length) L0 k)) ∧ Below w.heap.size w wr) (fun j _ => l.length - (intOf j).toNat)
          case atStart => exact ⟨0, rfl, Nat.zero_le _, X0, X1, hb⟩
          case round =>
            clear X0 X1 hb
            obtain ⟨k, rfl, hk, X0, X1, hb⟩ := hrel
            by_cases hlt : k < l.length
            · have hL := rcs_len (J := J l) (E := emp l) (near := nearL c l.length) (ls := L0) (i := k)
              rw [hln] at hL
              have hB := HCB.out _ _ hln hrb k (by omega)
              have HS := Lib.hid (rcs_succ (J := J l) (E := emp l) (near := nearL c l.length) (ls := L0) (i := k))
              generalize rcs (J l) (emp l) (nearL c l.length) L0 k = L1 at *
              have hck : wr.cell? ⟨g, k, none⟩ = some (.int .i64 (L1.getD k 0)) := (X1.cell k).trans (ints_getD (by omega))
              have hBk := hB k
              by_cases hneg : L1.getD k 0 < 0
              · have HE := Lib.hid (show rcell (J l) (emp l) (nearL c l.length) L1 k = L1 by unfold rcell; rw [if_pos hneg])
                generalize L1.getD k 0 = u at *
                go_wp2_with fail
                go_roundw
                case rel => exact ⟨k + 1, by go_num, by omega, X0, by rw [HS.out, HE.out]; exact X1, hb⟩
                case measure => simp [intOf]; omega
              · have HE := Lib.hid (show rcell (J l) (emp l) (nearL c l.length) L1 k = (nearL c l.length k).foldl (rst (J l) (emp l) k) L1 by unfold rcell; rw [if_neg hneg])
                have HX := Lib.hid (HNe.out k hlt)
                have hnn : 0 ≤ L1.getD k 0 := by omega
                have HIp := Lib.hid (fun p => HIB.out k _ hlt ((nearL c l.length k).take p) L1 (fun y hy => List.mem_of_mem_take hy) hL hnn hBk (hB.mono (by omega)))
                generalize L1.getD k 0 = u at *
                have X0k0 : wr.cell? ⟨w.heap.size, 0, none⟩ = some (.int .i64 (r : Int)) := (X0.cell 0).trans rfl; have X0k1 : wr.cell? ⟨w.heap.size, 1, none⟩ = some (.int .i64 (c : Int)) := (X0.cell 1).trans rfl; have X0k2 : wr.cell? ⟨w.heap.size, 2, none⟩ = some (.slice (some ⟨b, o, none⟩) l.length cap) := (X0.cell 2).trans rfl
                go_wp2_with fail
                refine (spec_ggNear r c k (some ⟨b, o, none⟩) l.length cap _ HG.out.r1 HG.out.r2 HG.out.c1 HG.out.c2 HG.out.cells hlt n90).mono ?_; rintro e w6 hP
                obtain ⟨A3, c3, rfl, o3, n3, b3⟩ := hP.value
                clear hP
                clear X0k0 X0k1 X0k2
                have hg1 := X1.lt
                have hs := hb.size
                have n3' : ∀ a, A3 = some a → g < a.block := fun a ha => by have := n3 a ha; omega
                replace X0 := X0.below b3 X0.lt
                replace X1 := X1.below b3 X1.lt
                replace hb := hb.trans (b3.mono hs)
                clear b3 n3 hs hck hBk hnn hneg hB
                rewrite [nI_length]
                have hne := near_len c l.length k
                generalize hNL : nearL c l.length k = nl at *
                have X1' : Whole w6 g 3 (ints ((nl.take 0).foldl (rst (J l) (emp l) k) L1)) := X1
                clear X1
                go_wp2_with fail
                go_loopw [72] (fun j wr => ∃ p : Nat, j = .int .i64 p ∧ p ≤ nl.length ∧ Whole wr w.heap.size 31 [.int .i64 (r : Int), .int .i64 (c : Int), .slice (some ⟨b, o, none⟩) l.length cap] ∧ Whole wr g 3 (ints ((nl.take p).foldl (rst (J l) (emp l) k) L1)) ∧ Own wr A3 3 (ints (nI nl)) ∧ Below w.heap.size w wr) (fun j _ => nl.length - (intOf j).toNat)
                case atStart => exact ⟨0, rfl, Nat.zero_le _, X0, X1', o3, hb⟩
                case round =>
                  clear X0 X1' o3 hb
                  obtain ⟨p, rfl, hp, X0, X1, o3, hb⟩ := hrel
                  by_cases hpl : p < nl.length
                  · obtain ⟨hcl, hc0', hcb, hcB⟩ := HIp.out p
                    have HT := Lib.hid (fold_take (J := J l) (E := emp l) (i := k) (ls := L1) hpl)
                    have hyn := HX.out _ (List.getElem_mem hpl)
                    obtain ⟨g3, rest3, rfl, hw3⟩ := o3 (by rw [ints_length, nI_length]; omega)
                    have h3 : g < g3 := n3' _ rfl
                    have hy := row_num hw3 hpl
                    generalize nl[p] = y at *
                    generalize (nl.take p).foldl (rst (J l) (emp l) k) L1 = cur at *
                    obtain ⟨hd0, hd1⟩ := cell_at2 hb hbl hc hyn
                    have hJ := J_at hyn
                    have hE := emp_at hyn
                    have hck : wr.cell? ⟨g, k, none⟩ = some (.int .i64 (cur.getD k 0)) := (X1.cell k).trans (ints_getD (by omega))
                    have hcy : wr.cell? ⟨g, y, none⟩ = some (.int .i64 (cur.getD y 0)) := (X1.cell y).trans (ints_getD (by omega))
                    have hfy := X1.frozen y
                    have hyb := hcB y
                    have hwr : IntKind.i64.wrap (cur.getD k 0 + 1) = cur.getD k 0 + 1 := IntWalk.i64_in _ (by omega)
                    have X1s := fun v => X1.set y (.int .i64 v)
                    have HSt := Lib.hid (fun v => (show Whole (wr.setCell ⟨g, y, none⟩ (.int .i64 v)) g 3 (ints (cur.set y v)) by rw [← ints_set]; exact X1s v))
                    have HX0 := Lib.hid (fun v => X0.set_far ⟨g, y, none⟩ (.int .i64 v) (show g ≠ w.heap.size by omega))
                    have HX3 := Lib.hid (fun v => hw3.set_far ⟨g, y, none⟩ (.int .i64 v) (show g ≠ g3 by omega))
                    have HXb := Lib.hid (fun v => hb.setCell (p := ⟨g, y, none⟩) (by show w.heap.size ≤ g; omega) (.int .i64 v))
                    have HYes := Lib.hid (fun (h1 : (emp l y || J l y) = true) (h2 : cur.getD y 0 < 0 ∨ cst (emp l) k cur y < cur.getD y 0) => rst_yes (i := k) h1 h2)
                    have HNo := Lib.hid (fun (h1 : (emp l y || J l y) = false ∨ ¬ (cur.getD y 0 < 0 ∨ cst (emp l) k cur y < cur.getD y 0)) => rst_no (i := k) h1)
                    have HC1 := Lib.hid (fun (h : emp l y = true) => cst_yes (E := emp l) (i := k) (ls := cur) h)
                    have HC0 := Lib.hid (fun (h : emp l y = false) => cst_no (E := emp l) (i := k) (ls := cur) h)
                    clear X1s hcB hc0' hcl
                    generalize l[y].1 = x at *
                    generalize l[y].2 = st at *
                    generalize cur.getD k 0 = u at *
                    generalize cur.getD y 0 = uy at *
                    have X0k0 : wr.cell? ⟨w.heap.size, 0, none⟩ = some (.int .i64 (r : Int)) := (X0.cell 0).trans rfl; have X0k1 : wr.cell? ⟨w.heap.size, 1, none⟩ = some (.int .i64 (c : Int)) := (X0.cell 1).trans rfl; have X0k2 : wr.cell? ⟨w.heap.size, 2, none⟩ = some (.slice (some ⟨b, o, none⟩) l.length cap) := (X0.cell 2).trans rfl
                    by_cases hx0 : x = 0
                    · have hEt : emp l y = true := by rw [hE]; simpa using hx0
                      have hc' := HC1.out hEt
                      rw [hc'] at HYes HNo
                      clear HC1 HC0 hJ hE hc'
                      by_cases hlow : uy < 0
                      · have HE2 := Lib.hid (HYes.out (by rw [hEt]; rfl) (.inl hlow))
                        clear HYes HNo hEt
                        go_wp2
                        go_roundw
                        case rel => exact ⟨p + 1, by go_num, by omega, HX0.out _, by rw [HT.out, HE2.out]; exact HSt.out _, fun _ => ⟨g3, rest3, rfl, HX3.out _⟩, HXb.out _⟩
                        case measure => simp [intOf]; omega
                      · by_cases hless : u + 1 < uy
                        · have HE2 := Lib.hid (HYes.out (by rw [hEt]; rfl) (.inr hless))
                          clear HYes HNo hEt
                          go_wp2
                          go_roundw
                          case rel => exact ⟨p + 1, by go_num, by omega, HX0.out _, by rw [HT.out, HE2.out]; exact HSt.out _, fun _ => ⟨g3, rest3, rfl, HX3.out _⟩, HXb.out _⟩
                          case measure => simp [intOf]; omega
                        · have HE2 := Lib.hid (HNo.out (.inr (fun q => q.elim hlow hless)))
                          clear HYes HNo hEt
                          go_wp2
                          go_roundw
                          case rel => exact ⟨p + 1, by go_num, by omega, X0, by rw [HT.out, HE2.out]; exact X1, fun _ => ⟨g3, rest3, rfl, hw3⟩, hb⟩
                          case measure => simp [intOf]; omega
                    · have hEf : emp l y = false := by rw [hE]; simpa using hx0
                      have hc' := HC0.out hEf
                      rw [hc'] at HYes HNo
                      clear HC1 HC0 hE hc'
                      have hs := hb.size
                      go_wp2_with fail
                      refine (spec_ggGear _ _ _).mono ?_; rintro e w7 ⟨rfl, b7⟩
                      have X07 := X0.below b7 X0.lt
                      have X17 := X1.below b7 X1.lt
                      have hw37 := hw3.below b7 hw3.lt
                      have hb7 := hb.trans (b7.mono hs)
                      have hcy7 : w7.cell? ⟨g, y, none⟩ = some (.int .i64 uy) := (b7.cell (p := ⟨g, y, none⟩) X1.lt).trans hcy
                      have hfy7 := X17.frozen y
                      have X1s := fun v => X17.set y (.int .i64 v)
                      have HSt7 := Lib.hid (fun v => (show Whole (w7.setCell ⟨g, y, none⟩ (.int .i64 v)) g 3 (ints (cur.set y v)) by rw [← ints_set]; exact X1s v))
                      have HX07 := Lib.hid (fun v => X07.set_far ⟨g, y, none⟩ (.int .i64 v) (show g ≠ w.heap.size by omega))
                      have HX37 := Lib.hid (fun v => hw37.set_far ⟨g, y, none⟩ (.int .i64 v) (show g ≠ g3 by omega))
                      have HXb7 := Lib.hid (fun v => hb7.setCell (p := ⟨g, y, none⟩) (by show w.heap.size ≤ g; omega) (.int .i64 v))
                      clear X0k0 X0k1 X0k2
                      clear X1s b7 X0 X1 hw3 hb hs hcy hfy HSt HX0 HX3 HXb hck hd0 hd1 hy
                      rcases Bool.eq_false_or_eq_true (joins x) with hj | hj
                      · rewrite [hj]
                        rw [hj] at hJ
                        by_cases hlow : uy < 0
                        · have HE2 := Lib.hid (HYes.out (by rw [hJ, Bool.or_true]) (.inl hlow))
                          clear HYes HNo hEf hJ hj
                          go_wp2
                          go_roundw
                          case rel => exact ⟨p + 1, by go_num, by omega, HX07.out _, by rw [HT.out, HE2.out]; exact HSt7.out _, fun _ => ⟨g3, rest3, rfl, HX37.out _⟩, HXb7.out _⟩
                          case measure => simp [intOf]; omega
                        · by_cases hless : u < uy
                          · have HE2 := Lib.hid (HYes.out (by rw [hJ, Bool.or_true]) (.inr hless))
                            clear HYes HNo hEf hJ hj
                            go_wp2
                            go_roundw
                            case rel => exact ⟨p + 1, by go_num, by omega, HX07.out _, by rw [HT.out, HE2.out]; exact HSt7.out _, fun _ => ⟨g3, rest3, rfl, HX37.out _⟩, HXb7.out _⟩
                            case measure => simp [intOf]; omega
                          · have HE2 := Lib.hid (HNo.out (.inr (fun q => q.elim hlow hless)))
                            clear HYes HNo hEf hJ hj
                            go_wp2
                            go_roundw
                            case rel => exact ⟨p + 1, by go_num, by omega, X07, by rw [HT.out, HE2.out]; exact X17, fun _ => ⟨g3, rest3, rfl, hw37⟩, hb7⟩
                            case measure => simp [intOf]; omega
                      · rewrite [hj]
                        rw [hj] at hJ
                        have HE2 := Lib.hid (HNo.out (.inl (by rw [hEf, hJ]; rfl)))
                        clear HYes HNo hEf hJ hj
                        go_wp2
                        go_roundw
                        case rel => exact ⟨p + 1, by go_num, by omega, X07, by rw [HT.out, HE2.out]; exact X17, fun _ => ⟨g3, rest3, rfl, hw37⟩, hb7⟩
                        case measure => simp [intOf]; omega
                  · obtain rfl : p = nl.length := by omega
                    rw [List.take_length] at X1
                    go_wp2
                    go_roundw
                    case rel => exact ⟨k + 1, by go_num, by omega, X0, by rw [HS.out, HE.out]; exact X1, hb⟩
                    case measure => simp [intOf]; omega
            · obtain rfl : k = l.length := by omega
              rw [← HR.out] at X1
              go_wp2
              go_roundw
              case rel => exact ⟨t + 1, by go_num, by omega, X0, X1, hb⟩
              case measure => simp [intOf]; omega
        · obtain rfl : t = l.length := by omega
          have hln := rit_len (J := J l) (E := emp l) (near := nearL c l.length) (n := l.length) (src := a) l.length
          have hct : wr.cell? ⟨g, tt, none⟩ = some (.int .i64 F) := by rw [HF.out]; exact (X1.cell tt).trans (ints_getD (by omega))
          have X0k0 : wr.cell? ⟨w.heap.size, 0, none⟩ = some (.int .i64 (r : Int)) := (X0.cell 0).trans rfl; have X0k1 : wr.cell? ⟨w.heap.size, 1, none⟩ = some (.int .i64 (c : Int)) := (X0.cell 1).trans rfl; have X0k2 : wr.cell? ⟨w.heap.size, 2, none⟩ = some (.slice (some ⟨b, o, none⟩) l.length cap) := (X0.cell 2).trans rfl
          clear HF
          by_cases hF : 0 ≤ F
          · have hd : decide (0 ≤ F) = true := decide_eq_true hF
            have HD := Lib.hid hd
            have HI2 := Lib.hid (show (if 0 ≤ F then F else 0) = F from if_pos hF)
            clear hd
            go_wp2
            go_returns
            exact ⟨ret_ib (by first | rfl | rw [HI2.out] | omega) (by first | rfl | rw [HD.out] | (simp; omega)), hb⟩
          · have hd : decide (0 ≤ F) = false := decide_eq_false hF
            have HD := Lib.hid hd
            have HI2 := Lib.hid (show (if 0 ≤ F then F else 0) = 0 from if_neg hF)
            clear hd
            go_wp2
            go_returns
            exact ⟨ret_ib (by first | rfl | rw [HI2.out] | omega) (by first | rfl | rw [HD.out] | (simp; omega)), hb⟩
end Go.Proofs.Ytkgbbondafcjpaa
