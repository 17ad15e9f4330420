/- The model's groups, walked. -/
import Derived.Test.YtdpgbgniejlilaaGs
namespace Go.Proofs.Ytdpgbgniejlilaa
open Go.ChangeShapes Go.WideShapes Go.ChangeAt Go.RowKit Go.Joins Go.Deep
set_option linter.unusedSimpArgs false
set_option linter.unusedVariables false
set_option maxRecDepth 100000
set_option maxHeartbeats 4000000
def numL (c : Nat) (l : List (Int × Int)) : List Int := numV l.length (gat (J l) (nearL c l.length) l.length l.length)
def fillM (n k : Nat) : List Value := List.replicate k (.int .i64 (-1)) ++ List.replicate (n - k) (.int .i64 0)
theorem fill_at {n k : Nat} (h : k < n) : (fillM n k)[k]? = some (.int .i64 0) := by
  unfold fillM
  rw [List.getElem?_append_right (by simp), List.length_replicate, Nat.sub_self, List.getElem?_replicate, if_pos (by omega)]
theorem fill_set {n k : Nat} (h : k < n) : (fillM n k).set k (.int .i64 (-1)) = fillM n (k + 1) := by
  apply List.ext_getElem?
  intro j
  unfold fillM
  rw [List.getElem?_set]
  simp only [List.getElem?_append, List.getElem?_replicate, List.length_append, List.length_replicate]
  by_cases e : k = j
  · subst e
    simp
    omega
  · rw [if_neg e]
    by_cases h1 : j < k
    · simp [h1, show j < k + 1 by omega]
    · have h2 : ¬ j < k + 1 := by omega
      simp only [h1, h2, if_false]
      by_cases h3 : j < n
      · rw [if_pos (by omega), if_pos (by omega)]
      · rw [if_neg (by omega), if_neg (by omega)]
theorem spec_ggGroups (r c : Nat) (A : Option Addr) (cap : Nat) (l : List (Int × Int)) (w : World) (hG : Geo r c l.length) (hr : Rd w w.heap.size A (flat l)) :
    Calls Try.prog 34 #[.agg #[.int .i64 (r : Int), .int .i64 (c : Int), .slice A l.length cap]] w (PostI w (numL c l)) := by
  have n90 := hG.n90
  have hpos : 0 < l.length := by
    have h1 := hG.r1
    have h2 := hG.c1
    have h3 := hG.cells
    have := Nat.mul_le_mul h1 h2
    omega
  obtain ⟨b, o, rfl, hbl, hc⟩ := hr (by rw [flat_length]; omega)
  clear hr
  have hmk := fun w => run_make_ints l.length (by omega) w
  go_enter Try.func34, Try.ntmps34
  obtain ⟨v0, hv0⟩ : ∃ v, v = w.alloc (.cells #[.int .i64 (r : Int), .int .i64 (c : Int), .slice (some ⟨b, o, none⟩) l.length cap] 30) := ⟨_, rfl⟩
  have X0 : Whole v0 w.heap.size 30 [.int .i64 (r : Int), .int .i64 (c : Int), .slice (some ⟨b, o, none⟩) l.length cap] := by rw [hv0]; exact heap_alloc_new w _
  have hb : Below w.heap.size w v0 := by rw [hv0]; exact (Below.refl _ _).alloc (Nat.le_refl _) _
  have HZ := Lib.hid (show v0.heap.size = w.heap.size + 1 by rw [hv0, World.size_alloc])
  have HV := Lib.hid hv0.symm
  clear hv0
  go_upto_region 1 with (fail)
  rewrite [HV.out]
  clear HV
  have X0k0 : v0.cell? ⟨w.heap.size, 0, none⟩ = some (.int .i64 (r : Int)) := (X0.cell 0).trans rfl; have X0k1 : v0.cell? ⟨w.heap.size, 1, none⟩ = some (.int .i64 (c : Int)) := (X0.cell 1).trans rfl; have X0k2 : v0.cell? ⟨w.heap.size, 2, none⟩ = some (.slice (some ⟨b, o, none⟩) l.length cap) := (X0.cell 2).trans rfl
  go_upto_region 2 with (fail)
  clear X0k0 X0k1 X0k2
  have X1 : Whole (v0.alloc (.cells (zrow l.length).toArray 3)) v0.heap.size 3 (fillM l.length 0) := heap_alloc_new v0 _
  have bd : Below v0.heap.size v0 (v0.alloc (.cells (zrow l.length).toArray 3)) := (Below.refl _ _).alloc (Nat.le_refl _) _
  replace X0 := X0.below bd X0.lt
  replace hb := hb.trans (bd.mono hb.size)
  clear bd
  generalize v0.alloc (.cells (zrow l.length).toArray 3) = w1 at *
  rewrite [HZ.out] at X1 ⊢
  clear HZ
  go_wp2_with fail
  go_loopw [18, 4] (fun j _ wr => ∃ k : Nat, j = .int .i64 k ∧ k ≤ l.length ∧ Whole wr w.heap.size 30 [.int .i64 (r : Int), .int .i64 (c : Int), .slice (some ⟨b, o, none⟩) l.length cap] ∧ Whole wr (w.heap.size + 1) 3 (fillM l.length k) ∧ Below w.heap.size w wr) (fun j _ _ => l.length - (intOf j).toNat)
  case atStart => exact ⟨0, rfl, Nat.zero_le _, X0, X1, hb⟩
  case round =>
    clear X0 X1 hb
    obtain ⟨k, rfl, hk, h0, h1, hb⟩ := hrel
    by_cases hlt : k < l.length
    · have hk1 := (h1.cell k).trans (fill_at hlt)
      have hk2 := h1.frozen k
      have HS := Lib.hid (fill_set hlt)
      go_wp2
      go_roundw
      case rel => exact ⟨k + 1, by go_num, by omega, (Below.heap_setCell _ ⟨w.heap.size + 1, k, none⟩ _ _ (by show w.heap.size ≠ w.heap.size + 1; omega)).trans h0, by rw [← HS.out]; exact h1.set _ _, hb.setCell (p := ⟨w.heap.size + 1, k, none⟩) (by show w.heap.size ≤ w.heap.size + 1; omega) _⟩
      case measure => simp [intOf]; omega
    · obtain rfl : k = l.length := by omega
      have e : fillM l.length l.length = ints (numV l.length []) := by unfold fillM; rw [numV_nil]; simp
      rw [e] at h1
      clear e
      have h0k0 : wr.cell? ⟨w.heap.size, 0, none⟩ = some (.int .i64 (r : Int)) := (h0.cell 0).trans rfl; have h0k1 : wr.cell? ⟨w.heap.size, 1, none⟩ = some (.int .i64 (c : Int)) := (h0.cell 1).trans rfl; have h0k2 : wr.cell? ⟨w.heap.size, 2, none⟩ = some (.slice (some ⟨b, o, none⟩) l.length cap) := (h0.cell 2).trans rfl
      go_wp2_with fail
      clear h0k0 h0k1 h0k2
      go_loopw [28, 5] (fun j cnt wr => ∃ k : Nat, j = .int .i64 k ∧ cnt = .int .i64 ((gat (J l) (nearL c l.length) l.length k).length : Int) ∧ k ≤ l.length ∧ Whole wr w.heap.size 30 [.int .i64 (r : Int), .int .i64 (c : Int), .slice (some ⟨b, o, none⟩) l.length cap] ∧ Whole wr (w.heap.size + 1) 3 (ints (numV l.length (gat (J l) (nearL c l.length) l.length k))) ∧ Below w.heap.size w wr) (fun j _ _ => l.length - (intOf j).toNat)
      case atStart => exact ⟨0, rfl, rfl, Nat.zero_le _, h0, h1, hb⟩
      case round =>
        clear h0 h1 hb hlt hk
        obtain ⟨k, rfl, rfl, hk, h0, h1, hb⟩ := hrel
        have hGl := gat_len (J l) (nearL c l.length) l.length k
        by_cases hlt : k < l.length
        · obtain ⟨hc0, hc1⟩ := cell_at2 hb hbl hc hlt
          have hJ := J_at hlt
          have HG1 := Lib.hid (show gat (J l) (nearL c l.length) l.length (k + 1) = gst (J l) (nearL c l.length) l.length (gat (J l) (nearL c l.length) l.length k) k from rfl)
          generalize gat (J l) (nearL c l.length) l.length k = G at *
          generalize l[k].1 = x at *
          generalize l[k].2 = y at *
          have hs := hb.size
          go_wp2_with fail
          refine (spec_ggGear _ _ _).mono ?_; rintro e w2 ⟨rfl, b2⟩
          have bb : Below wr.heap.size wr w2 := ((Below.refl _ _).alloc (Nat.le_refl _) _).trans (b2.mono (by simp))
          replace h0 := h0.below bb h0.lt
          replace h1 := h1.below bb h1.lt
          replace hb := hb.trans (bb.mono hs)
          clear bb b2 hs hc0 hc1
          have hn0 := (h1.cell k).trans (numV_at hlt)
          rcases Bool.eq_false_or_eq_true (opn (J l) G.flatten [] k) with hop | hop
          · have hjt : joins x = true := hJ.symm.trans (opn_iff.1 hop).1
            have hv := (opn_iff.1 hop).2.1
            have hneg := (num_neg (j := k) G 0).2 hv
            have hk2 := h1.frozen k
            have hst : gst (J l) (nearL c l.length) l.length G k = G ++ [grp (J l) (nearL c l.length) l.length G k] := by unfold gst; rw [hop]; rfl
            rewrite [hst] at HG1
            rewrite [hjt]
            clear hst hJ
            generalize num G 0 k = t at *
            go_upto_region 13 with (fail)
            have e2 := h1.set k (.int .i64 (G.length : Int))
            rw [← numV_empty, numV_set hv (List.not_mem_nil), List.nil_append] at e2
            have e1 : Whole (w2.setCell ⟨w.heap.size + 1, k, none⟩ (.int .i64 (G.length : Int))) w.heap.size 30 [.int .i64 (r : Int), .int .i64 (c : Int), .slice (some ⟨b, o, none⟩) l.length cap] := (Below.heap_setCell w2 ⟨w.heap.size + 1, k, none⟩ _ w.heap.size (by show w.heap.size ≠ w.heap.size + 1; omega)).trans h0
            have e3 : Below w.heap.size w (w2.setCell ⟨w.heap.size + 1, k, none⟩ (.int .i64 (G.length : Int))) := hb.setCell (p := ⟨w.heap.size + 1, k, none⟩) (by show w.heap.size ≤ w.heap.size + 1; omega) _
            clear h0 h1 hb hn0 hk2 hneg hjt
            generalize w2.setCell ⟨w.heap.size + 1, k, none⟩ (.int .i64 (G.length : Int)) = w3 at *
            go_upto_region 14 with (fail)
            have hS : GsS w [.int .i64 (r : Int), .int .i64 (c : Int), .slice (some ⟨b, o, none⟩) l.length cap] l.length w3.heap.size G (.slice (some ⟨w3.heap.size, 0, none⟩) 1 1) [k] (w3.alloc (.cells #[.int .i64 (k : Int)] 3)) := ⟨e1.alloc _, e2.alloc _, irow_lit (heap_alloc_new w3 _), e3.alloc e3.size _, e2.lt⟩
            clear e1 e2 e3
            generalize w3.alloc (.cells #[.int .i64 (k : Int)] 3) = w4 at *
            generalize Value.slice (some (⟨w3.heap.size, 0, none⟩ : Addr)) 1 1 = v4 at *
            generalize w3.heap.size = base at *
            have HQ := Lib.hid (brs_few (J := J l) (near := nearL c l.length) (v := G.flatten) (q := [k]) (n := l.length) hG.near (by simpa using hlt) (few_one hlt hop))
            go_wp2_with fail
            go_loopw [8, 9] (fun v j wr => ∃ m : Nat, j = .int .i64 m ∧ m ≤ (brs (J l) (nearL c l.length) G.flatten [k] m).length ∧ GsS w [.int .i64 (r : Int), .int .i64 (c : Int), .slice (some ⟨b, o, none⟩) l.length cap] l.length base G v (brs (J l) (nearL c l.length) G.flatten [k] m) wr) (fun _ j _ => l.length + 1 - (intOf j).toNat)
            case atStart => exact ⟨0, rfl, Nat.zero_le _, hS⟩
            case round =>
              clear hS
              obtain ⟨m, rfl, hml, hS⟩ := hrel
              have hq := HQ.out m
              have hqn := few_len hq.1
              by_cases hmt : m < (brs (J l) (nearL c l.length) G.flatten [k] m).length
              · have HS1 := Lib.hid (brs_at (J l) (nearL c l.length) G.flatten [k] m hmt)
                have hxn := hq.2 _ (List.getElem_mem hmt)
                have HX := Lib.hid (hG.near _ hxn)
                generalize hQ : brs (J l) (nearL c l.length) G.flatten [k] m = q at *
                obtain ⟨g, cap2, rest, rfl, hw⟩ := hS.shape (by omega)
                have hqk := row_num hw hmt
                have h0 := hS.1
                have hz0 := h0.lt
                have hzg := hw.lt
                generalize q[m] = z at *
                have h0k0 : wr.cell? ⟨w.heap.size, 0, none⟩ = some (.int .i64 (r : Int)) := (h0.cell 0).trans rfl; have h0k1 : wr.cell? ⟨w.heap.size, 1, none⟩ = some (.int .i64 (c : Int)) := (h0.cell 1).trans rfl; have h0k2 : wr.cell? ⟨w.heap.size, 2, none⟩ = some (.slice (some ⟨b, o, none⟩) l.length cap) := (h0.cell 2).trans rfl
                go_upto_region 17 with (fail)
                have KS := Lib.hid (fun (w' : World) (h : Below wr.heap.size wr w') => (⟨(h.cell (p := ⟨w.heap.size, 0, none⟩) hz0).trans h0k0, (h.cell (p := ⟨w.heap.size, 1, none⟩) hz0).trans h0k1, (h.cell (p := ⟨w.heap.size, 2, none⟩) hz0).trans h0k2, (h.cell (p := ⟨g, m, none⟩) hzg).trans hqk⟩ : w'.cell? ⟨w.heap.size, 0, none⟩ = some (.int .i64 (r : Int)) ∧ w'.cell? ⟨w.heap.size, 1, none⟩ = some (.int .i64 (c : Int)) ∧ w'.cell? ⟨w.heap.size, 2, none⟩ = some (.slice (some ⟨b, o, none⟩) l.length cap) ∧ w'.cell? ⟨g, m, none⟩ = some (.int .i64 (z : Int))))
                go_region_held3 (fun w' => w'.cell? ⟨w.heap.size, 0, none⟩ = some (.int .i64 (r : Int)) ∧ w'.cell? ⟨w.heap.size, 1, none⟩ = some (.int .i64 (c : Int)) ∧ w'.cell? ⟨w.heap.size, 2, none⟩ = some (.slice (some ⟨b, o, none⟩) l.length cap) ∧ w'.cell? ⟨g, m, none⟩ = some (.int .i64 (z : Int)))
                  (exact KS.out _ (by (repeat' (first | (with_reducible exact Below.refl _ _) | (with_reducible assumption) | (with_reducible refine Below.alloc ?_ ?_ _) | (with_reducible refine Below.setCell ?_ ?_ _) | (with_reducible refine Below.drew ?_) | (with_reducible refine below_drewN ?_ _) | (with_reducible refine Below.trans ?_ (Below.mono (by assumption) ?_)) | go_size))))
                  ((first | (go_at_call 52; (with_reducible refine (spec_ggNear r c z (some ⟨b, o, none⟩) l.length cap _ hG.r1 hG.r2 hG.c1 hG.c2 hG.cells hxn n90).mono ?_); rintro e w3 ⟨A3, c3, rfl, o3, n3, b3⟩) | fail))
                have bb : Below wr.heap.size wr w3 := by (repeat' (first | (with_reducible exact Below.refl _ _) | (with_reducible assumption) | (with_reducible refine Below.alloc ?_ ?_ _) | (with_reducible refine Below.setCell ?_ ?_ _) | (with_reducible refine Below.drew ?_) | (with_reducible refine below_drewN ?_ _) | (with_reducible refine Below.trans ?_ (Below.mono (by assumption) ?_)) | go_size))
                have n3' : New wr A3 := n3.mono (by (repeat' (first | (with_reducible exact Below.refl _ _) | (with_reducible assumption) | (with_reducible refine Below.alloc ?_ ?_ _) | (with_reducible refine Below.setCell ?_ ?_ _) | (with_reducible refine Below.drew ?_) | (with_reducible refine below_drewN ?_ _) | (with_reducible refine Below.trans ?_ (Below.mono (by assumption) ?_)) | go_size)) : Below wr.heap.size wr _).size
                rewrite [nI_length]
                have hS3 := hS.below bb
                have hbw : base ≤ wr.heap.size := by
                  obtain ⟨g', cap', e', hge'⟩ : ∃ g' cap', Value.slice (some (⟨g, 0, none⟩ : Addr)) q.length cap2 = .slice (some ⟨g', 0, none⟩) (nI q).length cap' ∧ base ≤ g' := hS.2.2.1.form (by rw [nI_length]; omega)
                  rw [nI_length] at e'
                  cases e'
                  omega
                have hN3 : NrS base (.slice (some ⟨g, 0, none⟩) q.length cap2) A3 (nearL c l.length z) w3 := ⟨o3, fun _ a ha => by
                  have h1 := n3' a ha
                  refine ⟨by omega, fun e => ?_⟩
                  simp [Value.ownBlock] at e
                  omega⟩
                have hne := near_len c l.length z
                clear KS b3 n3 n3' o3 bb hS h0 hz0 hzg hqk h0k0 h0k1 h0k2 hw rest
                generalize Value.slice (some (⟨g, 0, none⟩ : Addr)) q.length cap2 = v3 at *
                generalize hNL : nearL c l.length z = nl at *
                go_wp2_with fail
                go_loopw [8, 62] (fun v j wr => ∃ p : Nat, j = .int .i64 p ∧ p ≤ nl.length ∧ GsS w [.int .i64 (r : Int), .int .i64 (c : Int), .slice (some ⟨b, o, none⟩) l.length cap] l.length base G v (brn (J l) G.flatten q (nl.take p)) wr ∧ NrS base v A3 nl wr) (fun _ j _ => nl.length - (intOf j).toNat)
                case atStart => exact ⟨0, rfl, Nat.zero_le _, hS3, hN3⟩
                case round =>
                  clear hS3 hN3
                  obtain ⟨p, rfl, hp, hS, hN⟩ := hrel
                  have hfew := few_len (few_brn (nl.take p) q (fun y hy => HX.out y (List.mem_of_mem_take hy)) hq.1)
                  by_cases hpl : p < nl.length
                  · have HB := Lib.hid (brn_take (J l) G.flatten q nl p hpl)
                    have hyn := HX.out _ (List.getElem_mem hpl)
                    obtain ⟨g3, rest3, rfl, hw3⟩ := hN.shape (by omega)
                    have hy := row_num hw3 hpl
                    generalize nl[p] = a at *
                    generalize brn (J l) G.flatten q (nl.take p) = qm at *
                    obtain ⟨hc0, hc1⟩ := cell_at2 hS.2.2.2.1 hbl hc hyn
                    have h0 := hS.1
                    have HO := Lib.hid (opn_num (J := J l) (G := G) (q := qm) (y := a))
                    have hJ := J_at hyn
                    have h0k0 : wr.cell? ⟨w.heap.size, 0, none⟩ = some (.int .i64 (r : Int)) := (h0.cell 0).trans rfl; have h0k1 : wr.cell? ⟨w.heap.size, 1, none⟩ = some (.int .i64 (c : Int)) := (h0.cell 1).trans rfl; have h0k2 : wr.cell? ⟨w.heap.size, 2, none⟩ = some (.slice (some ⟨b, o, none⟩) l.length cap) := (h0.cell 2).trans rfl
                    go_wp2_with fail
                    refine (spec_ggGear _ _ _).mono ?_; rintro e w5 ⟨rfl, b5⟩
                    have hS5 := hS.below b5
                    have hN5 := hN.below b5
                    have hn5 := (hS5.2.1.cell a).trans (numV_at hyn)
                    have hf5 := hS5.2.1.frozen a
                    have hz5 : base ≤ w5.heap.size := by
                      have h1 := (hN5.2 (by omega) _ rfl).1
                      obtain ⟨_, _, e, hw⟩ := hN5.shape (by omega)
                      have h2 := hw.lt
                      cases e
                      simp at h1
                      omega
                    clear hS hN h0 h0k0 h0k1 h0k2 hc0 hc1 b5 hw3 hy
                    have hst5 := hS5.2.2.2.2
                    rcases Bool.eq_false_or_eq_true (joins l[a].1) with hj | hj
                    · rewrite [hj]
                      rw [hj] at hJ
                      have HO' := HO.out
                      rw [hJ, Bool.true_and] at HO'
                      clear HO
                      generalize num (G ++ [qm]) 0 a = t at *
                      by_cases ht : t < 0
                      · rw [decide_eq_true ht] at HO'
                        obtain ⟨_, hv', hq'⟩ := opn_iff.1 HO'
                        have hbst : bst (J l) G.flatten qm a = qm ++ [a] := by unfold bst; rw [HO']; rfl
                        rewrite [hbst] at HB
                        clear hbst HO' hJ hj
                        have hrow5 := irow_setCell (j := a) hS5.2.2.1 hst5 (.int .i64 (G.length : Int))
                        have hl5 : (nI qm).length ≤ 1048576 := by rw [nI_length]; omega
                        have hsz5 : w5.heap.size = (w5.setCell ⟨w.heap.size + 1, a, none⟩ (.int .i64 (G.length : Int))).heap.size := (World.size_setCell _ _ _).symm
                        have hz5' : base ≤ (w5.setCell ⟨w.heap.size + 1, a, none⟩ (.int .i64 (G.length : Int))).heap.size := by rw [← hsz5]; exact hz5
                        have hN5' := hN5.setCell (j := a) (u := .int .i64 (G.length : Int)) hst5
                        have HP := Lib.hid (fun (v6 : Value) (w6 : World) (h1 : IRow w6 base v6 (nI qm ++ [(a : Int)])) (h2 : Below base (w5.setCell ⟨w.heap.size + 1, a, none⟩ (.int .i64 (G.length : Int))) w6) => hS5.push hv' hq' h1 h2)
                        have HZ5 := Lib.hid hz5'
                        have HR5 := Lib.hid hrow5
                        have HN5 := Lib.hid hN5'
                        clear hsz5 hS5 hN5 hz5' hrow5 hN5'
                        go_upto_region 22 with (fail)
                        have hz5' := HZ5.out
                        have hrow5 := HR5.out
                        have hN5' := HN5.out
                        clear hn5 hf5 HZ5 HR5 HN5
                        generalize w5.setCell ⟨w.heap.size + 1, a, none⟩ (.int .i64 (G.length : Int)) = w5s at *
                        go_wp2_with (first | (at_builtin; refine wpList_push (x0 := (a : Int)) hrow5 hl5 hz5' rfl _ _ rfl rfl rfl ?_; intro v6 w6 hrow6 hg6 hb6 hl6; have hS6 := HP.out v6 w6 hrow6 hb6; have hN6 := hN5'.push hg6 hl6) | fail)
                        clear HP hN5' hrow6 hg6 hb6 hl6 hrow5
                        go_roundw
                        case rel => exact ⟨p + 1, by go_num, by omega, by rw [HB.out]; exact hS6, hN6⟩
                        case measure => simp [intOf]; omega
                      · rw [decide_eq_false ht] at HO'
                        have hbst : bst (J l) G.flatten qm a = qm := by unfold bst; rw [HO']; rfl
                        rewrite [hbst] at HB
                        clear hbst HO' hJ hj
                        go_wp2_with fail
                        go_roundw
                        case rel => exact ⟨p + 1, by go_num, by omega, by rw [HB.out]; exact hS5, hN5⟩
                        case measure => simp [intOf]; omega
                    · rewrite [hj]
                      rw [hj] at hJ
                      have HO' := HO.out
                      rw [hJ, Bool.false_and] at HO'
                      have hbst : bst (J l) G.flatten qm a = qm := by unfold bst; rw [HO']; rfl
                      rewrite [hbst] at HB
                      clear hbst HO' hJ hj HO
                      go_wp2_with fail
                      go_roundw
                      case rel => exact ⟨p + 1, by go_num, by omega, by rw [HB.out]; exact hS5, hN5⟩
                      case measure => simp [intOf]; omega
                  · obtain rfl : p = nl.length := by omega
                    rw [List.take_length, ← HS1.out] at hS
                    have hlen : m + 1 ≤ (brs (J l) (nearL c l.length) G.flatten [k] (m + 1)).length := by
                      rw [HS1.out]
                      have := (brn_prefix (J := J l) (v := G.flatten) nl q).length_le
                      omega
                    clear HS1 HX
                    go_wp2
                    go_roundw
                    case rel => exact ⟨m + 1, by go_num, hlen, hS⟩
                    case measure => simp [intOf]; omega
              · have hend := brs_end (J := J l) (near := nearL c l.length) (v := G.flatten) (q := [k]) (k := m) (n := l.length) (by omega) (by omega)
                rw [hend] at hS hml hmt
                clear hend
                obtain ⟨g, cap2, rest, rfl, hw⟩ := hS.shape (List.length_pos_of_mem (brs_le (x := k) (by simp) _))
                have hmt' : ¬ (m : Int) < ((brs (J l) (nearL c l.length) G.flatten [k] l.length).length : Int) := by omega
                go_wp2
                go_roundw
                case rel => exact ⟨k + 1, by go_num, by rw [HG1.out, List.length_append, List.length_singleton]; go_num, by omega, hS.1, by rw [HG1.out]; exact hS.2.1, hS.2.2.2.1⟩
                case measure => simp [intOf]; omega
          · have hst : gst (J l) (nearL c l.length) l.length G k = G := by unfold gst; rw [hop]; rfl
            rewrite [hst] at HG1
            have ho2 : (J l k = false) ∨ ¬ num G 0 k < 0 := by
              rcases Bool.eq_false_or_eq_true (J l k) with h | h
              · refine .inr fun hneg => ?_
                have : opn (J l) G.flatten [] k = true := opn_iff.2 ⟨h, (num_neg G 0).1 hneg, List.not_mem_nil⟩
                rw [hop] at this
                cases this
              · exact .inl h
            clear hst
            generalize num G 0 k = t at *
            rcases Bool.eq_false_or_eq_true (joins x) with hj | hj
            · rewrite [hj]
              rw [hJ, hj] at ho2
              have ht : ¬ t < 0 := by
                rcases ho2 with h | h
                · cases h
                · exact h
              clear hJ ho2 hop hj
              go_wp2
              go_roundw
              case rel => exact ⟨k + 1, by go_num, by rw [HG1.out], by omega, h0, by rw [HG1.out]; exact h1, hb⟩
              case measure => simp [intOf]; omega
            · rewrite [hj]
              clear hJ ho2 hop hj
              go_wp2
              go_roundw
              case rel => exact ⟨k + 1, by go_num, by rw [HG1.out], by omega, h0, by rw [HG1.out]; exact h1, hb⟩
              case measure => simp [intOf]; omega
        · obtain rfl : k = l.length := by omega
          go_wp2
          go_returns
          have hx := PostI.mk (cap' := l.length) (Whole.own h1) (fun a ha => by cases ha; show w.heap.size ≤ w.heap.size + 1; omega) hb
          rw [numV_len] at hx
          exact hx
end Go.Proofs.Ytdpgbgniejlilaa
