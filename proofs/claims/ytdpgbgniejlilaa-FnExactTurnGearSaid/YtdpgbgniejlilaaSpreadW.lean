/- The program's search, walked. -/
import Derived.Test.YtdpgbgniejlilaaSp
namespace Go.Proofs.Ytdpgbgniejlilaa
open Go.ChangeShapes Go.WideShapes Go.ChangeAt Go.RowKit Go.Joins Go.Deep
set_option linter.unusedSimpArgs false
set_option linter.unusedVariables false
set_option maxRecDepth 100000
set_option maxHeartbeats 4000000
theorem impl_spread (r c : Nat) (A : Option Addr) (cap : Nat) (l : List (Int × Int)) (B nB b0 i : Nat) (vs : List Nat) (w : World) (hG : Geo r c l.length) (hr : Rd w w.heap.size A (flat l)) (hi : i < l.length)
    (hk0 : Keys w B nB (opn (J l) vs [])) (ho : opn (J l) vs [] i = true) (hf : Rd w w.heap.size (some ⟨b0, 0, none⟩) [.int .i64 (i : Int)]) :
    Calls Try.prog 61 #[.agg #[.int .i64 (r : Int), .int .i64 (c : Int), .slice A l.length cap], .map (some B), .slice (some ⟨b0, 0, none⟩) 1 1] w
      fun e w' => ∃ v, e = .returned (.tuple #[v, .slice none 0 0]) ∧ IRow w' (w.heap.size + 1) v (nI (brs (J l) (nearL c l.length) vs [i] l.length)) ∧ Keys w' B nB (opn (J l) vs (brs (J l) (nearL c l.length) vs [i] l.length)) ∧ w.grownBy w' (some B) := by
  obtain ⟨b, o, rfl, hbl, hc⟩ := hr (by rw [flat_length]; omega)
  have n90 := hG.n90
  have HQ := Lib.hid (brs_few (J := J l) (near := nearL c l.length) (v := vs) (q := [i]) (n := l.length) hG.near (by simpa using hi) (few_one hi ho))
  obtain ⟨b0', q0, e0, hb0, hfc⟩ := hf (by simp)
  cases e0
  have hf0 : w.cell? ⟨b0, 0, none⟩ = some (.int .i64 (i : Int)) := by simpa using hfc 0 _ rfl
  have hB := hk0.lt
  clear hfc hr
  go_enter Try.func61, Try.ntmps61
  obtain ⟨v0, hv0⟩ : ∃ v, v = w.alloc (.cells #[.int .i64 (r : Int), .int .i64 (c : Int), .slice (some ⟨b, o, none⟩) l.length cap] 30) := ⟨_, rfl⟩
  have X0 : Whole v0 w.heap.size 30 [.int .i64 (r : Int), .int .i64 (c : Int), .slice (some ⟨b, o, none⟩) l.length cap] := by rw [hv0]; exact heap_alloc_new w _
  have hb : Below w.heap.size w v0 := by rw [hv0]; exact (Below.refl _ _).alloc (Nat.le_refl _) _
  have hK : Keys v0 B nB (opn (J l) vs []) := by rw [hv0]; exact hk0.alloc _
  have HV := Lib.hid hv0.symm
  clear hv0
  go_upto_region 2 with (fail)
  rewrite [HV.out]
  clear HV
  have hf1 : v0.cell? ⟨b0, 0, none⟩ = some (.int .i64 (i : Int)) := (hb.cell (p := ⟨b0, 0, none⟩) hb0).trans hf0
  go_loopw [17, 9] (fun j _ wr => (j = .int .i64 0 ∧ wr = v0) ∨ (j = .int .i64 1 ∧ Whole wr w.heap.size 30 [.int .i64 (r : Int), .int .i64 (c : Int), .slice (some ⟨b, o, none⟩) l.length cap] ∧ Keys wr B nB (opn (J l) vs [i]) ∧ w.grownBy wr (some B))) (fun j _ _ => 2 - (intOf j).toNat)
  case atStart => exact .inl ⟨rfl, rfl⟩
  case round =>
    rcases hrel with ⟨rfl, rfl⟩ | ⟨rfl, h0, hK1, hg1⟩
    · go_wp2_with (first | (at_delete; refine wpList_del_keys rfl _ _ rfl B nB _ rfl hK i rfl (by omega) ?_; intro w2 hK2 hg2) | fail)
      refine ⟨.inr ⟨rfl, X0.grown hg2 (fun e => hK.whole X0 (by cases e; rfl)), hK2.congr (fun j _ => ?_), (grown_below (World.grownBy.refl w _) hb (Nat.le_refl _)).trans hg2⟩, by simp [intOf]⟩
      rw [← List.nil_append [i], opn_snoc]
    · have hf2 : wr.cell? ⟨b0, 0, none⟩ = some (.int .i64 (i : Int)) := hk0.cells hg1 hf0
      clear X0 hK hb hf1
      go_wp2_with fail
      have hcl := Clone_ints b0 0 1 [(i : Int)] wr (by simp) (fun _ => ⟨b0, 0, rfl, Nat.lt_of_lt_of_le hb0 hg1.size, fun j u hu => by
        have hj := (List.getElem?_eq_some_iff.1 hu).1
        rw [ints_length, List.length_singleton] at hj
        obtain rfl : j = 0 := by omega
        simp [ints] at hu
        subst hu
        simpa using hf2⟩) (by simp) (w.heap.size + 1) h0.lt
      refine hcl.mono ?_; rintro e w1 ⟨A1, c1, rfl, hrow1, b1⟩
      clear hcl hf2
      have hS : SpS w [.int .i64 (r : Int), .int .i64 (c : Int), .slice (some ⟨b, o, none⟩) l.length cap] B nB (opn (J l) vs [i]) (.slice A1 [(i : Int)].length c1) [i] w1 := ⟨h0.below b1 h0.lt, hrow1, hK1.below b1, grown_below hg1 b1 hg1.size⟩
      clear h0 hK1 hg1 b1 hrow1
      generalize Value.slice A1 [(i : Int)].length c1 = v1 at *
      go_wp2_with fail
      go_loopw [10, 11, 12] (fun v bd k wr => ∃ k' : Nat, bd = .slice none 0 0 ∧ k = .int .i64 k' ∧ k' ≤ (brs (J l) (nearL c l.length) vs [i] k').length ∧ SpS w [.int .i64 (r : Int), .int .i64 (c : Int), .slice (some ⟨b, o, none⟩) l.length cap] B nB (opn (J l) vs (brs (J l) (nearL c l.length) vs [i] k')) v (brs (J l) (nearL c l.length) vs [i] k') wr) (fun _ _ k _ => l.length + 1 - (intOf k).toNat)
      case atStart => exact ⟨0, rfl, rfl, Nat.zero_le _, hS⟩
      case round =>
        clear hS
        obtain ⟨k, rfl, rfl, hkl, hS⟩ := hrel
        have hq := HQ.out k
        have hqn := few_len hq.1
        by_cases hlt : k < (brs (J l) (nearL c l.length) vs [i] k).length
        · have HS1 := Lib.hid (brs_at (J l) (nearL c l.length) vs [i] k hlt)
          have hxn := hq.2 _ (List.getElem_mem hlt)
          have HX := Lib.hid (hG.near _ hxn)
          generalize hQ : brs (J l) (nearL c l.length) vs [i] k = q at *
          obtain ⟨g, cap2, rest, rfl, hw⟩ := hS.shape (by omega)
          have hqk := row_num hw hlt
          have h0 := hS.1
          have hz0 := h0.lt
          have hzg := hw.lt
          generalize q[k] = x at *
          have h0k0 : wr.cell? ⟨w.heap.size, 0, none⟩ = some (.int .i64 (r : Int)) := (h0.cell 0).trans rfl; have h0k1 : wr.cell? ⟨w.heap.size, 1, none⟩ = some (.int .i64 (c : Int)) := (h0.cell 1).trans rfl; have h0k2 : wr.cell? ⟨w.heap.size, 2, none⟩ = some (.slice (some ⟨b, o, none⟩) l.length cap) := (h0.cell 2).trans rfl
          go_upto_region 11 with (fail)
          have KS := Lib.hid (fun (w' : World) (h : Below wr.heap.size wr w') => (⟨(h.cell (p := ⟨w.heap.size, 0, none⟩) hz0).trans h0k0, (h.cell (p := ⟨w.heap.size, 1, none⟩) hz0).trans h0k1, (h.cell (p := ⟨w.heap.size, 2, none⟩) hz0).trans h0k2, (h.cell (p := ⟨g, k, none⟩) hzg).trans hqk⟩ : w'.cell? ⟨w.heap.size, 0, none⟩ = some (.int .i64 (r : Int)) ∧ w'.cell? ⟨w.heap.size, 1, none⟩ = some (.int .i64 (c : Int)) ∧ w'.cell? ⟨w.heap.size, 2, none⟩ = some (.slice (some ⟨b, o, none⟩) l.length cap) ∧ w'.cell? ⟨g, k, none⟩ = some (.int .i64 (x : Int))))
          go_region_held3 (fun w' => w'.cell? ⟨w.heap.size, 0, none⟩ = some (.int .i64 (r : Int)) ∧ w'.cell? ⟨w.heap.size, 1, none⟩ = some (.int .i64 (c : Int)) ∧ w'.cell? ⟨w.heap.size, 2, none⟩ = some (.slice (some ⟨b, o, none⟩) l.length cap) ∧ w'.cell? ⟨g, k, none⟩ = some (.int .i64 (x : Int)))
            (exact KS.out _ (by (repeat' (first | (with_reducible exact Below.refl _ _) | (with_reducible assumption) | (with_reducible refine Below.alloc ?_ ?_ _) | (with_reducible refine Below.setCell ?_ ?_ _) | (with_reducible refine Below.drew ?_) | (with_reducible refine below_drewN ?_ _) | (with_reducible refine Below.trans ?_ (Below.mono (by assumption) ?_)) | go_size))))
            ((first | (go_at_call 64; (with_reducible refine (impl_indicesBeside r c x (some ⟨b, o, none⟩) l.length cap _ hG.r1 hG.r2 hG.c1 hG.c2 hG.cells hxn n90).mono ?_); rintro e w3 ⟨A3, c3, rfl, o3, n3, b3⟩) | fail))
          have bb : Below wr.heap.size wr w3 := by (repeat' (first | (with_reducible exact Below.refl _ _) | (with_reducible assumption) | (with_reducible refine Below.alloc ?_ ?_ _) | (with_reducible refine Below.setCell ?_ ?_ _) | (with_reducible refine Below.drew ?_) | (with_reducible refine below_drewN ?_ _) | (with_reducible refine Below.trans ?_ (Below.mono (by assumption) ?_)) | go_size))
          have n3' : New wr A3 := n3.mono (by (repeat' (first | (with_reducible exact Below.refl _ _) | (with_reducible assumption) | (with_reducible refine Below.alloc ?_ ?_ _) | (with_reducible refine Below.setCell ?_ ?_ _) | (with_reducible refine Below.drew ?_) | (with_reducible refine below_drewN ?_ _) | (with_reducible refine Below.trans ?_ (Below.mono (by assumption) ?_)) | go_size)) : Below wr.heap.size wr _).size
          rewrite [nI_length]
          have hS3 := hS.below bb
          have hN3 : NrS (w.heap.size + 1) (.slice (some ⟨g, 0, none⟩) q.length cap2) A3 (nearL c l.length x) w3 := ⟨o3, fun _ a ha => by
            have h1 := n3' a ha
            refine ⟨by omega, fun e => ?_⟩
            simp [Value.ownBlock] at e
            omega⟩
          have hne := near_len c l.length x
          clear KS b3 n3 n3' o3 bb hS h0 hz0 hzg hqk h0k0 h0k1 h0k2 hw rest
          generalize Value.slice (some (⟨g, 0, none⟩ : Addr)) q.length cap2 = v3 at *
          generalize hNL : nearL c l.length x = nl at *
          go_wp2_with fail
          go_loopw [10, 11, 39] (fun v bd j wr => ∃ m : Nat, bd = .slice none 0 0 ∧ j = .int .i64 m ∧ m ≤ nl.length ∧ SpS w [.int .i64 (r : Int), .int .i64 (c : Int), .slice (some ⟨b, o, none⟩) l.length cap] B nB (opn (J l) vs (brn (J l) vs q (nl.take m))) v (brn (J l) vs q (nl.take m)) wr ∧ NrS (w.heap.size + 1) v A3 nl wr) (fun _ _ j _ => nl.length - (intOf j).toNat)
          case atStart => exact ⟨0, rfl, rfl, Nat.zero_le _, hS3, hN3⟩
          case round =>
            clear hS3 hN3
            obtain ⟨m, rfl, rfl, hm, hS, hN⟩ := hrel
            have hfew := few_len (few_brn (nl.take m) q (fun y hy => HX.out y (List.mem_of_mem_take hy)) hq.1)
            by_cases hml : m < nl.length
            · have HB := Lib.hid (brn_take (J l) vs q nl m hml)
              have hyn := HX.out _ (List.getElem_mem hml)
              obtain ⟨g3, rest3, rfl, hw3⟩ := hN.shape (by omega)
              have hy := row_num hw3 hml
              generalize nl[m] = y at *
              generalize brn (J l) vs q (nl.take m) = qm at *
              rcases Bool.eq_false_or_eq_true (opn (J l) vs qm y) with hop | hop
              · go_wp2_with (first | (at_lookup; refine wpList_look_keys rfl _ _ rfl B nB _ rfl hS.2.2.1 y rfl (by omega) ?_; rewrite [hop]) | (at_delete; refine wpList_del_keys rfl _ _ rfl B nB _ rfl hS.2.2.1 y rfl (by omega) ?_; intro w4 hK4 hg4; have hS4 := hS.del hK4 hg4; have hN4 := hN.del hS.2.2.1 hg4; have h0 := hS4.1; (have h0k0 : w4.cell? ⟨w.heap.size, 0, none⟩ = some (.int .i64 (r : Int)) := (h0.cell 0).trans rfl; have h0k1 : w4.cell? ⟨w.heap.size, 1, none⟩ = some (.int .i64 (c : Int)) := (h0.cell 1).trans rfl; have h0k2 : w4.cell? ⟨w.heap.size, 2, none⟩ = some (.slice (some ⟨b, o, none⟩) l.length cap) := (h0.cell 2).trans rfl); have hc0 := hk0.cells hS4.2.2.2 (cell_two hc hyn).1; have hc1 := hk0.cells hS4.2.2.2 (cell_two hc hyn).2) | fail)
                have hjt : joins l[y].1 = true := (J_at hyn).symm.trans (opn_iff.1 hop).1
                have hbst : bst (J l) vs qm y = qm ++ [y] := by unfold bst; rw [hop]; rfl
                rewrite [hbst] at HB
                clear hbst
                refine (impl_isJoining _ _ _).mono ?_; rintro e w5 ⟨rfl, b5⟩
                rewrite [hjt]
                have hS5 := hS4.below b5
                have hN5 := hN4.below b5
                have hz5 : w.heap.size + 1 ≤ w5.heap.size := hS5.1.lt
                clear hS hN hS4 hN4 hK4 hg4 h0 h0k0 h0k1 h0k2 hc0 hc1 b5 hjt hw3 hy
                go_wp2_with (first | (at_builtin; refine wpList_push (x0 := (y : Int)) hS5.2.1 (by rw [nI_length]; omega) hz5 rfl _ _ rfl rfl rfl ?_; intro v6 w6 hrow6 hg6 hb6 hl6; have hS6 := hS5.push hrow6 rfl hg6 hb6; have hN6 := hN5.push hg6 hl6) | fail)
                clear hS5 hN5 hrow6 hg6 hb6 hl6
                go_roundw
                case rel => exact ⟨m + 1, rfl, by go_num, by omega, by rw [HB.out]; exact hS6.congr (fun j _ => by rw [opn_snoc]), hN6⟩
                case measure => simp [intOf]; omega
              · have hbst : bst (J l) vs qm y = qm := by unfold bst; rw [hop]; rfl
                rewrite [hbst] at HB
                go_wp2_with (first | (at_lookup; refine wpList_look_keys rfl _ _ rfl B nB _ rfl hS.2.2.1 y rfl (by omega) ?_; rewrite [hop]) | fail)
                go_roundw
                case rel => exact ⟨m + 1, rfl, by go_num, by omega, by rw [HB.out]; exact hS, hN⟩
                case measure => simp [intOf]; omega
            · obtain rfl : m = nl.length := by omega
              rw [List.take_length, ← HS1.out] at hS
              have hlen : k + 1 ≤ (brs (J l) (nearL c l.length) vs [i] (k + 1)).length := by
                rw [HS1.out]
                have := (brn_prefix (J := J l) (v := vs) nl q).length_le
                omega
              clear HS1 HX
              go_wp2
              go_roundw
              case rel => exact ⟨k + 1, rfl, by go_num, hlen, hS⟩
              case measure => simp [intOf]; omega
        · have hend := brs_end (J := J l) (near := nearL c l.length) (v := vs) (q := [i]) (k := k) (n := l.length) (by omega) (by omega)
          rw [hend] at hS hkl hlt
          clear hend
          obtain ⟨g, cap2, rest, rfl, hw⟩ := hS.shape (List.length_pos_of_mem (brs_le (x := i) (by simp) _))
          have hlt' : ¬ (k : Int) < ((brs (J l) (nearL c l.length) vs [i] l.length).length : Int) := by omega
          go_wp2
          go_returns
          exact ⟨_, rfl, hS.2.1, hS.2.2.1, hS.2.2.2⟩
end Go.Proofs.Ytdpgbgniejlilaa
