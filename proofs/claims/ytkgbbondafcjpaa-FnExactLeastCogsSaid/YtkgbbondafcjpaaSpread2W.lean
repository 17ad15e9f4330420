/- The program's search from several cells, walked. -/
import Derived.Test.YtkgbbondafcjpaaSpread2
namespace Go.Proofs.Ytkgbbondafcjpaa
open Go.ChangeShapes Go.WideShapes Go.ChangeAt Go.RowKit Go.Joins Go.Deep
set_option linter.unusedSimpArgs false
set_option linter.unusedVariables false
set_option maxRecDepth 100000
set_option maxHeartbeats 4000000
theorem impl_spread2 (r c : Nat) (A : Option Addr) (cap : Nat) (l : List (Int × Int)) (B nB bf of_ capf : Nat) (q0 vs : List Nat) (o0 : Nat → Bool) (w : World) (hG : Geo r c l.length) (hr : Rd w w.heap.size A (flat l)) (hp : 0 < q0.length) (hd : q0.Nodup) (hl : ∀ x ∈ q0, x < l.length)
    (hk0 : Keys w B nB o0) (ho : ∀ y, (o0 y && !q0.contains y) = opn (opE l) vs q0 y) (hf : Rd w w.heap.size (some ⟨bf, of_, none⟩) (ints (nI q0))) :
    Calls Try.prog 70 #[.agg #[.int .i64 (r : Int), .int .i64 (c : Int), .slice A l.length cap], .map (some B), .slice (some ⟨bf, of_, none⟩) q0.length capf] w
      fun e w' => ∃ v v2, e = .returned (.tuple #[v, v2]) ∧ IRow w' (w.heap.size + 1) v (nI (lvQ (J l) (nearL c l.length) l.length (vs, q0))) ∧ IRow w' (w.heap.size + 1) v2 (nI (lvD (J l) (emp l) (nearL c l.length) l.length (vs, q0))) ∧ Keys w' B nB (opn (opE l) vs (lvQ (J l) (nearL c l.length) l.length (vs, q0) ++ lvD (J l) (emp l) (nearL c l.length) l.length (vs, q0))) ∧ w.grownBy w' (some B) := by
  have hq0n : q0.length ≤ l.length := few_len (few_of (J := J l) (v := vs) hd hl)
  obtain ⟨b, o, rfl, hbl, hc⟩ := hr (by rw [flat_length]; omega)
  have n90 := hG.n90
  have HQ := Lib.hid (brs_few (J := J l) (near := nearL c l.length) (v := vs) (q := q0) (n := l.length) hG.near hl (few_of hd hl))
  obtain ⟨bf', of', e0, hbf, hfc⟩ := hf (by rw [ints_length, nI_length]; exact hp)
  cases e0
  have HF := Lib.hid (fun j (hj : j < q0.length) => (hfc j _ (nI_at q0 j hj) : w.cell? ⟨bf, of_ + j, none⟩ = some (.int .i64 (q0[j] : Int))))
  have HL := Lib.hid (fun j (hj : j < q0.length) => hl _ (List.getElem_mem hj))
  have HO := Lib.hid ho
  have hB := hk0.lt
  clear hr ho
  go_enter Try.func70, Try.ntmps70
  obtain ⟨v0, hv0⟩ : ∃ v, v = w.alloc (.cells #[.int .i64 (r : Int), .int .i64 (c : Int), .slice (some ⟨b, o, none⟩) l.length cap] 31) := ⟨_, rfl⟩
  have X0 : Whole v0 w.heap.size 31 [.int .i64 (r : Int), .int .i64 (c : Int), .slice (some ⟨b, o, none⟩) l.length cap] := by rw [hv0]; exact heap_alloc_new w _
  have hb : Below w.heap.size w v0 := by rw [hv0]; exact (Below.refl _ _).alloc (Nat.le_refl _) _
  have hK : Keys v0 B nB o0 := by rw [hv0]; exact hk0.alloc _
  have HV := Lib.hid hv0.symm
  clear hv0
  go_upto_region 2 with (fail)
  rewrite [HV.out]
  clear HV
  go_loopw [17, 9] (fun j _ wr => ∃ m : Nat, j = .int .i64 m ∧ m ≤ q0.length ∧ Whole wr w.heap.size 31 [.int .i64 (r : Int), .int .i64 (c : Int), .slice (some ⟨b, o, none⟩) l.length cap] ∧ Keys wr B nB (fun y => o0 y && !(q0.take m).contains y) ∧ w.grownBy wr (some B)) (fun j _ _ => q0.length - (intOf j).toNat)
  case atStart => exact ⟨0, rfl, Nat.zero_le _, X0, hK.congr (fun i _ => by simp), grown_below (World.grownBy.refl w _) hb (Nat.le_refl _)⟩
  case round =>
    clear X0 hK hb
    obtain ⟨m, rfl, hm, X0, hK, hg1⟩ := hrel
    by_cases hml : m < q0.length
    · have hf1 : wr.cell? ⟨bf, of_ + m, none⟩ = some (.int .i64 (q0[m] : Int)) := hk0.cells hg1 (HF.out m hml)
      have hlm := HL.out m hml
      have HT := Lib.hid (List.take_succ_eq_append_getElem hml)
      generalize q0[m] = y at *
      go_wp2_with (first | (at_delete; refine wpList_del_keys rfl _ _ rfl B nB _ rfl hK y rfl (by omega) ?_; intro w2 hK2 hg2) | fail)
      go_roundw
      case rel =>
        refine ⟨m + 1, by go_num, by omega, X0.grown hg2 (fun e => hK.whole X0 (by cases e; rfl)), hK2.congr (fun j _ => ?_), hg1.trans hg2⟩
        rw [HT.out, List.contains_eq_any_beq, List.contains_eq_any_beq, List.any_append, Bool.not_or]
        simp [Bool.and_assoc]
      case measure => simp [intOf]; omega
    · obtain rfl : m = q0.length := by omega
      rw [List.take_length] at hK
      have hK1 := hK.congr (o' := opn (opE l) vs q0) (fun y _ => HO.out y)
      clear hK
      go_wp2_with fail
      have hcl := Clone_ints bf of_ capf (nI q0) wr (by rw [nI_length]; omega) (fun _ => ⟨bf, of_, rfl, Nat.lt_of_lt_of_le hbf hg1.size, fun j u hu => by
        have hj := (List.getElem?_eq_some_iff.1 hu).1
        rw [ints_length, nI_length] at hj
        rw [nI_at q0 j hj] at hu
        cases hu
        exact hk0.cells hg1 (HF.out j hj)⟩) (by rw [nI_length]; exact hp) (w.heap.size + 1) X0.lt
      rw [nI_length] at hcl
      refine hcl.mono ?_; rintro e w1 ⟨A1, c1, rfl, hrow1, b1⟩
      clear hcl
      have hS : Sp2 w [.int .i64 (r : Int), .int .i64 (c : Int), .slice (some ⟨b, o, none⟩) l.length cap] B nB (opn (opE l) vs q0) (.slice A1 q0.length c1) q0 (.slice none 0 0) [] w1 := ⟨X0.below b1 X0.lt, hrow1, IRow.nil, fun g _ h => by simp [Value.ownBlock] at h, hK1.below b1, grown_below hg1 b1 hg1.size⟩
      clear X0 hK1 hg1 b1 hrow1
      generalize Value.slice A1 q0.length c1 = v1 at *
      have HL' := Lib.hid (fun x => brs_le (J := J l) (near := nearL c l.length) (v := vs) (q := q0) (x := x))
      have HM := Lib.hid (brs_mem (J := J l) (near := nearL c l.length) (v := vs) (q := q0))
      go_wp2_with fail
      go_loopw [10, 11, 12] (fun vv bd k wr => ∃ (k' : Nat) (vq vd : Value), vq = vv ∧ vd = bd ∧ k = .int .i64 k' ∧ k' ≤ (brs (J l) (nearL c l.length) vs q0 k').length ∧ Sp2 w [.int .i64 (r : Int), .int .i64 (c : Int), .slice (some ⟨b, o, none⟩) l.length cap] B nB (opn (opE l) vs (brs (J l) (nearL c l.length) vs q0 k' ++ bdr (J l) (emp l) (nearL c l.length) vs q0 k')) vq (brs (J l) (nearL c l.length) vs q0 k') vd (bdr (J l) (emp l) (nearL c l.length) vs q0 k') wr) (fun _ _ k _ => l.length + 1 - (intOf k).toNat)
      case atStart => exact ⟨0, _, _, rfl, rfl, rfl, Nat.zero_le _, hS.congr (fun y _ => by show _ = opn (opE l) vs (q0 ++ []) y; rw [List.append_nil])⟩
      case round =>
        clear hS
        obtain ⟨k, vq, vd, rfl, rfl, rfl, hkl, hS⟩ := hrel
        have hq := HQ.out k
        have hqn := few_len hq.1
        have hqm0 := HM.out k
        have hq00 : ∀ x ∈ q0, x ∈ brs (J l) (nearL c l.length) vs q0 k := fun x hx => HL'.out x hx k
        have hde := bdr_emp (J := J l) (E := emp l) (near := nearL c l.length) (v := vs) (q := q0) k
        have hdn := bdr_nodup (J := J l) (E := emp l) (near := nearL c l.length) (v := vs) (q := q0) k
        by_cases hlt : k < (brs (J l) (nearL c l.length) vs q0 k).length
        · have HS1 := Lib.hid (brs_at (J l) (nearL c l.length) vs q0 k hlt)
          have HS2 := Lib.hid (bdr_at (J := J l) (E := emp l) (near := nearL c l.length) (v := vs) (q := q0) hlt)
          have hxn := hq.2 _ (List.getElem_mem hlt)
          have HX := Lib.hid (hG.near _ hxn)
          generalize hQ : brs (J l) (nearL c l.length) vs q0 k = q at *
          generalize bdr (J l) (emp l) (nearL c l.length) vs q0 k = d at *
          obtain ⟨g, cap2, rest, rfl, hw⟩ := hS.shape (by omega)
          have hqk := row_num hw hlt
          have h0 := hS.1
          have hz0 := h0.lt
          have hzg := hw.lt
          have h3 := hS.2.2.1
          generalize q[k] = x at *
          have h0k0 : wr.cell? ⟨w.heap.size, 0, none⟩ = some (.int .i64 (r : Int)) := (h0.cell 0).trans rfl; have h0k1 : wr.cell? ⟨w.heap.size, 1, none⟩ = some (.int .i64 (c : Int)) := (h0.cell 1).trans rfl; have h0k2 : wr.cell? ⟨w.heap.size, 2, none⟩ = some (.slice (some ⟨b, o, none⟩) l.length cap) := (h0.cell 2).trans rfl
          go_upto_region 11 with (fail)
          have KS := Lib.hid (fun (w' : World) (h : Below wr.heap.size wr w') => (⟨(h.cell (p := ⟨w.heap.size, 0, none⟩) hz0).trans h0k0, (h.cell (p := ⟨w.heap.size, 1, none⟩) hz0).trans h0k1, (h.cell (p := ⟨w.heap.size, 2, none⟩) hz0).trans h0k2, (h.cell (p := ⟨g, k, none⟩) hzg).trans hqk⟩ : w'.cell? ⟨w.heap.size, 0, none⟩ = some (.int .i64 (r : Int)) ∧ w'.cell? ⟨w.heap.size, 1, none⟩ = some (.int .i64 (c : Int)) ∧ w'.cell? ⟨w.heap.size, 2, none⟩ = some (.slice (some ⟨b, o, none⟩) l.length cap) ∧ w'.cell? ⟨g, k, none⟩ = some (.int .i64 (x : Int))))
          go_region_held3 (fun w' => w'.cell? ⟨w.heap.size, 0, none⟩ = some (.int .i64 (r : Int)) ∧ w'.cell? ⟨w.heap.size, 1, none⟩ = some (.int .i64 (c : Int)) ∧ w'.cell? ⟨w.heap.size, 2, none⟩ = some (.slice (some ⟨b, o, none⟩) l.length cap) ∧ w'.cell? ⟨g, k, none⟩ = some (.int .i64 (x : Int)))
            (exact KS.out _ (by (repeat' (first | (with_reducible exact Below.refl _ _) | (with_reducible assumption) | (with_reducible refine Below.alloc ?_ ?_ _) | (with_reducible refine Below.setCell ?_ ?_ _) | (with_reducible refine Below.drew ?_) | (with_reducible refine below_drewN ?_ _) | (with_reducible refine Below.trans ?_ (Below.mono (by assumption) ?_)) | go_size))))
            ((first | (go_at_call 90; (with_reducible refine (impl_indicesBeside r c x (some ⟨b, o, none⟩) l.length cap _ hG.r1 hG.r2 hG.c1 hG.c2 hG.cells hxn n90).mono ?_); rintro e w3 ⟨A3, c3, rfl, o3, n3, b3⟩) | fail))
          have bb : Below wr.heap.size wr w3 := by (repeat' (first | (with_reducible exact Below.refl _ _) | (with_reducible assumption) | (with_reducible refine Below.alloc ?_ ?_ _) | (with_reducible refine Below.setCell ?_ ?_ _) | (with_reducible refine Below.drew ?_) | (with_reducible refine below_drewN ?_ _) | (with_reducible refine Below.trans ?_ (Below.mono (by assumption) ?_)) | go_size))
          have n3' : New wr A3 := n3.mono (by (repeat' (first | (with_reducible exact Below.refl _ _) | (with_reducible assumption) | (with_reducible refine Below.alloc ?_ ?_ _) | (with_reducible refine Below.setCell ?_ ?_ _) | (with_reducible refine Below.drew ?_) | (with_reducible refine below_drewN ?_ _) | (with_reducible refine Below.trans ?_ (Below.mono (by assumption) ?_)) | go_size)) : Below wr.heap.size wr _).size
          rewrite [nI_length]
          have hS3 := hS.below bb
          have hN3 : NrS (w.heap.size + 1) (.slice (some ⟨g, 0, none⟩) q.length cap2) A3 (nearL c l.length x) w3 := ⟨o3, fun _ a ha => by
            have h1 := n3' a ha
            refine ⟨by omega, fun e => ?_⟩
            simp [Value.ownBlock] at e
            omega⟩
          have hN4 : NrS (w.heap.size + 1) vd A3 (nearL c l.length x) w3 := ⟨o3, fun _ a ha => by
            have h1 := n3' a ha
            refine ⟨by omega, fun e => ?_⟩
            have := irow_lt h3 e
            omega⟩
          have hne := near_len c l.length x
          clear KS b3 n3 n3' o3 bb hS h0 hz0 hzg hqk h0k0 h0k1 h0k2 hw rest h3
          generalize Value.slice (some (⟨g, 0, none⟩ : Addr)) q.length cap2 = v3 at *
          generalize hNL : nearL c l.length x = nl at *
          go_wp2_with fail
          go_loopw [10, 11, 39] (fun vv bd j wr => ∃ (m : Nat) (vq vd : Value), vq = vv ∧ vd = bd ∧ j = .int .i64 m ∧ m ≤ nl.length ∧ Sp2 w [.int .i64 (r : Int), .int .i64 (c : Int), .slice (some ⟨b, o, none⟩) l.length cap] B nB (opn (opE l) vs (brn (J l) vs q (nl.take m) ++ brn (emp l) (vs ++ q0) d (nl.take m))) vq (brn (J l) vs q (nl.take m)) vd (brn (emp l) (vs ++ q0) d (nl.take m)) wr ∧ NrS (w.heap.size + 1) vq A3 nl wr ∧ NrS (w.heap.size + 1) vd A3 nl wr) (fun _ _ j _ => nl.length - (intOf j).toNat)
          case atStart => exact ⟨0, _, _, rfl, rfl, rfl, Nat.zero_le _, hS3, hN3, hN4⟩
          case round =>
            clear hS3 hN3 hN4
            obtain ⟨m, vq, vd, rfl, rfl, rfl, hm, hS, hN, hN2⟩ := hrel
            have hfew := few_len (few_brn (nl.take m) q (fun y hy => HX.out y (List.mem_of_mem_take hy)) hq.1)
            have hqm : ∀ x ∈ brn (J l) vs q (nl.take m), x ∈ q0 ∨ J l x = true := fun x hx => by
              rcases mem_brn _ _ hx with h1 | ⟨_, h1, _⟩
              · exact (hqm0 x h1).elim .inl (fun q => .inr q.1)
              · exact .inr h1
            have hq0m : ∀ x ∈ q0, x ∈ brn (J l) vs q (nl.take m) := fun x hx => mem_brn_le _ _ (hq00 x hx)
            have hdm : ∀ x ∈ brn (emp l) (vs ++ q0) d (nl.take m), emp l x = true := fun x hx => by
              rcases mem_brn _ _ hx with h1 | ⟨_, h1, _⟩
              · exact hde x h1
              · exact h1
            have hdl : (brn (emp l) (vs ++ q0) d (nl.take m)).length ≤ l.length := few_len (few_of (J := J l) (v := vs) (brn_nodup _ _ hdn) (fun x hx => emp_lt (hdm x hx)))
            by_cases hml : m < nl.length
            · have HB := Lib.hid (brn_take (J l) vs q nl m hml)
              have HB2 := Lib.hid (brn_take (emp l) (vs ++ q0) d nl m hml)
              have hyn := HX.out _ (List.getElem_mem hml)
              obtain ⟨g3, rest3, rfl, hw3⟩ := hN.shape (by omega)
              have hy := row_num hw3 hml
              generalize nl[m] = y at *
              generalize brn (J l) vs q (nl.take m) = qm at *
              generalize brn (emp l) (vs ++ q0) d (nl.take m) = dm at *
              rcases Bool.eq_false_or_eq_true (opn (opE l) vs (qm ++ dm) y) with hop | hop
              · have hcase := sp_open hqm hq0m hdm hop
                clear hqm hq0m hdm
                go_wp2_with (first | (at_lookup; refine wpList_look_keys rfl _ _ rfl B nB _ rfl hS.2.2.2.2.1 y rfl (by omega) ?_; rewrite [hop]) | (at_delete; refine wpList_del_keys rfl _ _ rfl B nB _ rfl hS.2.2.2.2.1 y rfl (by omega) ?_; intro w4 hK4 hg4; have hS4 := hS.del hK4 hg4; have hN4 := hN.del hS.2.2.2.2.1 hg4; have hN24 := hN2.del hS.2.2.2.2.1 hg4; have h0 := hS4.1; (have h0k0 : w4.cell? ⟨w.heap.size, 0, none⟩ = some (.int .i64 (r : Int)) := (h0.cell 0).trans rfl; have h0k1 : w4.cell? ⟨w.heap.size, 1, none⟩ = some (.int .i64 (c : Int)) := (h0.cell 1).trans rfl; have h0k2 : w4.cell? ⟨w.heap.size, 2, none⟩ = some (.slice (some ⟨b, o, none⟩) l.length cap) := (h0.cell 2).trans rfl); have hc0 := hk0.cells hS4.2.2.2.2.2 (cell_two hc hyn).1; have hc1 := hk0.cells hS4.2.2.2.2.2 (cell_two hc hyn).2) | fail)
                have HJ := Lib.hid (J_at hyn)
                refine (impl_isJoining _ _ _).mono ?_; rintro e w5 ⟨rfl, b5⟩
                rewrite [← HJ.out]
                have hS5 := hS4.below b5
                have hN5 := hN4.below b5
                have hN25 := hN24.below b5
                have hz5 : w.heap.size + 1 ≤ w5.heap.size := hS5.1.lt
                clear hS hN hN2 hS4 hN4 hN24 hK4 hg4 h0 h0k0 h0k1 h0k2 hc0 hc1 b5 hw3 hy
                rcases hcase with ⟨hJ, hb1, hb2⟩ | ⟨hJ, hb1, hb2⟩
                · rewrite [hb1] at HB
                  rewrite [hb2] at HB2
                  rewrite [hJ]
                  clear hb1 hb2 HJ hJ
                  go_wp2_with (first | (at_builtin; refine wpList_push (x0 := (y : Int)) hS5.2.1 (by rw [nI_length]; omega) hz5 rfl _ _ rfl rfl rfl ?_; intro v6 w6 hrow6 hg6 hb6 hl6; have hS6 := hS5.push hrow6 rfl hg6 hb6 hl6; have hN6 := hN5.push hg6 hl6; have hN26 := hN5.other hN25 hg6) | fail)
                  clear hS5 hN5 hN25 hrow6 hg6 hb6 hl6
                  go_roundw
                  case rel => exact ⟨m + 1, _, _, rfl, rfl, by go_num, by omega, by rw [HB.out, HB2.out]; exact hS6.congr (fun j _ => by rw [opn_perm (p := (qm ++ [y]) ++ dm) (p' := (qm ++ dm) ++ [y]) (fun x => by simp; constructor <;> (intro h; rcases h with h | h | h <;> simp [h])), opn_snoc]), hN6, hN26⟩
                  case measure => simp [intOf]; omega
                · rewrite [hb1] at HB
                  rewrite [hb2] at HB2
                  rewrite [hJ]
                  clear hb1 hb2 HJ hJ
                  go_wp2_with (first | (at_builtin; refine wpList_push (x0 := (y : Int)) hS5.2.2.1 (by rw [nI_length]; omega) hz5 rfl _ _ rfl rfl rfl ?_; intro v6 w6 hrow6 hg6 hb6 hl6; have hS6 := (hS5.swap.push hrow6 rfl hg6 hb6 hl6).swap; have hN26 := hN25.push hg6 hl6; have hN6 := hN25.other hN5 hg6) | fail)
                  clear hS5 hN5 hN25 hrow6 hg6 hb6 hl6
                  go_roundw
                  case rel => exact ⟨m + 1, _, _, rfl, rfl, by go_num, by omega, by rw [HB.out, HB2.out]; exact hS6.congr (fun j _ => by rw [← List.append_assoc, opn_snoc]), hN6, hN26⟩
                  case measure => simp [intOf]; omega
              · obtain ⟨hb1, hb2⟩ := sp_shut hqm hq0m hdm hop
                rewrite [hb1] at HB
                rewrite [hb2] at HB2
                clear hqm hq0m hdm hb1 hb2
                go_wp2_with (first | (at_lookup; refine wpList_look_keys rfl _ _ rfl B nB _ rfl hS.2.2.2.2.1 y rfl (by omega) ?_; rewrite [hop]) | fail)
                go_roundw
                case rel => exact ⟨m + 1, _, _, rfl, rfl, by go_num, by omega, by rw [HB.out, HB2.out]; exact hS, hN, hN2⟩
                case measure => simp [intOf]; omega
            · obtain rfl : m = nl.length := by omega
              clear hqm hq0m hdm
              rw [List.take_length, ← HS1.out, ← HS2.out] at hS
              have hlen : k + 1 ≤ (brs (J l) (nearL c l.length) vs q0 (k + 1)).length := by
                rw [HS1.out]
                have := (brn_prefix (J := J l) (v := vs) nl q).length_le
                omega
              clear HS1 HS2 HX
              go_wp2
              go_roundw
              case rel => exact ⟨k + 1, _, _, rfl, rfl, by go_num, hlen, hS⟩
              case measure => simp [intOf]; omega
        · have hend := brs_end (J := J l) (near := nearL c l.length) (v := vs) (q := q0) (k := k) (n := l.length) (by omega) (by omega)
          have hbe := bdr_end (J := J l) (E := emp l) (near := nearL c l.length) (v := vs) (q := q0) (k := k) (n := l.length) (by omega) (by omega)
          have hQ : brs (J l) (nearL c l.length) vs q0 k = lvQ (J l) (nearL c l.length) l.length (vs, q0) := hend
          rw [hbe, hQ] at hS
          rw [hQ] at hkl hlt hqn
          clear hend hbe hQ hq hqm0 hq00 hde hdn
          have hpQ : 0 < (lvQ (J l) (nearL c l.length) l.length (vs, q0)).length := by
            have := List.length_pos_of_mem (HL'.out _ (List.getElem_mem hp) l.length)
            exact this
          obtain ⟨g, cap2, rest, rfl, hw⟩ := hS.shape hpQ
          have hlt' : ¬ (k : Int) < ((lvQ (J l) (nearL c l.length) l.length (vs, q0)).length : Int) := by omega
          go_wp2
          go_returns
          exact ⟨_, _, rfl, hS.2.1, hS.2.2.1, hS.2.2.2.2.1, hS.2.2.2.2.2⟩
end Go.Proofs.Ytkgbbondafcjpaa
