/- The law on several marbles holds: the walk of its own text. -/
import Derived.Test.YtlnekfbhpfhcpaaGreatM10
import Derived.Test.YtlnekfbhpfhcpaaGreatM8
import Derived.Test.YtlnekfbhpfhcpaaGreatM9
import Derived.Deep.RegionHeld3
import Derived.Deep.QuietTactic
import Derived.BigQuiet
import Derived.Deep.DeepCutAuto
import Derived.Deep.CutRange
namespace Go.Proofs.YtlnekfbhpfhcpaaGreat
open Go.ChangeShapes Go.WideShapes Go.ChangeAt Go.RowKit Go.Joins Go.Deep
set_option linter.unusedSimpArgs false
set_option linter.unusedVariables false
set_option maxRecDepth 100000
set_option maxHeartbeats 20000000
theorem FnSeveralMarbles_walk0 (A : Option Addr) (cap : Nat) (l : List Int) (A' : Option Addr) (cap' : Nat) (m : List Int) (w : World) (h : Bytes w A l) (h' : Bytes w A' m) :
    Calls Tryz.prog 3 #[.slice A l.length cap, .slice A' m.length cap'] w fun e w' => e = .returned (.bool true) ∧ Below w.heap.size w w' := by
  have K : Kept w (fun v => Bytes v A l ∧ Bytes v A' m ∧ Below w.heap.size w v) := ((below_kept (Below.refl _ _) (Nat.le_refl _)).add h'.kept).add h.kept
  clear h h'
  by_cases hlen : 1048576 < wrap64 ((l.length : Int) + (m.length : Int))
  · go_enter Tryz.func3, Tryz.ntmps3
    go_wp2
    go_returns
    exact ⟨rfl, Below.refl _ _⟩
  go_enter Tryz.func3, Tryz.ntmps3
  go_wp2_with fail
  refine (DrawFallsOf_any _ _ l w (K.out.1)).mono ?_; rintro e w1 ⟨R0, C0, A0, k0, l0, D0, kd0, cs0, rfl, bo, co, bb⟩
  replace K := (K.step bb).add (rd_kept co.2.2.1.rd)
  have hn0 : l0.length ≤ 90 := bo.few
  have hm0 : cs0.length ≤ 61 := co.1
  have hro0 : cs0.length ≤ kd0 := co.2.1
  go_upto_region 4 with (fail)
  obtain ⟨w2, hv, X, bb, hz⟩ := one_box w1 [.int .i64 R0, .int .i64 C0, .slice A0 l0.length k0] 25
  rewrite [hv]
  have kb := box_kept (bo.own.rd) X bb
  generalize w1.heap.size = gb at kb ⊢
  replace K := (K.step bb).add kb
  clear hv X bb hz kb
  clear bo co
  obtain ⟨R1, C1, M0, F0, N0, o0, hE⟩ : ∃ R1 C1 M0 F0 N0 o0, selI (okC' R0 C0 l0 cs0) R0 = R1 ∧ selI (okC' R0 C0 l0 cs0) C0 = C1 ∧ (fallsO R0 C0 l0 cs0).2 = M0 ∧ (fallsO R0 C0 l0 cs0).1 = F0 ∧ arrL R0 C0 l0 cs0 = N0 ∧ okC' R0 C0 l0 cs0 = o0 := ⟨_, _, _, _, _, _, rfl, rfl, rfl, rfl, rfl, rfl⟩
  have HE0 := Lib.hid hE
  have hF0 := falls_few R0 C0 l0 cs0 hn0
  have hN0 := arrL_len R0 C0 l0 cs0
  try rewrite [HE0.out.1] at hF0
  try rewrite [HE0.out.2.1] at hF0
  try rewrite [HE0.out.2.2.1] at hF0
  try rewrite [HE0.out.2.2.2.1] at hF0
  try rewrite [HE0.out.2.2.2.2.1] at hF0
  try rewrite [HE0.out.2.2.2.2.2] at hF0
  try rewrite [HE0.out.1] at hN0
  try rewrite [HE0.out.2.1] at hN0
  try rewrite [HE0.out.2.2.1] at hN0
  try rewrite [HE0.out.2.2.2.1] at hN0
  try rewrite [HE0.out.2.2.2.2.1] at hN0
  try rewrite [HE0.out.2.2.2.2.2] at hN0
  clear hE
  obtain ⟨q00, q01, q02⟩ := whole3 (K.out.1).1
  go_wp2_with fail
  clear q00 q01 q02
  have hc := impl_FallsOf R0 C0 A0 k0 l0 D0 kd0 cs0 w2 (by omega) (K.out.1).2 (by omega) (K.out.2.1)
  try rewrite [HE0.out.1] at hc
  try rewrite [HE0.out.2.1] at hc
  try rewrite [HE0.out.2.2.1] at hc
  try rewrite [HE0.out.2.2.2.1] at hc
  try rewrite [HE0.out.2.2.2.2.1] at hc
  try rewrite [HE0.out.2.2.2.2.2] at hc
  refine hc.mono ?_; rintro e w3 ⟨A1, cA1, A2, cA2, rfl, oF, nF, oC, nC, bb⟩
  clear hc
  replace K := K.step bb
  replace K := K.add (rd_kept oF.rd)
  clear oF nF nC bb
  go_upto_region 5 with (fail)
  obtain ⟨w4, hv, X, bb, hz⟩ := one_box w3 [.int .i64 R1, .int .i64 C1, .slice A2 M0.length cA2] 25
  rewrite [hv]
  have kb := box_kept (oC.rd) X bb
  generalize w3.heap.size = gfB at kb ⊢
  replace K := (K.step bb).add kb
  clear hv X bb hz kb
  clear oC
  obtain ⟨q00, q01, q02⟩ := whole3 (K.out.2.2.1).1
  go_wp2_with fail
  clear q00 q01 q02
  have hc := spec_FallsOfR R0 C0 A0 k0 l0 D0 kd0 cs0 w4 (by omega) (K.out.2.2.1).2 (by omega) (K.out.2.2.2.1)
  try rewrite [HE0.out.1] at hc
  try rewrite [HE0.out.2.1] at hc
  try rewrite [HE0.out.2.2.1] at hc
  try rewrite [HE0.out.2.2.2.1] at hc
  try rewrite [HE0.out.2.2.2.2.1] at hc
  try rewrite [HE0.out.2.2.2.2.2] at hc
  refine hc.mono ?_; rintro e w5 ⟨A3, cA3, A4, cA4, rfl, hroA3, oF, nF, oC, nC, bb⟩
  clear hc
  replace K := K.step bb
  replace K := K.add (rd_kept oF.rd)
  clear oF nF nC bb
  go_upto_region 6 with (fail)
  obtain ⟨w6, hv, X, bb, hz⟩ := one_box w5 [.int .i64 R1, .int .i64 C1, .slice A4 M0.length cA4] 25
  rewrite [hv]
  have kb := box_kept (oC.rd) X bb
  generalize w5.heap.size = gfallsB at kb ⊢
  replace K := (K.step bb).add kb
  clear hv X bb hz kb
  clear oC
  as_aux_lemma =>
    obtain ⟨q00, q01, q02⟩ := whole3 (K.out.2.2.2.2.1).1
    go_wp2_with fail
    clear q00 q01 q02
    have hc := impl_ArrivalCounts R0 C0 A0 k0 l0 D0 kd0 cs0 w6 (by omega) (K.out.2.2.2.2.1).2 (by omega) (K.out.2.2.2.2.2.1)
    try rewrite [HE0.out.1] at hc
    try rewrite [HE0.out.2.1] at hc
    try rewrite [HE0.out.2.2.1] at hc
    try rewrite [HE0.out.2.2.2.1] at hc
    try rewrite [HE0.out.2.2.2.2.1] at hc
    try rewrite [HE0.out.2.2.2.2.2] at hc
    refine hc.mono ?_; rintro e w7 ⟨A5, cA5, rfl, o, nn, bb⟩
    clear hc
    replace K := K.step bb
    replace K := K.add (rd_kept o.rd)
    clear o nn bb
    obtain ⟨q00, q01, q02⟩ := whole3 (K.out.2.2.2.2.2.1).1
    go_wp2_with fail
    clear q00 q01 q02
    have hc := spec_ArrivalCounts R0 C0 A0 k0 l0 D0 kd0 cs0 w7 (by omega) (K.out.2.2.2.2.2.1).2 (by omega) (K.out.2.2.2.2.2.2.1)
    try rewrite [HE0.out.1] at hc
    try rewrite [HE0.out.2.1] at hc
    try rewrite [HE0.out.2.2.1] at hc
    try rewrite [HE0.out.2.2.2.1] at hc
    try rewrite [HE0.out.2.2.2.2.1] at hc
    try rewrite [HE0.out.2.2.2.2.2] at hc
    refine hc.mono ?_; rintro e w8 ⟨A6, cA6, rfl, o, nn, bb⟩
    clear hc
    replace K := K.step bb
    replace K := K.add (rd_kept o.rd)
    clear o nn bb
    as_aux_lemma =>
      go_wp2_with fail
      refine (DrawColumnsTo_any _ _ m w8 (K.out.2.2.2.2.2.2.2.2.2.1)).mono ?_; rintro e w9 ⟨R3, C3, B3, k3, l3, j3, rfl, hj3, bo, bb⟩
      replace K := K.step bb
      have hn3 : l3.length ≤ 90 := bo.few
      go_upto_region 9 with (fail)
      obtain ⟨w10, hv, X, bb, hz⟩ := one_box w9 [.int .i64 R3, .int .i64 C3, .slice B3 l3.length k3] 25
      rewrite [hv]
      have kb := box_kept (bo.own.rd) X bb
      generalize w9.heap.size = gd at kb ⊢
      replace K := (K.step bb).add kb
      clear hv X bb hz kb
      clear bo
      obtain ⟨E3, o3, hE⟩ : ∃ E3 o3, colsO R3 C3 l3 j3 = E3 ∧ okF R3 C3 l3 j3 = o3 := ⟨_, _, rfl, rfl⟩
      have HE3 := Lib.hid hE
      have hE3 := colsO_len R3 C3 l3 j3
      try rewrite [HE3.out.1] at hE3
      try rewrite [HE3.out.2] at hE3
      clear hE
      obtain ⟨P3, o4, hE⟩ : ∃ P3 o4, metL R3 C3 l3 = P3 ∧ goodB R3 C3 l3 = o4 := ⟨_, _, rfl, rfl⟩
      have HE4 := Lib.hid hE
      have hP3 := metL_len R3 C3 l3 (by omega)
      try rewrite [HE4.out.1] at hP3
      try rewrite [HE4.out.2] at hP3
      clear hE
      obtain ⟨q00, q01, q02⟩ := whole3 (K.out.1).1
      go_wp2_with fail
      clear q00 q01 q02
      have hc := impl_ColumnsTo R3 C3 B3 k3 l3 j3 w10 (by omega) (K.out.1).2
      try rewrite [HE3.out.1] at hc
      try rewrite [HE3.out.2] at hc
      refine hc.mono ?_; rintro e w11 ⟨A7, cA7, rfl, o, nn, bb⟩
      clear hc
      replace K := K.step bb
      replace K := K.add (rd_kept o.rd)
      clear o nn bb
      obtain ⟨q00, q01, q02⟩ := whole3 (K.out.2.1).1
      go_wp2_with fail
      clear q00 q01 q02
      have hc := spec_ColumnsTo R3 C3 B3 k3 l3 j3 w11 (by omega) (K.out.2.1).2
      try rewrite [HE3.out.1] at hc
      try rewrite [HE3.out.2] at hc
      refine hc.mono ?_; rintro e w12 ⟨A8, cA8, rfl, o, nn, bb⟩
      clear hc
      replace K := K.step bb
      replace K := K.add (rd_kept o.rd)
      clear o nn bb
      obtain ⟨q00, q01, q02⟩ := whole3 (K.out.2.2.1).1
      go_wp2_with fail
      clear q00 q01 q02
      have hc := impl_MetCells R3 C3 B3 k3 l3 w12 (by omega) (K.out.2.2.1).2
      try rewrite [HE4.out.1] at hc
      try rewrite [HE4.out.2] at hc
      refine hc.mono ?_; rintro e w13 ⟨A9, cA9, rfl, o, nn, bb⟩
      clear hc
      replace K := K.step bb
      replace K := K.add (rd_kept o.rd)
      clear o nn bb
      obtain ⟨q00, q01, q02⟩ := whole3 (K.out.2.2.2.1).1
      go_wp2_with fail
      clear q00 q01 q02
      have hc := spec_MetCells R3 C3 B3 k3 l3 w13 (by omega) (K.out.2.2.2.1).2
      try rewrite [HE4.out.1] at hc
      try rewrite [HE4.out.2] at hc
      refine hc.mono ?_; rintro e w14 ⟨A10, cA10, rfl, o, nn, bb⟩
      clear hc
      replace K := K.step bb
      replace K := K.add (rd_kept o.rd)
      clear o nn bb
      as_aux_lemma =>
        go_wp2_with fail
        refine (DrawSameFalls_any _ _ m w14 (K.out.2.2.2.2.2.2.2.2.2.2.2.2.2.2.1)).mono ?_; rintro e w15 ⟨R5, C5, B5, k5, l5, R6, C6, B6, k6, l6, rfl, bo, bo2, bb⟩
        replace K := K.step bb
        have hn5 : l5.length ≤ 90 := bo.few
        have hn6 : l6.length ≤ 90 := bo2.few
        go_upto_region 14 with (fail)
        obtain ⟨w16, hv, X, Y, bb, hz⟩ := two_boxes w15 [.int .i64 R5, .int .i64 C5, .slice B5 l5.length k5] 25 [.int .i64 R6, .int .i64 C6, .slice B6 l6.length k6] 25
        rewrite [hv]
        have kb := box_kept (bo.own.rd) X bb
        have kc := box_kept (bo2.own.rd) Y bb
        obtain ⟨gy, hg⟩ : ∃ g, w15.heap.size + 1 = g := ⟨_, rfl⟩
        rewrite [hg] at kc ⊢
        generalize w15.heap.size = gx at kb ⊢
        replace K := ((K.step bb).add kc).add kb
        clear hv X Y bb hz kb kc hg
        clear bo bo2
        obtain ⟨s5, o5, hE⟩ : ∃ s5 o5, sameF R5 C5 l5 R6 C6 l6 = s5 ∧ okS R5 C5 l5 R6 C6 l6 = o5 := ⟨_, _, rfl, rfl⟩
        have HE5 := Lib.hid hE
        clear hE
        obtain ⟨q00, q01, q02⟩ := whole3 (K.out.1).1
        obtain ⟨q10, q11, q12⟩ := whole3 (K.out.2.1).1
        go_wp2_with fail
        clear q00 q01 q02
        clear q10 q11 q12
        have hc := impl_SameFalls R5 C5 B5 k5 l5 R6 C6 B6 k6 l6 w16 (by omega) (K.out.1).2 (by omega) (K.out.2.1).2
        try rewrite [HE5.out.1] at hc
        try rewrite [HE5.out.2] at hc
        refine hc.mono ?_; rintro e w17 ⟨rfl, bb⟩
        clear hc
        replace K := K.step bb
        clear bb
        obtain ⟨q00, q01, q02⟩ := whole3 (K.out.1).1
        obtain ⟨q10, q11, q12⟩ := whole3 (K.out.2.1).1
        go_wp2_with fail
        clear q00 q01 q02
        clear q10 q11 q12
        have hc := spec_SameFalls R5 C5 B5 k5 l5 R6 C6 B6 k6 l6 w17 (by omega) (K.out.1).2 (by omega) (K.out.2.1).2
        try rewrite [HE5.out.1] at hc
        try rewrite [HE5.out.2] at hc
        refine hc.mono ?_; rintro e w18 ⟨rfl, bb⟩
        clear hc
        replace K := K.step bb
        clear bb
        as_aux_lemma =>
          go_wp2_with fail
          refine (DrawFirstDifferent_any _ _ m w18 (K.out.2.2.2.2.2.2.2.2.2.2.2.2.2.2.2.2.1)).mono ?_; rintro e w19 ⟨R7, C7, B7, k7, l7, R8, C8, B8, k8, l8, D7, kd7, cs7, rfl, bo, bo2, co, bb⟩
          replace K := (K.step bb).add (rd_kept co.2.2.1.rd)
          have hn7 : l7.length ≤ 90 := bo.few
          have hn8 : l8.length ≤ 90 := bo2.few
          have hm7 : cs7.length ≤ 61 := co.1
          go_upto_region 17 with (fail)
          obtain ⟨w20, hv, X, Y, bb, hz⟩ := two_boxes w19 [.int .i64 R7, .int .i64 C7, .slice B7 l7.length k7] 25 [.int .i64 R8, .int .i64 C8, .slice B8 l8.length k8] 25
          rewrite [hv]
          have kb := box_kept (bo.own.rd) X bb
          have kc := box_kept (bo2.own.rd) Y bb
          obtain ⟨gv, hg⟩ : ∃ g, w19.heap.size + 1 = g := ⟨_, rfl⟩
          rewrite [hg] at kc ⊢
          generalize w19.heap.size = gu at kb ⊢
          replace K := ((K.step bb).add kc).add kb
          clear hv X Y bb hz kb kc hg
          clear bo bo2 co
          obtain ⟨i7, o7, hE⟩ : ∃ i7 o7, (firstD R7 C7 l7 R8 C8 l8 cs7).getD 0 = i7 ∧ (firstD R7 C7 l7 R8 C8 l8 cs7).isSome = o7 := ⟨_, _, rfl, rfl⟩
          have HE7 := Lib.hid hE
          clear hE
          obtain ⟨q00, q01, q02⟩ := whole3 (K.out.1).1
          obtain ⟨q10, q11, q12⟩ := whole3 (K.out.2.1).1
          go_wp2_with fail
          clear q00 q01 q02
          clear q10 q11 q12
          have hc := impl_FirstDifferent R7 C7 B7 k7 l7 R8 C8 B8 k8 l8 D7 kd7 cs7 w20 (by omega) (K.out.1).2 (by omega) (K.out.2.1).2 (by omega) (K.out.2.2.1)
          try rewrite [HE7.out.1] at hc
          try rewrite [HE7.out.2] at hc
          refine hc.mono ?_; rintro e w21 ⟨rfl, bb⟩
          clear hc
          replace K := K.step bb
          clear bb
          obtain ⟨q00, q01, q02⟩ := whole3 (K.out.1).1
          obtain ⟨q10, q11, q12⟩ := whole3 (K.out.2.1).1
          go_wp2_with fail
          clear q00 q01 q02
          clear q10 q11 q12
          have hc := spec_FirstDifferent R7 C7 B7 k7 l7 R8 C8 B8 k8 l8 D7 kd7 cs7 w21 (by omega) (K.out.1).2 (by omega) (K.out.2.1).2 (by omega) (K.out.2.2.1)
          try rewrite [HE7.out.1] at hc
          try rewrite [HE7.out.2] at hc
          refine hc.mono ?_; rintro e w22 ⟨rfl, bb⟩
          clear hc
          replace K := K.step bb
          clear bb
          as_aux_lemma =>
            go_wp2_with fail
            refine (qFalls_same A1 A3 cA1 cA3 F0 F0.length w22 rfl (by omega) (K.out.2.2.2.2.2.2.2.2.2.2.2.2.2.2.2.1) (K.out.2.2.2.2.2.2.2.2.2.2.2.2.2.1)).mono ?_; rintro e w23 ⟨rfl, bb⟩
            replace K := K.step bb
            clear bb
            obtain ⟨q00, q01, q02⟩ := whole3 (K.out.2.2.2.2.2.2.2.2.2.2.2.2.2.2.1).1
            obtain ⟨q10, q11, q12⟩ := whole3 (K.out.2.2.2.2.2.2.2.2.2.2.2.2.1).1
            go_wp2_with fail
            clear q00 q01 q02
            clear q10 q11 q12
            refine (qBoard_same R1 C1 A2 cA2 M0 A4 cA4 w23 (by omega) (K.out.2.2.2.2.2.2.2.2.2.2.2.2.2.2.1).2 (K.out.2.2.2.2.2.2.2.2.2.2.2.2.1).2).mono ?_; rintro e w24 ⟨rfl, bb⟩
            replace K := K.step bb
            clear bb
            go_wp2_with fail
            refine (qInts_same A5 A6 cA5 cA6 N0 w24 hN0 (K.out.2.2.2.2.2.2.2.2.2.2.2.1) (K.out.2.2.2.2.2.2.2.2.2.2.1)).mono ?_; rintro e w25 ⟨rfl, bb⟩
            replace K := K.step bb
            clear bb
            go_wp2_with fail
            refine (qInts_same A7 A8 cA7 cA8 E3 w25 hE3 (K.out.2.2.2.2.2.2.2.2.1) (K.out.2.2.2.2.2.2.2.1)).mono ?_; rintro e w26 ⟨rfl, bb⟩
            replace K := K.step bb
            clear bb
            go_wp2_with fail
            refine (qInts_same A9 A10 cA9 cA10 P3 w26 hP3 (K.out.2.2.2.2.2.2.1) (K.out.2.2.2.2.2.1)).mono ?_; rintro e w27 ⟨rfl, bb⟩
            replace K := K.step bb
            clear bb
            go_upto_if 246 with (fail)
            go_cut [4] from 246 to 246 (fun _ wx => Below w27.heap.size w27 wx)
            case first => as_aux_lemma =>
              cases o3 with
              | false =>
                go_wp2_with fail
                go_meet
                exact Below.refl _ _
              | true =>
                have ho3 : okF R3 C3 l3 j3 = true := HE3.out.2
                obtain ⟨hc3, hg3⟩ := okF_cols ho3
                have ho4 : goodB R3 C3 l3 = o4 := HE4.out.2
                rewrite [hg3] at ho4
                subst ho4
                obtain ⟨c, rfl⟩ := Int.eq_ofNat_of_zero_le (show 0 ≤ C3 by omega)
                have HO3 := Lib.hid ho3
                clear ho3 hg3
                go_wp2_with fail
                go_loopw [40] (fun z wr => ∃ k : Nat, z = .int .i64 k ∧ k ≤ c ∧ Below w27.heap.size w27 wr) (fun z _ => c - (intOf z).toNat)
                case atStart => exact ⟨0, rfl, Nat.zero_le _, Below.refl _ _⟩
                case round => as_aux_lemma =>
                  obtain ⟨k, rfl, hk, hb⟩ := hrel
                  replace K := (K.step hb).add (below_kept hb hb.size)
                  obtain ⟨q00, q01, q02⟩ := whole3 (K.out.2.2.2.2.2.2.2.2.2.2.1).1
                  by_cases hlt : k < c
                  · have EF := entry_facts HO3.out (k := k) (by omega)
                    obtain ⟨e9, he9⟩ : ∃ x, (marO R3 (c : Int) l3 (k : Int)).e = x := ⟨_, rfl⟩
                    obtain ⟨r9, hr9⟩ : ∃ x, (marO R3 (c : Int) l3 (k : Int)).row = x := ⟨_, rfl⟩
                    obtain ⟨f9, hf9⟩ : ∃ x, (marO R3 (c : Int) l3 (k : Int)).col = x := ⟨_, rfl⟩
                    obtain ⟨W9, hW9⟩ : ∃ x, wayM R3 (c : Int) l3 (k : Int) = x := ⟨_, rfl⟩
                    rewrite [he9, hr9, hf9, hW9] at EF
                    clear he9 hr9 hf9 hW9
                    have hkc : (k : Int) < (c : Int) := by omega
                    clear q00 q01 q02
                    obtain ⟨q00, q01, q02⟩ := whole3 (K.out.2.2.2.2.2.2.2.2.2.2.1).1
                    go_wp2_with fail
                    clear q00 q01 q02
                    refine (fallof_callI R3 (c : Int) B3 k3 l3 (k : Int) wr (by omega) (K.out.2.2.2.2.2.2.2.2.2.2.1).2 e9 r9 f9 EF.ok EF.fe EF.frow EF.fcol).mono ?_; rintro e w28 ⟨rfl, bb⟩
                    replace K := K.step bb
                    clear bb
                    go_upto_region 26 with (fail)
                    obtain ⟨w29, hv, X, bb, hz⟩ := one_box w28 [.int .i64 e9, .int .i64 r9, .int .i64 f9] 50
                    rewrite [hv]
                    have kb := Whole.kept X
                    generalize w28.heap.size = gfall at kb ⊢
                    replace K := (K.step bb).add kb
                    clear hv X bb hz kb
                    obtain ⟨q00, q01, q02⟩ := whole3 (K.out.2.2.2.2.2.2.2.2.2.2.2.1).1
                    go_wp2_with fail
                    clear q00 q01 q02
                    refine (fallof_callS R3 (c : Int) B3 k3 l3 (k : Int) w29 (by omega) (K.out.2.2.2.2.2.2.2.2.2.2.2.1).2 e9 r9 f9 EF.ok EF.fe EF.frow EF.fcol).mono ?_; rintro e w30 ⟨rfl, bb⟩
                    replace K := K.step bb
                    clear bb
                    go_upto_region 27 with (fail)
                    obtain ⟨w31, hv, X, bb, hz⟩ := one_box w30 [.int .i64 e9, .int .i64 r9, .int .i64 f9] 50
                    rewrite [hv]
                    have kb := Whole.kept X
                    generalize w30.heap.size = gknown at kb ⊢
                    replace K := (K.step bb).add kb
                    clear hv X bb hz kb
                    obtain ⟨q00, q01, q02⟩ := whole3 (K.out.2.2.2.2.2.2.2.2.2.2.2.2.1).1
                    go_wp2_with fail
                    clear q00 q01 q02
                    refine (wayof_callI R3 (c : Int) B3 k3 l3 (k : Int) w31 (by omega) (K.out.2.2.2.2.2.2.2.2.2.2.2.2.1).2 W9 EF.ok EF.way).mono ?_; rintro e w32 ⟨A20, cA20, rfl, oS, bb⟩
                    replace K := (K.step bb).add (rdss_kept oS)
                    clear bb oS
                    obtain ⟨q00, q01, q02⟩ := whole3 (K.out.2.2.2.2.2.2.2.2.2.2.2.2.2.1).1
                    go_wp2_with fail
                    clear q00 q01 q02
                    refine (wayof_callS R3 (c : Int) B3 k3 l3 (k : Int) w32 (by omega) (K.out.2.2.2.2.2.2.2.2.2.2.2.2.2.1).2 W9 EF.ok EF.way).mono ?_; rintro e w33 ⟨A21, cA21, rfl, oS, bb⟩
                    replace K := (K.step bb).add (rdss_kept oS)
                    clear bb oS
                    go_upto_region 29 with (fail)
                    go_cut [316] from 277 to 316 (fun z wx => z = .bool false ∧ Below w33.heap.size w33 wx)
                    case first => as_aux_lemma =>
                      have hE3' : colsO R3 (c : Int) l3 j3 = E3 := HE3.out.1
                      have hhas := EF.has
                      rewrite [hE3'] at hhas
                      have hr1 := K.out.2.1
                      have hr2 := K.out.1
                      have hr3 := K.out.2.2.2.2.2.2.2.2.2.2.2.2.1
                      obtain ⟨p0, p1, p2⟩ := whole3 (K.out.2.2.2.1)
                      obtain ⟨p3, p4, p5⟩ := whole3 (K.out.2.2.1)
                      have h0 := heldFall
                      have h1 := guardFall
                      have hf1 := EF.few
                      have hf2 := EF.small
                      clear hE3' K EF
                      by_cases he : e9 = 1
                      · by_cases hf : f9 = j3
                        · have hN : (k : Int) ∈ E3 := by
                            rw [decide_eq_true he, decide_eq_true hf] at hhas
                            exact of_decide_eq_true hhas
                          have HN := Lib.hid hN
                          clear hN hhas
                          subst he hf
                          go_quiet ((first | (go_at_call 27; exact qLists_at A20 A21 cA20 cA21 W9 W9.length w33 _ rfl hf1 hf2 hr1 hr2) | (go_at_call 28; exact qHas_yes A8 cA8 E3 (k : Int) w33 _ hE3 hr3 HN.out) | fail))
                          go_wp2_with fail
                          go_meet
                          exact ⟨rfl, below_drewN (Below.refl _ _) _⟩
                        · have hN : ¬ (k : Int) ∈ E3 := by
                            rw [decide_eq_false hf, Bool.and_false] at hhas
                            exact of_decide_eq_false hhas
                          have HN := Lib.hid hN
                          have hd2 : (f9 == j3) = false := by simpa using hf
                          clear hN hhas
                          subst he
                          go_quiet ((first | (go_at_call 27; exact qLists_at A20 A21 cA20 cA21 W9 W9.length w33 _ rfl hf1 hf2 hr1 hr2) | (go_at_call 28; exact qHas_no A8 cA8 E3 (k : Int) w33 _ hE3 hr3 HN.out) | fail))
                          go_wp2_with fail
                          go_meet
                          exact ⟨rfl, below_drewN (Below.refl _ _) _⟩
                      · have hN : ¬ (k : Int) ∈ E3 := by
                          rw [decide_eq_false he, Bool.false_and] at hhas
                          exact of_decide_eq_false hhas
                        have HN := Lib.hid hN
                        have hd1 : (e9 == 1) = false := by simpa using he
                        clear hN hhas
                        go_quiet ((first | (go_at_call 27; exact qLists_at A20 A21 cA20 cA21 W9 W9.length w33 _ rfl hf1 hf2 hr1 hr2) | (go_at_call 28; exact qHas_no A8 cA8 E3 (k : Int) w33 _ hE3 hr3 HN.out) | fail))
                        go_wp2_with fail
                        go_meet
                        exact ⟨rfl, below_drewN (Below.refl _ _) _⟩
                    case rest => as_aux_lemma =>
                      rename World => wq
                      obtain ⟨rfl, hcut⟩ := hcut
                      replace K := K.step hcut
                      clear hcut
                      go_wp2_with fail
                      go_loopw [319, 50] (fun z _ wx => ∃ i : Nat, z = .int .i64 i ∧ i ≤ W9.length ∧ Below wq.heap.size wq wx) (fun z _ _ => W9.length - (intOf z).toNat)
                      case atStart => exact ⟨0, rfl, Nat.zero_le _, Below.refl _ _⟩
                      case round => as_aux_lemma =>
                        rename World => wi
                        obtain ⟨i, rfl, hi, hb2⟩ := hrel
                        replace K := K.step hb2
                        by_cases hil : i < W9.length
                        · obtain ⟨a, b, e2, ha, hb', hac, hmem⟩ := EF.met i hil
                          have hP3' : metL R3 (c : Int) l3 = P3 := HE4.out.1
                          rewrite [hP3'] at hmem
                          obtain ⟨b0, o0', b1, o1, c1', eA, m0, m1, m2⟩ := row_two (K.out.1) hil e2
                          subst eA
                          have hr3 := K.out.2.2.2.2.2.2.2.2.2.2.1
                          have hbh := K.out.2.2.2.2.1
                          obtain ⟨q00, q01, q02⟩ := whole3 (K.out.2.2.2.2.2.2.2.2.2.2.2.2.2.2.1).1
                          obtain ⟨p, hp⟩ : ∃ p, a * (c : Int) = p := ⟨_, rfl⟩
                          rewrite [hp] at hmem hac
                          obtain ⟨v, hv⟩ : ∃ v, p + b = v := ⟨_, rfl⟩
                          rewrite [hv] at hmem
                          have m4 : IntKind.i64.wrap (a * (c : Int)) = p := by rw [hp]; exact IntWalk.i64_in _ (by omega)
                          have m5 : IntKind.i64.wrap (p + b) = v := by rw [hv]; exact IntWalk.i64_in _ (by omega)
                          have HM := Lib.hid hmem
                          have hwf : W9.length ≤ 1048576 := EF.few
                          clear hmem hp hv hP3' e2 K EF
                          go_upto_region 34 with (fail)
                          go_quiet ((go_at_call 28; exact qHas_yes A10 cA10 P3 v wi _ hP3 hr3 HM.out))
                          clear HM hr3 m4 m5 m0 m1 m2 q00 q01 q02
                          go_wp2
                          go_roundw
                          case rel => exact ⟨i + 1, by go_num, by omega, below_drewN hb2 _⟩
                          case measure => simp [intOf]; omega
                        · have hie : i = W9.length := by omega
                          have hbh := K.out.2.2.2.2.1
                          clear K EF
                          subst hie
                          go_wp2
                          go_roundw
                          case rel => exact ⟨k + 1, by go_num, by omega, hbh⟩
                          case measure => simp [intOf]; omega
                  · have hk2 : k = c := by omega
                    subst hk2
                    clear K
                    go_wp2_with fail
                    go_meet
                    exact hb
            case rest => as_aux_lemma =>
              rename World => wc
              replace K := K.step hcut
              clear hcut
              go_upto_if 341 with (fail)
              go_cut [4] from 341 to 341 (fun _ wx => Below wc.heap.size wc wx)
              case first => as_aux_lemma =>
                cases o5 with
                | false =>
                  go_wp2_with fail
                  go_meet
                  exact Below.refl _ _
                | true =>
                  have ho5 := okS_cols (show okS R5 C5 l5 R6 C6 l6 = true from HE5.out.2)
                  obtain ⟨c, rfl⟩ := Int.eq_ofNat_of_zero_le (show 0 ≤ C5 by omega)
                  go_wp2_with fail
                  go_loopw [51] (fun z wr => ∃ k : Nat, z = .int .i64 k ∧ k ≤ c ∧ Below wc.heap.size wc wr) (fun z _ => c - (intOf z).toNat)
                  case atStart => exact ⟨0, rfl, Nat.zero_le _, Below.refl _ _⟩
                  case round => as_aux_lemma =>
                    obtain ⟨k, rfl, hk, hb⟩ := hrel
                    replace K := (K.step hb).add (below_kept hb hb.size)
                    obtain ⟨q00, q01, q02⟩ := whole3 (K.out.2.2.2.2.1).1
                    by_cases hlt : k < c
                    · have hkc : (k : Int) < (c : Int) := by omega
                      cases s5 with
                      | false =>
                        clear K
                        go_wp2_with fail
                        go_meet
                        exact hb
                      | true =>
                        have EF := same_facts (show sameF R5 (c : Int) l5 R6 C6 l6 = true from HE5.out.1) hkc
                        obtain ⟨e9, he9⟩ : ∃ x, (marO R5 (c : Int) l5 (k : Int)).e = x := ⟨_, rfl⟩
                        obtain ⟨r9, hr9⟩ : ∃ x, (marO R5 (c : Int) l5 (k : Int)).row = x := ⟨_, rfl⟩
                        obtain ⟨f9, hf9⟩ : ∃ x, (marO R5 (c : Int) l5 (k : Int)).col = x := ⟨_, rfl⟩
                        rewrite [he9, hr9, hf9] at EF
                        obtain ⟨x1, x2, x3, x4, x5⟩ := EF
                        replace x1 := Lib.hid x1
                        replace x2 := Lib.hid x2
                        replace x3 := Lib.hid x3
                        replace x4 := Lib.hid x4
                        replace x5 := Lib.hid x5
                        replace he9 := Lib.hid he9
                        replace hr9 := Lib.hid hr9
                        replace hf9 := Lib.hid hf9
                        clear q00 q01 q02
                        obtain ⟨q00, q01, q02⟩ := whole3 (K.out.2.2.2.2.1).1
                        go_wp2_with fail
                        clear q00 q01 q02
                        refine (fallof_callI R5 (c : Int) B5 k5 l5 (k : Int) wr (by omega) (K.out.2.2.2.2.1).2 e9 r9 f9 x1.out he9.out hr9.out hf9.out).mono ?_; rintro e w34 ⟨rfl, bb⟩
                        replace K := K.step bb
                        clear bb
                        go_upto_region 42 with (fail)
                        obtain ⟨w35, hv, X, bb, hz⟩ := one_box w34 [.int .i64 e9, .int .i64 r9, .int .i64 f9] 50
                        rewrite [hv]
                        have kb := Whole.kept X
                        generalize w34.heap.size = gp at kb ⊢
                        replace K := (K.step bb).add kb
                        clear hv X bb hz kb
                        obtain ⟨q00, q01, q02⟩ := whole3 (K.out.2.2.2.2.2.2.1).1
                        go_wp2_with fail
                        clear q00 q01 q02
                        refine (fallof_callI R6 C6 B6 k6 l6 (k : Int) w35 (by omega) (K.out.2.2.2.2.2.2.1).2 e9 r9 f9 x2.out x3.out.symm x4.out.symm x5.out.symm).mono ?_; rintro e w36 ⟨rfl, bb⟩
                        replace K := K.step bb
                        clear bb
                        go_upto_region 43 with (fail)
                        obtain ⟨w37, hv, X, bb, hz⟩ := one_box w36 [.int .i64 e9, .int .i64 r9, .int .i64 f9] 50
                        rewrite [hv]
                        have kb := Whole.kept X
                        generalize w36.heap.size = gq at kb ⊢
                        replace K := (K.step bb).add kb
                        clear hv X bb hz kb
                        obtain ⟨p0, p1, p2⟩ := whole3 (K.out.2.1)
                        obtain ⟨p3, p4, p5⟩ := whole3 (K.out.1)
                        have hbh := K.out.2.2.1
                        have h0 := heldFall
                        have h1 := guardFall
                        clear K
                        go_wp2
                        go_roundw
                        case rel => exact ⟨k + 1, by go_num, by omega, hbh⟩
                        case measure => simp [intOf]; omega
                    · have hk2 : k = c := by omega
                      subst hk2
                      clear K
                      go_wp2_with fail
                      go_meet
                      exact hb
              case rest => as_aux_lemma =>
                rename World => wd
                replace K := K.step hcut
                clear hcut
                go_upto_if 374 with (fail)
                go_cut [4] from 374 to 374 (fun _ wx => Below wd.heap.size wd wx)
                case first => as_aux_lemma =>
                  cases o7 with
                  | false =>
                    go_wp2_with fail
                    go_meet
                    exact Below.refl _ _
                  | true =>
                    obtain ⟨ou, ov, hi, hne, htk⟩ := first_facts (show (firstD R7 C7 l7 R8 C8 l8 cs7).isSome = true from HE7.out.2)
                    have hi7 : (firstD R7 C7 l7 R8 C8 l8 cs7).getD 0 = i7 := HE7.out.1
                    rewrite [hi7] at hi hne htk
                    clear hi7
                    obtain ⟨X7, hX7⟩ : ∃ x, (fallsO R7 C7 l7 cs7).1 = x := ⟨_, rfl⟩
                    obtain ⟨Y7, hY7⟩ : ∃ x, (fallsO R7 C7 l7 cs7).2 = x := ⟨_, rfl⟩
                    obtain ⟨X8, hX8⟩ : ∃ x, (fallsO R8 C8 l8 cs7).1 = x := ⟨_, rfl⟩
                    obtain ⟨Y8, hY8⟩ : ∃ x, (fallsO R8 C8 l8 cs7).2 = x := ⟨_, rfl⟩
                    have hl7 := falls_len ou
                    have hl8 := falls_len ov
                    have hw7 := falls_few R7 C7 l7 cs7 (by omega)
                    have hw8 := falls_few R8 C8 l8 cs7 (by omega)
                    rewrite [hX7, hY7] at hl7 hw7
                    rewrite [hX8, hY8] at hl8 hw8
                    rewrite [hX7, hX8] at hne htk
                    replace ou := Lib.hid ou
                    replace ov := Lib.hid ov
                    replace hX7 := Lib.hid hX7
                    replace hX8 := Lib.hid hX8
                    replace hY7 := Lib.hid hY7
                    replace hY8 := Lib.hid hY8
                    have HTK := Lib.hid htk
                    have HNE := Lib.hid hne
                    have hi1 : i7 < X7.length := by omega
                    have hi2 : i7 < X8.length := by omega
                    have hl7' := hl7.1
                    have hl8' := hl8.1
                    have HL7 := Lib.hid hl7'
                    have HL8 := Lib.hid hl8'
                    clear htk hne hl7 hl8 hl7' hl8'
                    replace K := K.add (below_kept (Below.refl wd.heap.size wd) (Nat.le_refl _))
                    obtain ⟨q00, q01, q02⟩ := whole3 (K.out.2.1).1
                    go_wp2_with fail
                    clear q00 q01 q02
                    refine (fallsof_callS R7 C7 B7 k7 l7 D7 kd7 cs7 cs7.length wd rfl (by omega) (K.out.2.1).2 (by omega) (K.out.2.2.2.1) Y7 X7 ou.out hY7.out hX7.out).mono ?_; rintro e w38 ⟨A20, cA20, A22, cA22, rfl, hroA20, oF, nF, oC, nC, bb⟩
                    replace K := (K.step bb).add (rd_kept oF.rd)
                    clear oF nF nC bb
                    go_upto_region 47 with (fail)
                    obtain ⟨w39, hv, X, bb, hz⟩ := one_box w38 [.int .i64 R7, .int .i64 C7, .slice A22 Y7.length cA22] 25
                    rewrite [hv]
                    have kb := box_kept (oC.rd) X bb
                    generalize w38.heap.size = gpB at kb ⊢
                    replace K := (K.step bb).add kb
                    clear hv X bb hz kb
                    clear oC
                    obtain ⟨q00, q01, q02⟩ := whole3 (K.out.2.2.2.2.1).1
                    go_wp2_with fail
                    clear q00 q01 q02
                    refine (fallsof_callS R8 C8 B8 k8 l8 D7 kd7 cs7 cs7.length w39 rfl (by omega) (K.out.2.2.2.2.1).2 (by omega) (K.out.2.2.2.2.2.1) Y8 X8 ov.out hY8.out hX8.out).mono ?_; rintro e w40 ⟨A21, cA21, A23, cA23, rfl, hroA21, oF, nF, oC, nC, bb⟩
                    replace K := (K.step bb).add (rd_kept oF.rd)
                    clear oF nF nC bb
                    go_upto_region 48 with (fail)
                    obtain ⟨w41, hv, X, bb, hz⟩ := one_box w40 [.int .i64 R8, .int .i64 C8, .slice A23 Y8.length cA23] 25
                    rewrite [hv]
                    have kb := box_kept (oC.rd) X bb
                    generalize w40.heap.size = gqB at kb ⊢
                    replace K := (K.step bb).add kb
                    clear hv X bb hz kb
                    clear oC
                    obtain ⟨b1, o1, e1, hb1, hc1⟩ := (K.out.2.2.2.1) (by rw [flatF_len]; omega)
                    obtain ⟨b2, o2, e2, hb2, hc2⟩ := (K.out.2.1) (by rw [flatF_len]; omega)
                    have ht1 := rd_flatF_take i7 (K.out.2.2.2.1)
                    have ht2 := rd_flatF_take i7 (K.out.2.1)
                    rewrite [← HTK.out] at ht2
                    have hbh := K.out.2.2.2.2.1
                    clear K
                    subst e1 e2
                    obtain ⟨m0, m1, m2⟩ := flatF_at2 X7 i7 hi1
                    obtain ⟨n0, n1, n2⟩ := flatF_at2 X8 i7 hi2
                    replace m0 : w41.cell? ⟨b1, o1 + i7 * 3, none⟩ = some (.int .i64 X7[i7].1) := hc1 _ _ m0
                    replace m1 : w41.cell? ⟨b1, o1 + i7 * 3 + 1, none⟩ = some (.int .i64 X7[i7].2.1) := hc1 _ _ m1
                    replace m2 : w41.cell? ⟨b1, o1 + i7 * 3 + 2, none⟩ = some (.int .i64 X7[i7].2.2) := hc1 _ _ m2
                    replace n0 : w41.cell? ⟨b2, o2 + i7 * 3, none⟩ = some (.int .i64 X8[i7].1) := hc2 _ _ n0
                    replace n1 : w41.cell? ⟨b2, o2 + i7 * 3 + 1, none⟩ = some (.int .i64 X8[i7].2.1) := hc2 _ _ n1
                    replace n2 : w41.cell? ⟨b2, o2 + i7 * 3 + 2, none⟩ = some (.int .i64 X8[i7].2.2) := hc2 _ _ n2
                    have hne := HNE.out
                    rewrite [List.getD_eq_getElem?_getD, List.getElem?_eq_getElem hi1, List.getD_eq_getElem?_getD, List.getElem?_eq_getElem hi2] at hne
                    replace hne : X7[i7] ≠ X8[i7] := hne
                    have htl : (X7.take i7).length = i7 := by rw [List.length_take]; omega
                    have hz0 : (0 : Int) ≤ (i7 : Int) := Int.natCast_nonneg _
                    have hz1 : (i7 : Int) < (X7.length : Int) := by omega
                    have hz2 : (i7 : Int) < (X8.length : Int) := by omega
                    have hz3 : (i7 : Int) ≤ (cA20 : Int) := by omega
                    have hz4 : (i7 : Int) ≤ (cA21 : Int) := by omega
                    have hz5 : i7 ≤ cA20 := by omega
                    have hz6 : i7 ≤ cA21 := by omega
                    have h0 := heldFall
                    have h1 := guardFall
                    have HTL := Lib.hid htl
                    clear htl hc1 hc2 HNE HTK
                    generalize X7[i7] = x7 at *
                    generalize X8[i7] = x8 at *
                    obtain ⟨x, y, z⟩ := x7
                    obtain ⟨x', y', z'⟩ := x8
                    have HQ := fun j => qFalls_at (some ⟨b1, o1, none⟩) (some ⟨b2, o2, none⟩) cA20 cA21 (X7.take i7) i7 w41 j HTL.out (by omega) ht1 ht2
                    replace HQ := Lib.hid HQ
                    clear ht1 ht2
                    by_cases hx : x = x'
                    · subst hx
                      by_cases hy : y = y'
                      · subst hy
                        have hz : ¬ z = z' := fun h => hne (by rw [h])
                        clear hne
                        go_quiet ((go_at_call 20; exact HQ.out _))
                        go_wp2_with fail
                        go_meet
                        exact below_drewN hbh _
                      · clear hne
                        go_quiet ((go_at_call 20; exact HQ.out _))
                        go_wp2_with fail
                        go_meet
                        exact below_drewN hbh _
                    · clear hne
                      go_quiet ((go_at_call 20; exact HQ.out _))
                      go_wp2_with fail
                      go_meet
                      exact below_drewN hbh _
                case rest => as_aux_lemma =>
                  rename World => we
                  replace K := K.step hcut
                  clear hcut
                  cases o0 with
                  | false =>
                    have hB := K.out.2.2.2.2.2.2.2.2.2.2.2.2.2.2.2.2.2.2.2.2
                    go_wp2
                    go_returns
                    exact ⟨rfl, hB⟩
                  | true =>
                    have ho0 : okC' R0 C0 l0 cs0 = true := HE0.out.2.2.2.2.2
                    have eR : R0 = R1 := by
                      have h := HE0.out.1
                      rw [ho0] at h
                      exact h
                    have eC : C0 = C1 := by
                      have h := HE0.out.2.1
                      rw [ho0] at h
                      exact h
                    obtain ⟨h, hh⟩ : ∃ h, cs0.length / 2 = h := ⟨_, rfl⟩
                    have hle : h ≤ cs0.length := by omega
                    obtain ⟨z1, z2, z3, z4, z5⟩ := falls_split ho0 hle
                    rewrite [HE0.out.2.2.2.1] at z2 z4
                    rewrite [HE0.out.2.2.1] at z5
                    obtain ⟨M1, hM1⟩ : ∃ x, (fallsO R0 C0 l0 (cs0.take h)).2 = x := ⟨_, rfl⟩
                    rewrite [hM1] at z3 z4 z5
                    obtain ⟨y1, y2, y3⟩ := arr_facts ho0
                    rewrite [HE0.out.2.2.2.2.1] at y1 y2 y3
                    obtain ⟨x1, x2, x3⟩ := falls_len ho0
                    rewrite [HE0.out.2.2.2.1] at x1
                    have hM1l : M1.length ≤ 90 := by
                      have h1 := (falls_len z1).2.1
                      rw [hM1] at h1
                      omega
                    replace z1 := Lib.hid z1
                    replace z2 := Lib.hid z2
                    replace z3 := Lib.hid z3
                    replace z4 := Lib.hid z4
                    replace z5 := Lib.hid z5
                    replace hM1 := Lib.hid hM1
                    replace y1 := Lib.hid y1
                    replace y2 := Lib.hid y2
                    replace y3 := Lib.hid y3
                    have X1 := Lib.hid x1
                    have HH := Lib.hid hh
                    have mh : (cs0.length : Int).tdiv 2 = (h : Int) := by
                      rw [Int.tdiv_eq_ediv_of_nonneg (by omega)]
                      omega
                    clear x1 hh ho0 x2
                    subst eR eC
                    have hD2 := rd_dropD (h := h) hro0 (K.out.2.2.2.2.2.2.2.2.2.2.2.2.2.2.2.2.2.1)
                    obtain ⟨Dd, hDd⟩ : ∃ D, (if kd0 = h then D0 else D0.map (·.add (h * 1))) = D := ⟨_, rfl⟩
                    rewrite [hDd] at hD2
                    have S1 : ∀ wx, (Instr.slice 26 (.slice D0 cs0.length kd0) none (some (.int .i64 (h : Int))) none).run Tryz.prog wx = .ok (.slice D0 h kd0) wx := fun wx => sliceI_h D0 cs0.length kd0 h (by omega) wx
                    have S2 : ∀ wx, (Instr.slice 26 (.slice D0 cs0.length kd0) (some (.int .i64 (h : Int))) none none).run Tryz.prog wx = .ok (.slice Dd (cs0.length - h) (kd0 - h)) wx := fun wx => by
                      have h1 := sliceI_l D0 cs0.length kd0 h hle wx
                      rw [hDd] at h1
                      exact h1
                    clear hDd
                    replace K := K.add (rd_kept hD2)
                    clear hD2
                    have hcl : (cs0.take h).length = h := by rw [List.length_take]; omega
                    have hdl : (cs0.drop h).length = cs0.length - h := by rw [List.length_drop]
                    have HCL := Lib.hid hcl
                    have HDL := Lib.hid hdl
                    have hF1 : (F0.take h).length = h := by
                      have := X1.out
                      rw [List.length_take]
                      omega
                    have hF2 : (F0.drop h).length = cs0.length - h := by
                      have := X1.out
                      rw [List.length_drop]
                      omega
                    obtain ⟨c1, hc1⟩ : ∃ x, cs0.take h = x := ⟨_, rfl⟩
                    obtain ⟨c2, hc2⟩ : ∃ x, cs0.drop h = x := ⟨_, rfl⟩
                    obtain ⟨G1, hG1⟩ : ∃ x, F0.take h = x := ⟨_, rfl⟩
                    obtain ⟨G2, hG2⟩ : ∃ x, F0.drop h = x := ⟨_, rfl⟩
                    rewrite [hc1] at HCL z1 z2 hM1
                    rewrite [hc2] at HDL z3 z4 z5
                    rewrite [hG1] at z2 hF1
                    rewrite [hG2] at z4 hF2
                    rewrite [hc2] at K
                    have HG1 := Lib.hid hG1
                    have HG2 := Lib.hid hG2
                    have HF1 := Lib.hid hF1
                    have HF2 := Lib.hid hF2
                    clear hcl hdl hF1 hF2 hG1 hG2
                    have hc3 := rd_ints_take h (K.out.2.2.2.2.2.2.2.2.2.2.2.2.2.2.2.2.2.2.1)
                    rewrite [hc1] at hc3
                    replace K := K.add (rd_kept hc3)
                    clear hc3 hc1 hc2
                    go_upto_region 53 with (fail)
                    try rewrite [mh]
                    rewrite [X1.out]
                    go_cut [63, 64, 65] from 421 to 429 (fun z1 z2 z3 wx => CutF we (h) G1 R0 C0 M1 z1 z2 z3 wx)
                    case first => as_aux_lemma =>
                      have XB := (K.out.2.2.2.2.2.2.2.2.2.2.2.2.2.2.2.2.2.2.1).1
                      have hrb := (K.out.2.2.2.2.2.2.2.2.2.2.2.2.2.2.2.2.2.2.1).2
                      have hrc := K.out.1
                      have hbl := XB.lt
                      have hne : we.heap.size ≠ gb := by omega
                      clear K
                      have hM := hM1.out
                      have hF := z2.out
                      have hok := z1.out
                      replace hM := Lib.hid hM
                      replace hF := Lib.hid hF
                      replace hok := Lib.hid hok
                      obtain ⟨q0, q1, q2⟩ := whole3 XB
                      go_region_held3 (fun w' => w'.cell? ⟨gb, 0, none⟩ = some (.int .i64 R0) ∧ w'.cell? ⟨gb, 1, none⟩ = some (.int .i64 C0) ∧ w'.cell? ⟨gb, 2, none⟩ = some (.slice A0 l0.length k0))
                        ((refine whole3 (t := 25) ?_; (repeat (with_reducible refine Whole.set_far ?_ _ _ (by first | exact hne | exact hne7))); (first | exact XB7.new (by (repeat' (first | (with_reducible exact Below.refl _ _) | (with_reducible assumption) | (with_reducible refine Below.alloc ?_ ?_ _) | (with_reducible refine Below.setCell ?_ ?_ _) | (with_reducible refine Below.drew ?_) | (with_reducible refine below_drewN ?_ _) | (with_reducible refine Below.trans ?_ (Below.mono (by assumption) ?_)) | go_size)) : Below w7.heap.size w7 _) | exact XB.new (by (repeat' (first | (with_reducible exact Below.refl _ _) | (with_reducible assumption) | (with_reducible refine Below.alloc ?_ ?_ _) | (with_reducible refine Below.setCell ?_ ?_ _) | (with_reducible refine Below.drew ?_) | (with_reducible refine below_drewN ?_ _) | (with_reducible refine Below.trans ?_ (Below.mono (by assumption) ?_)) | go_size)) : Below we.heap.size we _) | fail)))
                        ((go_at_call 5; (with_reducible refine (fallsof_callI R0 C0 A0 k0 l0 D0 kd0 c1 h _ HCL.out (by omega) ?_ (by have := HCL.out; omega) ?_ M1 G1 hok.out hM.out hF.out).mono ?_); (focus exact rd_up hrb (by (repeat' (first | (with_reducible exact Below.refl _ _) | (with_reducible assumption) | (with_reducible refine Below.alloc ?_ ?_ _) | (with_reducible refine Below.setCell ?_ ?_ _) | (with_reducible refine Below.drew ?_) | (with_reducible refine below_drewN ?_ _) | (with_reducible refine Below.trans ?_ (Below.mono (by assumption) ?_)) | go_size)) : Below we.heap.size we _)); (focus exact rd_up hrc (by (repeat' (first | (with_reducible exact Below.refl _ _) | (with_reducible assumption) | (with_reducible refine Below.alloc ?_ ?_ _) | (with_reducible refine Below.setCell ?_ ?_ _) | (with_reducible refine Below.drew ?_) | (with_reducible refine below_drewN ?_ _) | (with_reducible refine Below.trans ?_ (Below.mono (by assumption) ?_)) | go_size)) : Below we.heap.size we _)); rintro e w7 ⟨A7', c7', A8', c8', rfl, oF, nF, oC, nC, b7⟩; have B7 := (by (repeat' (first | (with_reducible exact Below.refl _ _) | (with_reducible assumption) | (with_reducible refine Below.alloc ?_ ?_ _) | (with_reducible refine Below.setCell ?_ ?_ _) | (with_reducible refine Below.drew ?_) | (with_reducible refine below_drewN ?_ _) | (with_reducible refine Below.trans ?_ (Below.mono (by assumption) ?_)) | go_size)) : Below we.heap.size we w7); have XB7 := XB.new B7; have s7 := B7.size; (first | have zb := newB (t := 25) (xs := [.int .i64 0, .int .i64 0, .slice none 0 0]) b7 | have zb := newD (t := 25) (xs := [.int .i64 0, .int .i64 0, .slice none 0 0]) b7 | skip); (first | (have hzb := zb.lt; have r0 := zb.frozen 0; have r1 := zb.frozen 1; have r2 := zb.frozen 2; (obtain ⟨t0, t1, t2⟩ := whole3 (x := .int .i64 0) (y := .int .i64 0) (z := .slice none 0 0) zb)) | skip); have hne7 : w7.heap.size ≠ gb := (by omega); clear hrb hrc))
                      all_goals go_wp2_with fail
                      all_goals go_meet
                      all_goals (first | exact cutF_new HF1.out oF oC B7 | exact cutF_set HF1.out oF oC B7 zb (Nat.le_refl _) | fail)
                    case rest => as_aux_lemma =>
                      rename World => wz53
                      obtain ⟨A30, kA30, A31, kA31, gmid, rfl, rfl, rfl, hrf, hbd, hb⟩ := hcut
                      replace K := ((K.step hb).add (BD.kept hbd)).add (rd_kept hrf)
                      clear hb hrf hbd
                      go_upto_region 54 with (fail)
                      go_cut [66, 67, 68] from 430 to 438 (fun z1 z2 z3 wx => CutF wz53 (h) G1 R0 C0 M1 z1 z2 z3 wx)
                      case first => as_aux_lemma =>
                        have XB := (K.out.2.2.2.2.2.2.2.2.2.2.2.2.2.2.2.2.2.2.2.2.1).1
                        have hrb := (K.out.2.2.2.2.2.2.2.2.2.2.2.2.2.2.2.2.2.2.2.2.1).2
                        have hrc := K.out.2.2.1
                        have hbl := XB.lt
                        have hne : wz53.heap.size ≠ gb := by omega
                        clear K
                        have hM := hM1.out
                        have hF := z2.out
                        have hok := z1.out
                        replace hM := Lib.hid hM
                        replace hF := Lib.hid hF
                        replace hok := Lib.hid hok
                        obtain ⟨q0, q1, q2⟩ := whole3 XB
                        go_region_held3 (fun w' => w'.cell? ⟨gb, 0, none⟩ = some (.int .i64 R0) ∧ w'.cell? ⟨gb, 1, none⟩ = some (.int .i64 C0) ∧ w'.cell? ⟨gb, 2, none⟩ = some (.slice A0 l0.length k0))
                          ((refine whole3 (t := 25) ?_; (repeat (with_reducible refine Whole.set_far ?_ _ _ (by first | exact hne | exact hne7))); (first | exact XB7.new (by (repeat' (first | (with_reducible exact Below.refl _ _) | (with_reducible assumption) | (with_reducible refine Below.alloc ?_ ?_ _) | (with_reducible refine Below.setCell ?_ ?_ _) | (with_reducible refine Below.drew ?_) | (with_reducible refine below_drewN ?_ _) | (with_reducible refine Below.trans ?_ (Below.mono (by assumption) ?_)) | go_size)) : Below w7.heap.size w7 _) | exact XB.new (by (repeat' (first | (with_reducible exact Below.refl _ _) | (with_reducible assumption) | (with_reducible refine Below.alloc ?_ ?_ _) | (with_reducible refine Below.setCell ?_ ?_ _) | (with_reducible refine Below.drew ?_) | (with_reducible refine below_drewN ?_ _) | (with_reducible refine Below.trans ?_ (Below.mono (by assumption) ?_)) | go_size)) : Below wz53.heap.size wz53 _) | fail)))
                          ((go_at_call 6; (with_reducible refine (fallsof_callS R0 C0 A0 k0 l0 D0 kd0 c1 h _ HCL.out (by omega) ?_ (by have := HCL.out; omega) ?_ M1 G1 hok.out hM.out hF.out).mono ?_); (focus exact rd_up hrb (by (repeat' (first | (with_reducible exact Below.refl _ _) | (with_reducible assumption) | (with_reducible refine Below.alloc ?_ ?_ _) | (with_reducible refine Below.setCell ?_ ?_ _) | (with_reducible refine Below.drew ?_) | (with_reducible refine below_drewN ?_ _) | (with_reducible refine Below.trans ?_ (Below.mono (by assumption) ?_)) | go_size)) : Below wz53.heap.size wz53 _)); (focus exact rd_up hrc (by (repeat' (first | (with_reducible exact Below.refl _ _) | (with_reducible assumption) | (with_reducible refine Below.alloc ?_ ?_ _) | (with_reducible refine Below.setCell ?_ ?_ _) | (with_reducible refine Below.drew ?_) | (with_reducible refine below_drewN ?_ _) | (with_reducible refine Below.trans ?_ (Below.mono (by assumption) ?_)) | go_size)) : Below wz53.heap.size wz53 _)); rintro e w7 ⟨A7', c7', A8', c8', rfl, hro9, oF, nF, oC, nC, b7⟩; have B7 := (by (repeat' (first | (with_reducible exact Below.refl _ _) | (with_reducible assumption) | (with_reducible refine Below.alloc ?_ ?_ _) | (with_reducible refine Below.setCell ?_ ?_ _) | (with_reducible refine Below.drew ?_) | (with_reducible refine below_drewN ?_ _) | (with_reducible refine Below.trans ?_ (Below.mono (by assumption) ?_)) | go_size)) : Below wz53.heap.size wz53 w7); have XB7 := XB.new B7; have s7 := B7.size; (first | have zb := newB (t := 25) (xs := [.int .i64 0, .int .i64 0, .slice none 0 0]) b7 | have zb := newD (t := 25) (xs := [.int .i64 0, .int .i64 0, .slice none 0 0]) b7 | skip); (first | (have hzb := zb.lt; have r0 := zb.frozen 0; have r1 := zb.frozen 1; have r2 := zb.frozen 2; (obtain ⟨t0, t1, t2⟩ := whole3 (x := .int .i64 0) (y := .int .i64 0) (z := .slice none 0 0) zb)) | skip); have hne7 : w7.heap.size ≠ gb := (by omega); clear hrb hrc))
                        all_goals go_wp2_with fail
                        all_goals go_meet
                        all_goals (first | exact cutF_new HF1.out oF oC B7 | exact cutF_set HF1.out oF oC B7 zb (Nat.le_refl _) | fail)
                      case rest => as_aux_lemma =>
                        rename World => wz54
                        obtain ⟨A32, kA32, A33, kA33, gbtw, rfl, rfl, rfl, hrf, hbd, hb⟩ := hcut
                        replace K := ((K.step hb).add (BD.kept hbd)).add (rd_kept hrf)
                        clear hb hrf hbd
                        go_upto_region 55 with (fail)
                        go_cut [69, 70, 71] from 439 to 447 (fun z1 z2 z3 wx => CutF wz54 ((cs0.length - h)) G2 R0 C0 M0 z1 z2 z3 wx)
                        case first => as_aux_lemma =>
                          have XB := (K.out.2.2.2.1).1
                          have hrb := (K.out.2.2.2.1).2
                          have hrc := K.out.2.2.2.2.2.1
                          have hbl := XB.lt
                          have hne : wz54.heap.size ≠ gmid := by omega
                          clear K
                          have hM := z5.out
                          have hF := z4.out
                          have hok := z3.out
                          replace hM := Lib.hid hM
                          replace hF := Lib.hid hF
                          replace hok := Lib.hid hok
                          obtain ⟨q0, q1, q2⟩ := whole3 XB
                          go_region_held3 (fun w' => w'.cell? ⟨gmid, 0, none⟩ = some (.int .i64 R0) ∧ w'.cell? ⟨gmid, 1, none⟩ = some (.int .i64 C0) ∧ w'.cell? ⟨gmid, 2, none⟩ = some (.slice A31 M1.length kA31))
                            ((refine whole3 (t := 25) ?_; (repeat (with_reducible refine Whole.set_far ?_ _ _ (by first | exact hne | exact hne7))); (first | exact XB7.new (by (repeat' (first | (with_reducible exact Below.refl _ _) | (with_reducible assumption) | (with_reducible refine Below.alloc ?_ ?_ _) | (with_reducible refine Below.setCell ?_ ?_ _) | (with_reducible refine Below.drew ?_) | (with_reducible refine below_drewN ?_ _) | (with_reducible refine Below.trans ?_ (Below.mono (by assumption) ?_)) | go_size)) : Below w7.heap.size w7 _) | exact XB.new (by (repeat' (first | (with_reducible exact Below.refl _ _) | (with_reducible assumption) | (with_reducible refine Below.alloc ?_ ?_ _) | (with_reducible refine Below.setCell ?_ ?_ _) | (with_reducible refine Below.drew ?_) | (with_reducible refine below_drewN ?_ _) | (with_reducible refine Below.trans ?_ (Below.mono (by assumption) ?_)) | go_size)) : Below wz54.heap.size wz54 _) | fail)))
                            ((go_at_call 5; (with_reducible refine (fallsof_callI R0 C0 A31 kA31 M1 Dd (kd0 - h) c2 (cs0.length - h) _ HDL.out (by omega) ?_ (by have := HDL.out; omega) ?_ M0 G2 hok.out hM.out hF.out).mono ?_); (focus exact rd_up hrb (by (repeat' (first | (with_reducible exact Below.refl _ _) | (with_reducible assumption) | (with_reducible refine Below.alloc ?_ ?_ _) | (with_reducible refine Below.setCell ?_ ?_ _) | (with_reducible refine Below.drew ?_) | (with_reducible refine below_drewN ?_ _) | (with_reducible refine Below.trans ?_ (Below.mono (by assumption) ?_)) | go_size)) : Below wz54.heap.size wz54 _)); (focus exact rd_up hrc (by (repeat' (first | (with_reducible exact Below.refl _ _) | (with_reducible assumption) | (with_reducible refine Below.alloc ?_ ?_ _) | (with_reducible refine Below.setCell ?_ ?_ _) | (with_reducible refine Below.drew ?_) | (with_reducible refine below_drewN ?_ _) | (with_reducible refine Below.trans ?_ (Below.mono (by assumption) ?_)) | go_size)) : Below wz54.heap.size wz54 _)); rintro e w7 ⟨A7', c7', A8', c8', rfl, oF, nF, oC, nC, b7⟩; have B7 := (by (repeat' (first | (with_reducible exact Below.refl _ _) | (with_reducible assumption) | (with_reducible refine Below.alloc ?_ ?_ _) | (with_reducible refine Below.setCell ?_ ?_ _) | (with_reducible refine Below.drew ?_) | (with_reducible refine below_drewN ?_ _) | (with_reducible refine Below.trans ?_ (Below.mono (by assumption) ?_)) | go_size)) : Below wz54.heap.size wz54 w7); have XB7 := XB.new B7; have s7 := B7.size; (first | have zb := newB (t := 25) (xs := [.int .i64 0, .int .i64 0, .slice none 0 0]) b7 | have zb := newD (t := 25) (xs := [.int .i64 0, .int .i64 0, .slice none 0 0]) b7 | skip); (first | (have hzb := zb.lt; have r0 := zb.frozen 0; have r1 := zb.frozen 1; have r2 := zb.frozen 2; (obtain ⟨t0, t1, t2⟩ := whole3 (x := .int .i64 0) (y := .int .i64 0) (z := .slice none 0 0) zb)) | skip); have hne7 : w7.heap.size ≠ gmid := (by omega); clear hrb hrc))
                          all_goals go_wp2_with fail
                          all_goals go_meet
                          all_goals (first | exact cutF_new HF2.out oF oC B7 | exact cutF_set HF2.out oF oC B7 zb (Nat.le_refl _) | fail)
                        case rest => as_aux_lemma =>
                          rename World => wz55
                          obtain ⟨A34, kA34, A35, kA35, gend, rfl, rfl, rfl, hrf, hbd, hb⟩ := hcut
                          replace K := ((K.step hb).add (BD.kept hbd)).add (rd_kept hrf)
                          clear hb hrf hbd
                          clear S1 S2
                          have hT := rd_flatF_take h (K.out.2.2.2.2.2.2.2.2.2.2.2.2.2.2.2.2.2.2.2.2.2.1)
                          rewrite [HG1.out] at hT
                          have hx1 : F0.length ≤ cA3 := hroA3
                          have hT2 := rd_dropF (h := h) hx1 (by have := X1.out; omega) (K.out.2.2.2.2.2.2.2.2.2.2.2.2.2.2.2.2.2.2.2.2.2.1)
                          rewrite [HG2.out] at hT2
                          obtain ⟨Dg, hDg⟩ : ∃ D, (if cA3 = h then A3 else A3.map (·.add (h * 3))) = D := ⟨_, rfl⟩
                          rewrite [hDg] at hT2
                          have S3 : ∀ wx, (Instr.slice 29 (.slice A3 cs0.length cA3) none (some (.int .i64 (h : Int))) none).run Tryz.prog wx = .ok (.slice A3 h cA3) wx := fun wx => sliceF_h A3 cs0.length cA3 h (by have := X1.out; omega) wx
                          have S4 : ∀ wx, (Instr.slice 29 (.slice A3 cs0.length cA3) (some (.int .i64 (h : Int))) none none).run Tryz.prog wx = .ok (.slice Dg (cs0.length - h) (cA3 - h)) wx := fun wx => by
                            have h1 := sliceF_l A3 cs0.length cA3 h hle wx
                            rw [hDg] at h1
                            exact h1
                          clear hDg hx1
                          replace K := (K.add (rd_kept hT)).add (rd_kept hT2)
                          clear hT hT2
                          go_wp2_with fail
                          refine (qFalls_same A30 A32 kA30 kA32 G1 h wz55 HF1.out (by omega) (K.out.2.2.2.2.2.2.1) (K.out.2.2.2.2.1)).mono ?_; rintro e w42 ⟨rfl, bb⟩
                          replace K := K.step bb
                          clear bb
                          obtain ⟨q00, q01, q02⟩ := whole3 (K.out.2.2.2.2.2.2.2.1).1
                          obtain ⟨q10, q11, q12⟩ := whole3 (K.out.2.2.2.2.2.1).1
                          go_wp2_with fail
                          clear q00 q01 q02
                          clear q10 q11 q12
                          refine (qBoard_same R0 C0 A31 kA31 M1 A33 kA33 w42 (by omega) (K.out.2.2.2.2.2.2.2.1).2 (K.out.2.2.2.2.2.1).2).mono ?_; rintro e w43 ⟨rfl, bb⟩
                          replace K := K.step bb
                          clear bb
                          go_wp2_with fail
                          refine (qFalls_same A30 A3 kA30 cA3 G1 h w43 HF1.out (by omega) (K.out.2.2.2.2.2.2.1) (K.out.2.1)).mono ?_; rintro e w44 ⟨rfl, bb⟩
                          replace K := K.step bb
                          clear bb
                          go_wp2_with fail
                          refine (qFalls_same A34 Dg kA34 (cA3 - h) G2 (cs0.length - h) w44 HF2.out (by omega) (K.out.2.2.1) (K.out.1)).mono ?_; rintro e w45 ⟨rfl, bb⟩
                          replace K := K.step bb
                          clear bb
                          obtain ⟨q00, q01, q02⟩ := whole3 (K.out.2.2.2.1).1
                          obtain ⟨q10, q11, q12⟩ := whole3 (K.out.2.2.2.2.2.2.2.2.2.2.2.2.2.2.2.2.2.2.2.2.2.2.1).1
                          go_wp2_with fail
                          clear q00 q01 q02
                          clear q10 q11 q12
                          refine (qBoard_same R0 C0 A35 kA35 M0 A4 cA4 w45 (by omega) (K.out.2.2.2.1).2 (K.out.2.2.2.2.2.2.2.2.2.2.2.2.2.2.2.2.2.2.2.2.2.2.1).2).mono ?_; rintro e w46 ⟨rfl, bb⟩
                          replace K := K.step bb
                          clear bb
                          go_wp2_with fail
                          have hq := qSum_any A6 cA6 N0 w46 hN0 y3.out (K.out.2.2.2.2.2.2.2.2.2.2.2.2.2.2.2.2.2.2.2.2.1)
                          rewrite [y2.out] at hq
                          refine hq.mono ?_; rintro e wu ⟨rfl, bb⟩
                          clear hq
                          replace K := K.step bb
                          clear bb
                          have hB := K.out.2.2.2.2.2.2.2.2.2.2.2.2.2.2.2.2.2.2.2.2.2.2.2.2.2.2.2.2.2.2
                          obtain ⟨q0, q1, q2⟩ := whole3 (K.out.2.2.2.2.2.2.2.2.2.2.2.2.2.2.2.2.2.2.2.2.2.2.2.2.2.2.1).1
                          have m8 : IntKind.i64.wrap (C0 + 2) = (N0.length : Int) := by
                            rw [y1.out]
                            exact IntWalk.i64_in _ (by have := y1.out; omega)
                          clear K S3 S4
                          go_wp2
                          go_returns
                          exact ⟨rfl, hB⟩
theorem FnSeveralMarbles_walk : Walk Tryz.prog 3 Tryz.f3 := by
  intro H enc W base args ds ps hA hval
  rw [Tryz.params3] at hA hval
  obtain ⟨v0, vs0, d0, ds0, p0, q0, hv0, hd0, hp0, h0, r0⟩ := trodAll_cons hA
  obtain ⟨v1, vs1, d1, ds1, p1, q1, hv1, hd1, hp1, h1, r1⟩ := trodAll_cons r0
  obtain ⟨e1, e2, e3⟩ := trodAll_nil r1
  have ha : args = #[v0, v1] := by
    apply Array.toList_inj.1
    rw [hv0, hv1, e1]
  subst ha
  obtain ⟨A0, cap0, l0, rfl, hb0⟩ := open_bytesB (hval 0 22 v0 rfl rfl) h0
  obtain ⟨A1, cap1, l1, rfl, hb1⟩ := open_bytesB (hval 1 22 v1 rfl rfl) h1
  exact FnSeveralMarbles_walk0 A0 cap0 l0 A1 cap1 l1 W hb0 hb1
set_option maxRecDepth 100000 in
theorem FnSeveralMarbles_holds : Rows.FnSeveralMarblesSaid :=
  OpenClaim.holds_of_wide 3 Tryz.f3 rfl rfl rfl rfl rfl rfl rfl ⟨rfl, rfl, rfl, rfl, rfl⟩ rfl rfl rfl rfl rfl (by kernel_rfl) Tryz.func3 (by kernel_rfl)
    (of_decide_eq_true (by kernel_rfl)) (by unfold Func.isWrapper; first | (rw [if_pos (by decide +kernel)]; kernel_rfl) | (rw [if_neg (by decide +kernel)]; exact ⟨rfl, rfl⟩))
    (fun os started H enc _ => lifted (C := Tryz.checked) (s := Rows.fnSeveralMarblesSpec) started own (by kernel_rfl) Tryz.func3 ⟨#[], #[.slice none 0 0, .slice none 0 0], []⟩ 8 (by kernel_rfl) (by kernel_rfl) (by kernel_rfl) (by kernel_rfl) (by kernel_rfl)
      laidOut (by kernel_rfl) rfl rfl Tryz.underlying4 (fun ds h => by
        match ds, h with
        | [d0, d1], _ => exact ⟨rfl, rfl, rfl⟩) FnSeveralMarbles_walk)
end Go.Proofs.YtlnekfbhpfhcpaaGreat
