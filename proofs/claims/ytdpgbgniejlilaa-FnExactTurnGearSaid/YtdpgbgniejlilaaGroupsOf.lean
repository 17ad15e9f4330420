/- The program's groups in their order. -/
import Derived.Test.YtdpgbgniejlilaaJoined
import Derived.Test.YtdpgbgniejlilaaLRow
namespace Go.Proofs.Ytdpgbgniejlilaa
open Go.ChangeShapes Go.WideShapes Go.ChangeAt Go.RowKit Go.Joins Go.Deep
set_option linter.unusedSimpArgs false
set_option linter.unusedVariables false
set_option maxRecDepth 100000
set_option maxHeartbeats 2000000
theorem opn_flat (J : Nat → Bool) (G : List (List Nat)) (q : List Nat) (i : Nat) : opn J (G ++ [q]).flatten [] i = opn J G.flatten q i := by
  rw [Bool.eq_iff_iff, opn_iff, opn_iff, flatten_snoc, List.mem_append]
  constructor
  · rintro ⟨a, b, _⟩; exact ⟨a, fun h => b (.inl h), fun h => b (.inr h)⟩
  · rintro ⟨a, b, c⟩; exact ⟨a, fun h => h.elim b c, List.not_mem_nil⟩
theorem impl_groupsOf (r c : Nat) (A : Option Addr) (cap : Nat) (l : List (Int × Int)) (w : World) (hG : Geo r c l.length) (hr : Rd w w.heap.size A (flat l)) :
    Calls Try.prog 41 #[.agg #[.int .i64 (r : Int), .int .i64 (c : Int), .slice A l.length cap]] w fun e w' => ∃ v, e = .returned v ∧ LRow w' w.heap.size v ((GG (c : Int) l).map (sortN l.length)) ∧ Below w.heap.size w w' := by
  have n90 := hG.n90
  have HGG := Lib.hid (show gat (J l) (nearL c l.length) l.length l.length = GG (c : Int) l by unfold GG; rw [Int.toNat_natCast])
  go_enter Try.func41, Try.ntmps41
  obtain ⟨v0, hv0⟩ : ∃ v, v = w.alloc (.cells #[.int .i64 (r : Int), .int .i64 (c : Int), .slice A l.length cap] 30) := ⟨_, rfl⟩
  have X0 : Whole v0 w.heap.size 30 [.int .i64 (r : Int), .int .i64 (c : Int), .slice A l.length cap] := by rw [hv0]; exact heap_alloc_new w _
  have hb : Below w.heap.size w v0 := by rw [hv0]; exact (Below.refl _ _).alloc (Nat.le_refl _) _
  have HV := Lib.hid hv0.symm
  clear hv0
  go_upto_region 1 with (fail)
  rewrite [HV.out]
  clear HV
  have X0k0 : v0.cell? ⟨w.heap.size, 0, none⟩ = some (.int .i64 (r : Int)) := (X0.cell 0).trans rfl; have X0k1 : v0.cell? ⟨w.heap.size, 1, none⟩ = some (.int .i64 (c : Int)) := (X0.cell 1).trans rfl; have X0k2 : v0.cell? ⟨w.heap.size, 2, none⟩ = some (.slice A l.length cap) := (X0.cell 2).trans rfl
  go_wp2_with fail
  refine (impl_openCells (r : Int) (c : Int) A cap l _ (by omega) ((hr.below hb).mono hb.size)).mono ?_
  rintro e w1 ⟨B, rfl, hB, hK, b1⟩
  clear X0k0 X0k1 X0k2
  replace X0 := X0.below b1 X0.lt
  have hB0 : w.heap.size ≤ B := Nat.le_trans hb.size hB
  replace hb := hb.trans (b1.mono hb.size)
  clear b1 hB
  have X0k0 : w1.cell? ⟨w.heap.size, 0, none⟩ = some (.int .i64 (r : Int)) := (X0.cell 0).trans rfl; have X0k1 : w1.cell? ⟨w.heap.size, 1, none⟩ = some (.int .i64 (c : Int)) := (X0.cell 1).trans rfl; have X0k2 : w1.cell? ⟨w.heap.size, 2, none⟩ = some (.slice A l.length cap) := (X0.cell 2).trans rfl
  go_wp2_with fail
  clear X0k0 X0k1 X0k2
  go_loopw [11, 3] (fun t v wr => ∃ k : Nat, t = .int .i64 k ∧ k ≤ l.length ∧ LRow wr w.heap.size v ((gat (J l) (nearL c l.length) l.length k).map (sortN l.length)) ∧ Keys wr B l.length (opn (J l) (gat (J l) (nearL c l.length) l.length k).flatten []) ∧ Whole wr w.heap.size 30 [.int .i64 (r : Int), .int .i64 (c : Int), .slice A l.length cap] ∧ Below w.heap.size w wr) (fun t _ _ => l.length - (intOf t).toNat)
  case atStart => exact ⟨0, rfl, Nat.zero_le _, LRow.nil, hK.congr (fun j _ => J_opn l j), X0, hb⟩
  case round =>
    clear X0 hb hK
    obtain ⟨k, rfl, hk, hL, hK, X0, hb⟩ := hrel
    by_cases hlt : k < l.length
    · have hGl := gat_len (J l) (nearL c l.length) l.length k
      have HG1 := Lib.hid (show gat (J l) (nearL c l.length) l.length (k + 1) = gst (J l) (nearL c l.length) l.length (gat (J l) (nearL c l.length) l.length k) k from rfl)
      generalize gat (J l) (nearL c l.length) l.length k = G at *
      have hs := hb.size
      have X0k0 : wr.cell? ⟨w.heap.size, 0, none⟩ = some (.int .i64 (r : Int)) := (X0.cell 0).trans rfl; have X0k1 : wr.cell? ⟨w.heap.size, 1, none⟩ = some (.int .i64 (c : Int)) := (X0.cell 1).trans rfl; have X0k2 : wr.cell? ⟨w.heap.size, 2, none⟩ = some (.slice A l.length cap) := (X0.cell 2).trans rfl
      rcases Bool.eq_false_or_eq_true (opn (J l) G.flatten [] k) with hop | hop
      · have HO := Lib.hid hop
        have hst : gst (J l) (nearL c l.length) l.length G k = G ++ [brs (J l) (nearL c l.length) G.flatten [k] l.length] := by unfold gst grp; rw [hop]; rfl
        rewrite [hst] at HG1
        go_wp2_with (first | (at_lookup; refine wpList_look_keys rfl _ _ rfl B l.length _ rfl hK k rfl (by omega) ?_; rewrite [hop]) | fail)
        clear hop hst
        refine (impl_takeGroup r c A cap l B l.length k G.flatten wr hG ((hr.below hb).mono hs) hlt hK HO.out).mono ?_
        rintro e w2 ⟨v2, rfl, hrow2, hK2, hg2⟩
        generalize hq : brs (J l) (nearL c l.length) G.flatten [k] l.length = q at *
        have hL2 := hL.del hK hg2
        have hX2 := X0.grown hg2 (fun e => hK.whole X0 (by cases e; rfl))
        have hb2 := hb.trans (grown_new hg2 hs hB0)
        obtain ⟨A2, c2, rfl, o2, n2⟩ := hrow2.shape
        rewrite [nI_length]
        have hs2 := hb2.size
        have hlen : ((G.map (sortN l.length))).length ≤ 1048576 := by rw [List.length_map]; omega
        clear X0k0 X0k1 X0k2
        clear hL hK X0 hb hg2 hrow2
        go_wp2_with (first | (at_builtin; refine wpList_pushL (x := sortN l.length q) hL2 hlen hs2 o2 (fun a ha => by have := n2 a ha; omega) rfl _ _ rfl rfl rfl ?_; intro v3 w3 hL3 hg3 hb3 hv3) | fail)
        have hX3 := (hX2.alloc (.cells #[.slice A2 (sortN l.length q).length c2] 55)).grown hg3 (by
          rcases hv3 with e | ⟨j, _, ys, hrow⟩
          · rw [e]; simp
          · exact row_apart hrow hX2 (by decide))
        have hK3 := (hK2.alloc (.cells #[.slice A2 (sortN l.length q).length c2] 55)).kept hg3 (by
          rcases hv3 with e | ⟨j, _, ys, hrow⟩
          · rw [e]; simp
          · exact hK2.row hrow)
        have hb4 := hb2.trans hb3
        go_roundw
        case rel => exact ⟨k + 1, by go_num, by omega, by rw [HG1.out, List.map_append]; exact hL3, by rw [HG1.out]; exact hK3.congr (fun j _ => (opn_flat (J l) G q j).symm), hX3, hb4⟩
        case measure => simp [intOf]; omega
      · have hst : gst (J l) (nearL c l.length) l.length G k = G := by unfold gst; rw [hop]; rfl
        rewrite [hst] at HG1
        go_wp2_with (first | (at_lookup; refine wpList_look_keys rfl _ _ rfl B l.length _ rfl hK k rfl (by omega) ?_; rewrite [hop]) | fail)
        go_roundw
        case rel => exact ⟨k + 1, by go_num, by omega, by rw [HG1.out]; exact hL, by rw [HG1.out]; exact hK, X0, hb⟩
        case measure => simp [intOf]; omega
    · obtain rfl : k = l.length := by omega
      rw [HGG.out] at hL
      go_wp2
      go_returns
      exact ⟨_, rfl, hL, hb⟩
end Go.Proofs.Ytdpgbgniejlilaa
