/- boMirror, the model's mirrored board. -/
import Derived.Deep.RegionLaw
import Derived.Deep.AppendLies
import Derived.Test.YtdcaohmcidmigaaMirror
import Derived.Test.YtdcaohmcidmigaaBoxes
import Derived.Test.YtdcaohmcidmigaaPut
namespace Go.Proofs.Ytdcaohmcidmigaa
open Go.ChangeShapes Go.WideShapes Go.ChangeAt Go.RowKit Go.Joins Go.Deep
set_option linter.unusedSimpArgs false
set_option linter.unusedVariables false
set_option maxRecDepth 100000
set_option maxHeartbeats 8000000
theorem row_setFarM {w : World} {base : Nat} {e : TypeId} {size n : Nat} {v : Value} {xs : List Value} (h : w.ownsRow base e size v n xs) (p : Addr) (u : Value) (hne : some p.block ≠ v.ownBlock) : (w.setCell p u).ownsRow base e size v n xs := by
  refine ⟨h.1, ?_⟩
  rcases h.2 with h2 | ⟨g, cap, cur, rfl, h2, hh, h3⟩
  · exact .inl h2
  · have hne' : g ≠ p.block := fun e' => hne (by simp [Value.ownBlock, e'])
    exact .inr ⟨g, cap, cur, rfl, h2, (Below.heap_setCell w p u g hne').trans hh, h3⟩
def mirC (c : Int × Int) : Int × Int := (mirK c.1, mirS c.1 c.2)
def cellOf (C : Int) (l : List (Int × Int)) (i j : Int) : Int × Int := l.getD (atI C i j) (0, 0)
def mirRow (C : Int) (l : List (Int × Int)) (i j : Nat) : List (Int × Int) := (List.range j).map fun (d : Nat) => mirC (cellOf C l i (C - 1 - (d : Int)))
def mirB (C : Int) (l : List (Int × Int)) (k : Nat) : List (Int × Int) := (List.range k).flatMap fun i => mirRow C l i C.toNat
theorem mirRow_succ (C : Int) (l : List (Int × Int)) (i j : Nat) : mirRow C l i (j + 1) = mirRow C l i j ++ [mirC (cellOf C l i (C - 1 - (j : Int)))] := by
  unfold mirRow
  rw [List.range_succ, List.map_append]
  rfl
theorem mirB_succ (C : Int) (l : List (Int × Int)) (k : Nat) : mirB C l (k + 1) = mirB C l k ++ mirRow C l k C.toNat := by
  unfold mirB
  rw [List.range_succ, List.flatMap_append]
  simp
theorem mirRow_len (C : Int) (l : List (Int × Int)) (i j : Nat) : (mirRow C l i j).length = j := by simp [mirRow]
theorem mirB_len (C : Int) (l : List (Int × Int)) (k : Nat) : (mirB C l k).length = k * C.toNat := by
  induction k with
  | zero => simp [mirB]
  | succ k ih => rw [mirB_succ, List.length_append, ih, mirRow_len, Nat.succ_mul]
theorem spec_boMirror (R C : Int) (A0 : Option Addr) (cap : Nat) (l : List (Int × Int)) (w : World) (hg : goodB R C l = true) (hn : l.length ≤ 1048576) (hr : Rd w w.heap.size A0 (flat l)) :
    Calls Try.prog 30 #[.agg #[.int .i64 R, .int .i64 C, .slice A0 l.length cap]] w (PostD w R C (mirB C l R.toNat)) := by
  obtain ⟨i0, hi, hz0, hz1, hz2⟩ := info_parts cellInfo
  obtain ⟨s1, s2, s3, s4⟩ := sizeB_iff.1 (goodB_iff.1 hg).1
  have HG := Lib.hid hg
  have m3 : IntKind.i64.wrap (C - 1) = C - 1 := IntWalk.i64_in (C - 1) (by omega)
  clear hg
  go_enter Try.func30, Try.ntmps30
  obtain ⟨v0, hv0, X0, X1, B0, hz0⟩ := two_boxes w [.int .i64 R, .int .i64 C, .slice A0 l.length cap] 30 [.int .i64 0, .int .i64 0, .slice none 0 0] 30
  have HV := Lib.hid hv0
  have HZ0 := Lib.hid hz0
  clear hv0 hz0
  go_wp2_with fail
  rewrite [show (w.alloc (.cells ([.int .i64 R, .int .i64 C, .slice A0 l.length cap] : List Value).toArray 30)).alloc (.cells ([.int .i64 0, .int .i64 0, .slice none 0 0] : List Value).toArray 30) = v0 from HV.out]
  clear HV
  have X0k0 : v0.cell? ⟨w.heap.size, 0, none⟩ = some (.int .i64 R) := (X0.cell 0).trans rfl; have X0k1 : v0.cell? ⟨w.heap.size, 1, none⟩ = some (.int .i64 C) := (X0.cell 1).trans rfl; have X0k2 : v0.cell? ⟨w.heap.size, 2, none⟩ = some (.slice A0 l.length cap) := (X0.cell 2).trans rfl
  go_upto_region 2 with (fail)
  clear X0k0 X0k1 X0k2
  have b2 : Below v0.heap.size v0 (v0.alloc (.cells #[.int .i64 R, .int .i64 C, .slice none 0 0] 30)) := (Below.refl _ _).alloc (Nat.le_refl _) _
  have X6 : Whole (v0.alloc (.cells #[.int .i64 R, .int .i64 C, .slice none 0 0] 30)) v0.heap.size 30 [.int .i64 R, .int .i64 C, .slice none 0 0] := heap_alloc_new v0 _
  replace X0 := X0.below b2 X0.lt
  replace X1 := X1.below b2 X1.lt
  replace B0 := B0.trans (b2.mono B0.size)
  clear b2
  generalize v0.alloc (.cells #[.int .i64 R, .int .i64 C, .slice none 0 0] 30) = w3 at *
  have hGlt := X6.lt
  have e6 : v0.heap.size = w.heap.size + 1 + 1 := HZ0.out
  clear HZ0
  rewrite [e6] at X6 hGlt
  have hx1 : w.heap.size + 1 < w.heap.size + 1 + 1 := by omega
  have hx0 : w.heap.size < w.heap.size + 1 + 1 := by omega
  have hb0 : w.heap.size ≤ w.heap.size + 1 + 1 := by omega
  clear e6
  generalize w.heap.size + 1 + 1 = G at *
  go_wp2
  go_loopw [4, 5] (fun i _ wr => ∃ (k : Nat) (A : Option Addr) (c : Nat), (k : Int) ≤ R ∧ i = .int .i64 k ∧ wr.ownsRow w.heap.size 45 2 (.slice A (mirB C l k).length c) (mirB C l k).length (flat (mirB C l k)) ∧ Whole wr w.heap.size 30 [.int .i64 R, .int .i64 C, .slice A0 l.length cap] ∧ Whole wr (w.heap.size + 1) 30 [.int .i64 0, .int .i64 0, .slice none 0 0] ∧ Whole wr G 30 [.int .i64 R, .int .i64 C, .slice A (mirB C l k).length c] ∧ Below w.heap.size w wr) (fun i _ _ => R.toNat - (intOf i).toNat)
  case atStart => exact ⟨0, none, 0, by omega, rfl, World.ownsRow_nil _ _ _ _, X0, X1, X6, B0⟩
  case round =>
    obtain ⟨k, A, c, hk, rfl, hown, h0, h1, h6, hb⟩ := hrel
    by_cases hlt : (k : Int) < R
    · have hs := hb.size
      have h0k0 : wr.cell? ⟨w.heap.size, 0, none⟩ = some (.int .i64 R) := (h0.cell 0).trans rfl; have h0k1 : wr.cell? ⟨w.heap.size, 1, none⟩ = some (.int .i64 C) := (h0.cell 1).trans rfl; have h0k2 : wr.cell? ⟨w.heap.size, 2, none⟩ = some (.slice A0 l.length cap) := (h0.cell 2).trans rfl
      go_wp2
      clear h0k0 h0k1 h0k2
      go_loopw [5] (fun j wr => ∃ (n : Nat) (A : Option Addr) (c : Nat), n ≤ C.toNat ∧ j = .int .i64 (C - 1 - (n : Int)) ∧ wr.ownsRow w.heap.size 45 2 (.slice A (mirB C l k ++ mirRow C l k n).length c) (mirB C l k ++ mirRow C l k n).length (flat (mirB C l k ++ mirRow C l k n)) ∧ Whole wr w.heap.size 30 [.int .i64 R, .int .i64 C, .slice A0 l.length cap] ∧ Whole wr (w.heap.size + 1) 30 [.int .i64 0, .int .i64 0, .slice none 0 0] ∧ Whole wr G 30 [.int .i64 R, .int .i64 C, .slice A (mirB C l k ++ mirRow C l k n).length c] ∧ Below w.heap.size w wr) (fun j _ => (intOf j + 1).toNat)
      case atStart =>
        have e0 : mirB C l k ++ mirRow C l k 0 = mirB C l k := by simp [mirRow]
        refine ⟨0, A, c, by omega, by go_num, ?_⟩
        rewrite [e0]
        exact ⟨hown, h0, h1, h6, hb⟩
      case round =>
        clear hown h0 h1 h6 hb hs
        obtain ⟨n, A, c, hnc, rfl, hown, h0, h1, h6, hb⟩ := hrel
        have hs := hb.size
        by_cases hnl : n < C.toNat
        · have HS := Lib.hid (show mirB C l k ++ mirRow C l k (n + 1) = (mirB C l k ++ mirRow C l k n) ++ [mirC (cellOf C l k (C - 1 - (n : Int)))] by rw [mirRow_succ, List.append_assoc])
          have hin : inB R C (k : Int) (C - 1 - (n : Int)) = true := inB_iff.2 (by omega)
          have hlen : (mirB C l k ++ mirRow C l k n).length ≤ 180 := by
            rw [List.length_append, mirB_len, mirRow_len]
            have h1 : k ≤ 10 := by omega
            have h2 : C.toNat ≤ 9 := by omega
            have h3 : k * C.toNat ≤ 10 * 9 := Nat.mul_le_mul h1 h2
            omega
          have hq : good (cellOf C l k (C - 1 - (n : Int))).1 (cellOf C l k (C - 1 - (n : Int))).2 = true := by
            obtain ⟨_, _, hlt', _⟩ := at_bound HG.out hin
            unfold cellOf
            rw [List.getD_eq_getElem?_getD, List.getElem?_eq_getElem hlt']
            exact (goodB_iff.1 HG.out).2.2 _ (List.getElem_mem _)
          have hwn : IntKind.i64.wrap (C - 1 - (n : Int) - 1) = C - 1 - (n : Int) - 1 := IntWalk.i64_in _ (by omega)
          have hge : 0 ≤ C - 1 - (n : Int) := by omega
          have HA := Lib.hid (fun w0 h0 => spec_boAt R C A0 cap l (k : Int) (C - 1 - (n : Int)) w0 HG.out hin h0)
          have HZ := Lib.hid (fun w0 => spec_paMirror (cellOf C l k (C - 1 - (n : Int))).1 (cellOf C l k (C - 1 - (n : Int))).2 hq w0)
          unfold cellOf at HA HZ HS
          clear hq hin
          generalize l.getD (atI C (k : Int) (C - 1 - (n : Int))) (0, 0) = q at *
          have HF := Lib.hid (show flat [mirC q] = [.int .i64 (mirK q.1), .int .i64 (mirS q.1 q.2)] from rfl)
          generalize mirB C l k ++ mirRow C l k n = rb at *
          go_upto_region 8 with (fail)
          have bd : Below wr.heap.size wr wr.drew := (Below.refl _ _).drew
          replace h0 := h0.below bd h0.lt; replace h1 := h1.below bd h1.lt; replace h6 := h6.below bd h6.lt; replace hown := row_keep hown bd; replace hb := hb.trans (bd.mono hs); replace hs := hb.size; have hGl := h6.lt; clear bd
          have h0k0 : wr.drew.cell? ⟨w.heap.size, 0, none⟩ = some (.int .i64 R) := (h0.cell 0).trans rfl; have h0k1 : wr.drew.cell? ⟨w.heap.size, 1, none⟩ = some (.int .i64 C) := (h0.cell 1).trans rfl; have h0k2 : wr.drew.cell? ⟨w.heap.size, 2, none⟩ = some (.slice A0 l.length cap) := (h0.cell 2).trans rfl; have h6k0 : wr.drew.cell? ⟨G, 0, none⟩ = some (.int .i64 R) := (h6.cell 0).trans rfl; have h6k1 : wr.drew.cell? ⟨G, 1, none⟩ = some (.int .i64 C) := (h6.cell 1).trans rfl; have h6k2 : wr.drew.cell? ⟨G, 2, none⟩ = some (.slice A rb.length c) := (h6.cell 2).trans rfl; have h6f0 := h6.frozen 0; have h6f1 := h6.frozen 1; have h6f2 := h6.frozen 2
          go_region_law (first
            | (have ba : Below w5.heap.size w5 (w5.alloc (.cells #[.int .i64 (mirK q.1), .int .i64 (mirS q.1 q.2)] 45)) := (Below.refl _ _).alloc (Nat.le_refl _) _; clear h0k0 h0k1 h0k2; clear h6k0 h6k1 h6k2; clear h6f0 h6f1 h6f2 hGl; replace h0 := h0.below ba h0.lt; replace h1 := h1.below ba h1.lt; replace h6 := h6.below ba h6.lt; replace hown := row_keep hown ba; replace hb := hb.trans (ba.mono hs); replace hs := hb.size; have hGl := h6.lt; clear ba; refine step_append_lies _ (by rfl) _ _ _ (by rfl) w.heap.size 45 i0 _ 2 16 Try.underlying28 hi hz0 hz1 hz2 rfl (by omega) (.slice A rb.length c) rb.length (flat rb) (by simp [Act.eval, Act.put]) hown ⟨w5.heap.size, 0, none⟩ 1 1 [.int .i64 (mirK q.1), .int .i64 (mirS q.1 q.2)] (by simp [Act.eval, Act.put]) (by rfl) two_cells two_one (by omega) (by unfold maxLen; omega) (by omega) hs _ rfl ?_; intro g2 c2 w6 hown6 hg6 hat6 hlt6; clear hat6 hlt6; have B6 := row_below hown hb hs hg6; replace h0 := h0.grown hg6 (row_apart hown h0 (by decide)); replace h1 := h1.grown hg6 (row_apart hown h1 (by decide)); replace h6 := h6.grown hg6 (row_apart hown h6 (by decide)); clear hg6 hown hb hs hGl; have hown := hown6; have hb := B6; have hs := hb.size; have hGl := h6.lt; clear B6 hown6; have h0k0 : w6.cell? ⟨w.heap.size, 0, none⟩ = some (.int .i64 R) := (h0.cell 0).trans rfl; have h0k1 : w6.cell? ⟨w.heap.size, 1, none⟩ = some (.int .i64 C) := (h0.cell 1).trans rfl; have h0k2 : w6.cell? ⟨w.heap.size, 2, none⟩ = some (.slice A0 l.length cap) := (h0.cell 2).trans rfl; have h6k0 : w6.cell? ⟨G, 0, none⟩ = some (.int .i64 R) := (h6.cell 0).trans rfl; have h6k1 : w6.cell? ⟨G, 1, none⟩ = some (.int .i64 C) := (h6.cell 1).trans rfl; have h6k2 : w6.cell? ⟨G, 2, none⟩ = some (.slice A rb.length c) := (h6.cell 2).trans rfl; have h6f0 := h6.frozen 0; have h6f1 := h6.frozen 1; have h6f2 := h6.frozen 2)
            | (go_simp; with_reducible refine Calls.mono (HA.out _ ((hr.below hb).mono hs)) ?_; rintro e w4 ⟨rfl, b4⟩; clear h0k0 h0k1 h0k2; clear h6k0 h6k1 h6k2; clear h6f0 h6f1 h6f2 hGl; replace h0 := h0.below b4 h0.lt; replace h1 := h1.below b4 h1.lt; replace h6 := h6.below b4 h6.lt; replace hown := row_keep hown b4; replace hb := hb.trans (b4.mono hs); replace hs := hb.size; have hGl := h6.lt; clear b4; have h0k0 : w4.cell? ⟨w.heap.size, 0, none⟩ = some (.int .i64 R) := (h0.cell 0).trans rfl; have h0k1 : w4.cell? ⟨w.heap.size, 1, none⟩ = some (.int .i64 C) := (h0.cell 1).trans rfl; have h0k2 : w4.cell? ⟨w.heap.size, 2, none⟩ = some (.slice A0 l.length cap) := (h0.cell 2).trans rfl; have h6k0 : w4.cell? ⟨G, 0, none⟩ = some (.int .i64 R) := (h6.cell 0).trans rfl; have h6k1 : w4.cell? ⟨G, 1, none⟩ = some (.int .i64 C) := (h6.cell 1).trans rfl; have h6k2 : w4.cell? ⟨G, 2, none⟩ = some (.slice A rb.length c) := (h6.cell 2).trans rfl; have h6f0 := h6.frozen 0; have h6f1 := h6.frozen 1; have h6f2 := h6.frozen 2)
            | (go_simp; with_reducible refine Calls.mono (HZ.out _) ?_; rintro e w5 ⟨rfl, b5⟩; clear h0k0 h0k1 h0k2; clear h6k0 h6k1 h6k2; clear h6f0 h6f1 h6f2 hGl; replace h0 := h0.below b5 h0.lt; replace h1 := h1.below b5 h1.lt; replace h6 := h6.below b5 h6.lt; replace hown := row_keep hown b5; replace hb := hb.trans (b5.mono hs); replace hs := hb.size; have hGl := h6.lt; clear b5; have h0k0 : w5.cell? ⟨w.heap.size, 0, none⟩ = some (.int .i64 R) := (h0.cell 0).trans rfl; have h0k1 : w5.cell? ⟨w.heap.size, 1, none⟩ = some (.int .i64 C) := (h0.cell 1).trans rfl; have h0k2 : w5.cell? ⟨w.heap.size, 2, none⟩ = some (.slice A0 l.length cap) := (h0.cell 2).trans rfl; have h6k0 : w5.cell? ⟨G, 0, none⟩ = some (.int .i64 R) := (h6.cell 0).trans rfl; have h6k1 : w5.cell? ⟨G, 1, none⟩ = some (.int .i64 C) := (h6.cell 1).trans rfl; have h6k2 : w5.cell? ⟨G, 2, none⟩ = some (.slice A rb.length c) := (h6.cell 2).trans rfl; have h6f0 := h6.frozen 0; have h6f1 := h6.frozen 1; have h6f2 := h6.frozen 2)
            | fail)
          all_goals (clear h0k0 h0k1 h0k2; clear h6k0 h6k1 h6k2; clear h6f0 h6f1 h6f2 hGl; go_wp2; go_roundw)
          all_goals first
            | (refine ⟨n + 1, some ⟨g2, 0, none⟩, c2, by omega, by go_num, ?_⟩; rewrite [HS.out, flat_append, HF.out, List.length_append]; exact ⟨row_setFarM hown _ _ (row_apart hown h6 (by decide)), h0.set_far _ _ (by show G ≠ _; omega), h1.set_far _ _ (by show G ≠ _; omega), h6.set 2 _, hb.setCell (p := ⟨G, 2, none⟩) (by show w.heap.size ≤ G; omega) _⟩)
            | (simp [intOf]; omega)
            | fail
        · obtain rfl : n = C.toNat := by omega
          have hcn : C - 1 - ((C.toNat : Nat) : Int) = -1 := by omega
          rewrite [hcn]
          have e1 := Lib.hid (mirB_succ C l k)
          rewrite [← e1.out] at hown h6
          clear hcn
          go_wp2
          go_roundw
          case rel => exact ⟨k + 1, A, c, by omega, by go_num, hown, h0, h1, h6, hb⟩
          case measure => simp [intOf]; omega
    · obtain rfl : R = (k : Int) := by omega
      have ho := own_of_row hown
      have hap : 0 < (flat (mirB C l k)).length → ∀ a, A = some a → w.heap.size + 1 ≠ a.block := fun hx a ha => (own_apart ho.1 h1 (by decide) hx ha).symm
      have hz1' := h1.lt
      have h0k0 : wr.cell? ⟨w.heap.size, 0, none⟩ = some (.int .i64 (k : Int)) := (h0.cell 0).trans rfl; have h0k1 : wr.cell? ⟨w.heap.size, 1, none⟩ = some (.int .i64 C) := (h0.cell 1).trans rfl; have h0k2 : wr.cell? ⟨w.heap.size, 2, none⟩ = some (.slice A0 l.length cap) := (h0.cell 2).trans rfl
      have h6k0 : wr.cell? ⟨G, 0, none⟩ = some (.int .i64 (k : Int)) := (h6.cell 0).trans rfl; have h6k1 : wr.cell? ⟨G, 1, none⟩ = some (.int .i64 C) := (h6.cell 1).trans rfl; have h6k2 : wr.cell? ⟨G, 2, none⟩ = some (.slice A (mirB C l k).length c) := (h6.cell 2).trans rfl
      have h1k0 : wr.cell? ⟨w.heap.size + 1, 0, none⟩ = some (.int .i64 0) := (h1.cell 0).trans rfl; have h1k1 : wr.cell? ⟨w.heap.size + 1, 1, none⟩ = some (.int .i64 0) := (h1.cell 1).trans rfl; have h1k2 : wr.cell? ⟨w.heap.size + 1, 2, none⟩ = some (.slice none 0 0) := (h1.cell 2).trans rfl
      have h1f0 := h1.frozen 0; have h1f1 := h1.frozen 1; have h1f2 := h1.frozen 2
      clear hown
      go_wp2
      refine bodyPost_ret (v := .agg #[.int .i64 (k : Int), .int .i64 C, .slice A (mirB C l k).length c]) ?_ rfl ?_; (focus (simp [results, Try.results30, go_sem, *]; done))
      exact PostD.mk (((ho.1.set_far2 _ _ hap).set_far2 _ _ hap).set_far2 _ _ hap) ho.2 (by (repeat' (first | (with_reducible exact Below.refl _ _) | (with_reducible assumption) | (with_reducible refine Below.alloc ?_ ?_ _) | (with_reducible refine Below.setCell ?_ ?_ _) | (with_reducible refine Below.drew ?_) | (with_reducible refine below_drewN ?_ _) | (with_reducible refine Below.trans ?_ (Below.mono (by assumption) ?_)) | (with_reducible exact Nat.le_refl _) | (simp; done) | omega | (simp at *; omega))))
end Go.Proofs.Ytdcaohmcidmigaa
