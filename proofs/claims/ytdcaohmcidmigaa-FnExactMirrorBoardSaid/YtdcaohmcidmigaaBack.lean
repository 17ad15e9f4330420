/- slices.Backward over cells: the iterator's contract. -/
import Derived.RangeFuncNested
import Derived.RangeFuncBound
import Derived.RangeFuncCalls
import Derived.RangeFuncLeaves
import Derived.Shelf.Abstract
import Derived.WalkKit
import Derived.OwnWalkIn
import Derived.TacticsInMore
import Derived.LoopNIn
import Derived.LoopIn
import Derived.Test.YtdcaohmcidmigaaRowOf
namespace Go.Proofs.Ytdcaohmcidmigaa
open Go.ChangeShapes Go.WideShapes Go.ChangeAt Go.RowKit Go.Joins Go.Deep
set_option linter.unusedSimpArgs false
set_option linter.unusedVariables false
set_option maxRecDepth 100000
attribute [local go_sem] Oper.semAt_some
set_option maxHeartbeats 2000000
def bk (l : List (Int × Int)) (k : Nat) : Nat × (Int × Int) := (l.length - 1 - k, l.getD (l.length - 1 - k) (0, 0))
def bks (l : List (Int × Int)) (k : Nat) : List (Nat × (Int × Int)) := (List.range k).map (bk l)
theorem bks_succ (l : List (Int × Int)) (k : Nat) : bks l (k + 1) = bks l k ++ [bk l k] := by simp [bks, List.range_succ]
theorem bks_len (l : List (Int × Int)) (k : Nat) : (bks l k).length = k := by simp [bks]
/-- What a round that goes on keeps: whatever lay below n₀, and the block of the iterator's own slice. -/
def KeepB (n₀ Bs : Nat) (A B : World) : Prop := Below n₀ A B ∧ B.heap[Bs]? = A.heap[Bs]?
theorem KeepB.trans {n₀ Bs : Nat} {A B C : World} (h : KeepB n₀ Bs A B) (k : KeepB n₀ Bs B C) : KeepB n₀ Bs A C := ⟨h.1.trans k.1, k.2.trans h.2⟩
theorem KeepB.put {n₀ Bs : Nat} {w : World} (hn : n₀ ≤ w.heap.size) (hB : Bs < w.heap.size) (W : World) (l : Nat) (o o' : Obj) (hl : w.heap.size ≤ l) (h : W.heap[l]? = some o) (h1 : o.isCells = false) (h2 : o.isWalk = false) : KeepB n₀ Bs W (W.putObj l o') :=
  ⟨belowK_b hn W l o o' hl h h1 h2, by
    show (W.heap.setIfInBounds l o')[Bs]? = _
    rw [Array.getElem?_setIfInBounds_ne (by omega)]⟩
set_option maxRecDepth 100000 in
theorem back1_in (F : Fence) (n : Nat) (hF : F.fn 54) (hro : F.round = none) (hn : 1 ≤ n) (L Bs n₀ b off cap : Nat) (l : List (Int × Int)) (hlen : l.length ≤ 1048576) (hb : b < n₀) (J Jx : List (Nat × (Int × Int)) → World → Prop)
    (hY : ∀ pre x W, J pre W → pre.length < l.length → YieldAt F (n - 1) Try.prog L #[.int .i64 (x.1 : Int), .agg #[.int .i64 x.2.1, .int .i64 x.2.2]] W fun e W' =>
      (e = .returned (.bool true) ∧ J (pre ++ [x]) W' ∧ KeepB n₀ Bs W W') ∨ (e = .returned (.bool false) ∧ Jx (pre ++ [x]) W'))
    (W : World) (hBs : Whole W Bs 28 [.slice (some ⟨b, off, none⟩) l.length cap]) (hc : ∀ j u, (flat l)[j]? = some u → W.cell? ⟨b, off + j, none⟩ = some u) (h0 : J [] W) :
    CallsIn F n Try.prog 54 #[.func (.yield L) #[] #[], .pointer (some ⟨Bs, 0, none⟩)] W fun e W' => (∃ v, e = .returned v) ∧
      ((∃ ys, ys = bks l l.length ∧ J ys W') ∨ (∃ pre, (∃ k, k ≤ l.length ∧ pre = bks l k) ∧ Jx pre W')) := by
  have hb0 := (hBs.cell 0).trans rfl
  have hb1 := hBs.lt
  have hw1 : IntKind.i64.wrap ((l.length : Int) - 1) = (l.length : Int) - 1 := IntWalk.i64_in _ (by omega)
  refine callsIn_of_wp Try.func54 rfl hF ?_ hro
  simp only [Try.ntmps54, List.size_toArray, List.length_cons, List.length_nil, Nat.reduceAdd, Nat.reduceSub, Array.replicate_succ, Array.replicate_zero, List.push_toArray, List.append_toArray, List.nil_append, List.cons_append]
  gi_wp2
  gi_loopw [3] (fun i wr => ∃ k : Nat, k ≤ l.length ∧ i = .int .i64 ((l.length : Int) - 1 - (k : Int)) ∧ J (bks l k) wr ∧ KeepB n₀ Bs W wr)
    (fun i _ => (intOf i + 1).toNat)
  case atStart => exact ⟨0, Nat.zero_le _, by go_num, h0, Below.refl _ _, rfl⟩
  case round =>
    obtain ⟨k, hk, rfl, hJs, hK⟩ := hrel
    have hbr : wr.cell? ⟨Bs, 0, none⟩ = some (.slice (some ⟨b, off, none⟩) l.length cap) := by
      have : Whole wr Bs 28 [.slice (some ⟨b, off, none⟩) l.length cap] := hK.2.trans hBs
      exact (this.cell 0).trans rfl
    by_cases hlt : k < l.length
    · obtain ⟨fn, tmps, assign, body, hy, hR⟩ := hY _ (bk l k) wr hJs (by rw [bks_len]; exact hlt)
      obtain ⟨m, hm, hml⟩ : ∃ m : Nat, (l.length : Int) - 1 - (k : Int) = (m : Int) ∧ m < l.length := ⟨l.length - 1 - k, by omega, by omega⟩
      have hd0 : wr.cell? ⟨b, off + m * 2, none⟩ = some (.int .i64 l[m].1) := (hK.1.cell (p := ⟨b, _, none⟩) hb).trans (hc _ _ (flat_at l m hml).1)
      have hd1 : wr.cell? ⟨b, off + m * 2 + 1, none⟩ = some (.int .i64 l[m].2) := (hK.1.cell (p := ⟨b, _, none⟩) hb).trans (hc _ _ (flat_at l m hml).2)
      have hw2 : IntKind.i64.wrap ((m : Int) - 1) = (m : Int) - 1 := IntWalk.i64_in _ (by omega)
      have e1 : bk l k = (m, l[m]) := by
        unfold bk
        rw [show l.length - 1 - k = m by omega, List.getD_eq_getElem?_getD, List.getElem?_eq_getElem hml]
        rfl
      have HS := Lib.hid (show bks l (k + 1) = bks l k ++ [(m, l[m])] by rw [bks_succ, e1])
      rw [e1] at hy hR
      rw [hm]
      dsimp only at hy
      gi_wp2
      refine hR.mono ?_
      rintro e W3 (⟨rfl, hJ3, hk3⟩ | ⟨rfl, hJx3⟩)
      · gi_wp2
        go_roundw
        case rel => exact ⟨k + 1, by omega, by go_num, by rw [HS.out]; exact hJ3, hK.trans hk3⟩
        case measure => first | (simp [intOf]; done) | (simp [intOf]; omega)
      · gi_wp2
        refine bodyPost_ret (results_none rfl _ _ _) rfl ?_
        exact ⟨⟨_, rfl⟩, .inr ⟨_, ⟨k + 1, by omega, HS.out.symm⟩, hJx3⟩⟩
    · obtain rfl : k = l.length := by omega
      have e1 : (l.length : Int) - 1 - (l.length : Int) = -1 := by omega
      rw [e1]
      gi_wp2
      go_end0
      exact ⟨⟨_, rfl⟩, .inl ⟨_, rfl, hJs⟩⟩
theorem back_in (F : Fence) (n : Nat) (hF : F.fn 32) (hro : F.round = none) (a : Option Addr) (len cap : Nat) (w : World) :
    CallsIn F n Try.prog 32 #[.slice a len cap] w fun e w' => e = .returned (.func (.func 54) #[] #[.pointer (some ⟨w.heap.size, 0, none⟩)]) ∧ w' = w.alloc (.cells #[.slice a len cap] 28) := by
  refine callsIn_of_wp Try.func32 rfl hF ?_ hro
  simp only [Try.ntmps32, List.size_toArray, List.length_cons, List.length_nil, Nat.reduceAdd, Nat.reduceSub, Array.replicate_succ, Array.replicate_zero, List.push_toArray, List.append_toArray, List.nil_append, List.cons_append]
  gi_wp2
  go_ret
  exact ⟨rfl, rfl⟩
theorem back_stops (F : Fence) (n : Nat) (hF : F.fn 54) (hro : F.round = none) (hn : 1 ≤ n) (Bs n₀ b off cap : Nat) (l : List (Int × Int)) (hlen : l.length ≤ 1048576) (hb : b < n₀) (w : World) (hn₀ : n₀ ≤ w.heap.size)
    (hBs : Whole w Bs 28 [.slice (some ⟨b, off, none⟩) l.length cap]) (hc : ∀ j u, (flat l)[j]? = some u → w.cell? ⟨b, off + j, none⟩ = some u) :
    SeqStopsK F n Try.prog 54 #[.pointer (some ⟨Bs, 0, none⟩)] (fun x : Nat × (Int × Int) => #[.int .i64 (x.1 : Int), .agg #[.int .i64 x.2.1, .int .i64 x.2.2]]) (KeepB n₀ Bs) (fun ys => ys = bks l l.length)
      (fun pre => ∃ k, k ≤ l.length ∧ pre = bks l k) l.length w := fun L J Jx W hW _ _ hY h0 =>
  back1_in F n hF hro hn L Bs n₀ b off cap l hlen hb J Jx hY W (hBs.below hW hBs.lt) (fun j u h => ((hW.mono hn₀).cell (p := ⟨b, off + j, none⟩) hb).trans (hc j u h)) h0
end Go.Proofs.Ytdcaohmcidmigaa
