/- BesideBoards, the two contracts. -/
import Derived.Test.YtpfjbecpfdgnpaaBeside2
namespace Go.Proofs.Ytpfjbecpfdgnpaa
open Go.ChangeShapes Go.WideShapes Go.ChangeAt Go.RowKit Go.Joins Go.Deep
set_option linter.unusedSimpArgs false
set_option linter.unusedVariables false
set_option maxRecDepth 100000
set_option maxHeartbeats 400000
theorem spec_BesideBoards_yes (R C : Int) (A : Option Addr) (cap : Nat) (l : List (Int × Int)) (R' C' : Int) (A' : Option Addr) (cap' : Nat) (m : List (Int × Int)) (w : World) (hg : goodB R C l = true) (hg' : goodB R C' m = true) (hc : C + C' ≤ 9) (hn : l.length ≤ 1048576) (hr : Rd w w.heap.size A (flat l)) (hm : m.length ≤ 1048576) (hr' : Rd w w.heap.size A' (flat m)) (hcap : l.length ≤ cap) (hcap' : m.length ≤ cap') : Calls Try.prog 22 #[.agg #[.int .i64 R, .int .i64 C, .slice A l.length cap], .agg #[.int .i64 R, .int .i64 C', .slice A' m.length cap']] w (PostB w R (C + C') (rowsB C l C' m R.toNat) true) :=
  spec_BesideBoards_post R C A cap l R' C' A' cap' m w hg hg' hn hr hm hr' hcap hcap' _ (fun _ => rfl) (fun h => absurd hc h)
theorem spec_BesideBoards_wide (R C : Int) (A : Option Addr) (cap : Nat) (l : List (Int × Int)) (R' C' : Int) (A' : Option Addr) (cap' : Nat) (m : List (Int × Int)) (w : World) (hg : goodB R C l = true) (hg' : goodB R C' m = true) (hc : ¬ C + C' ≤ 9) (hn : l.length ≤ 1048576) (hr : Rd w w.heap.size A (flat l)) (hm : m.length ≤ 1048576) (hr' : Rd w w.heap.size A' (flat m)) (hcap : l.length ≤ cap) (hcap' : m.length ≤ cap') : Calls Try.prog 22 #[.agg #[.int .i64 R, .int .i64 C, .slice A l.length cap], .agg #[.int .i64 R, .int .i64 C', .slice A' m.length cap']] w (PostB w 0 0 [] false) :=
  spec_BesideBoards_post R C A cap l R' C' A' cap' m w hg hg' hn hr hm hr' hcap hcap' _ (fun h => absurd h hc) (fun _ => rfl)
theorem besideB_post {w w' : World} {R C R' C' : Int} {l m : List (Int × Int)} {e : Ending} {ok : Bool} (h : okBeside R C l R' C' m = ok) (hp : if ok then PostB w R (C + C') (rowsB C l C' m R.toNat) true e w' else PostB w 0 0 [] false e w') :
    PostB w (selI (okBeside R C l R' C' m) R) (selI (okBeside R C l R' C' m) (C + C')) (besideL R C l R' C' m) (okBeside R C l R' C' m) e w' := by
  unfold besideL
  rw [h]
  cases ok
  · exact hp
  · exact hp
theorem spec_BesideBoards (R C : Int) (A : Option Addr) (cap : Nat) (l : List (Int × Int)) (R' C' : Int) (A' : Option Addr) (cap' : Nat) (m : List (Int × Int)) (w : World) (hn : l.length ≤ 1048576) (hr : Rd w w.heap.size A (flat l)) (hm : m.length ≤ 1048576) (hr' : Rd w w.heap.size A' (flat m)) (hcap : l.length ≤ cap) (hcap' : m.length ≤ cap') :
    Calls Try.prog 22 #[.agg #[.int .i64 R, .int .i64 C, .slice A l.length cap], .agg #[.int .i64 R', .int .i64 C', .slice A' m.length cap']] w (PostB w (selI (okBeside R C l R' C' m) R) (selI (okBeside R C l R' C' m) (C + C')) (besideL R C l R' C' m) (okBeside R C l R' C' m)) := by
  rcases Bool.eq_false_or_eq_true (goodB R C l) with hg | hg
  · rcases Bool.eq_false_or_eq_true (goodB R' C' m) with hg' | hg'
    · by_cases hc : R = R'
      · subst hc
        by_cases hs : C + C' ≤ 9
        · exact (spec_BesideBoards_yes R C A cap l R C' A' cap' m w hg hg' hs hn hr hm hr' hcap hcap').mono fun e w' h => besideB_post (ok := true) (by unfold okBeside; rw [hg, hg']; simp [hs]) h
        · exact (spec_BesideBoards_wide R C A cap l R C' A' cap' m w hg hg' hs hn hr hm hr' hcap hcap').mono fun e w' h => besideB_post (ok := false) (by unfold okBeside; rw [hg, hg']; simp; omega) h
      · exact (spec_BesideBoards_rows R C A cap l R' C' A' cap' m w hg hg' hc hn hr hm hr').mono fun e w' h => besideB_post (ok := false) (by unfold okBeside; rw [hg, hg']; simp [hc]) h
    · exact (spec_BesideBoards_bad2 R C A cap l R' C' A' cap' m w hg hg' hn hr hm hr').mono fun e w' h => besideB_post (ok := false) (by unfold okBeside; rw [hg', Bool.and_false]; rfl) h
  · exact (spec_BesideBoards_bad1 R C A cap l R' C' A' cap' m w hg hn hr hm hr').mono fun e w' h => besideB_post (ok := false) (by unfold okBeside; rw [hg]; rfl) h
theorem impl_BesideBoards (R C : Int) (A : Option Addr) (cap : Nat) (l : List (Int × Int)) (R' C' : Int) (A' : Option Addr) (cap' : Nat) (m : List (Int × Int)) (w : World) (hn : l.length ≤ 1048576) (hr : Rd w w.heap.size A (flat l)) (hm : m.length ≤ 1048576) (hr' : Rd w w.heap.size A' (flat m)) (hcap : l.length ≤ cap) (hcap' : m.length ≤ cap') :
    Calls Try.prog 21 #[.agg #[.int .i64 R, .int .i64 C, .slice A l.length cap], .agg #[.int .i64 R', .int .i64 C', .slice A' m.length cap']] w (PostB w (selI (okBeside R C l R' C' m) R) (selI (okBeside R C l R' C' m) (C + C')) (besideL R C l R' C' m) (okBeside R C l R' C' m)) := by
  rcases Bool.eq_false_or_eq_true (goodB R C l) with hg | hg
  · rcases Bool.eq_false_or_eq_true (goodB R' C' m) with hg' | hg'
    · by_cases hc : R = R'
      · subst hc
        by_cases hs : C + C' ≤ 9
        · exact (impl_BesideBoards_yes R C A cap l R C' A' cap' m w hg hg' hs hn hr hm hr' hcap hcap').mono fun e w' h => besideB_post (ok := true) (by unfold okBeside; rw [hg, hg']; simp [hs]) h
        · exact (impl_BesideBoards_wide R C A cap l R C' A' cap' m w hg hg' hs hn hr hm hr' ).mono fun e w' h => besideB_post (ok := false) (by unfold okBeside; rw [hg, hg']; simp; omega) h
      · exact (impl_BesideBoards_rows R C A cap l R' C' A' cap' m w hg hg' hc hn hr hm hr').mono fun e w' h => besideB_post (ok := false) (by unfold okBeside; rw [hg, hg']; simp [hc]) h
    · exact (impl_BesideBoards_bad2 R C A cap l R' C' A' cap' m w hg hg' hn hr hm hr').mono fun e w' h => besideB_post (ok := false) (by unfold okBeside; rw [hg', Bool.and_false]; rfl) h
  · exact (impl_BesideBoards_bad1 R C A cap l R' C' A' cap' m w hg hn hr hm hr').mono fun e w' h => besideB_post (ok := false) (by unfold okBeside; rw [hg]; rfl) h
end Go.Proofs.Ytpfjbecpfdgnpaa
