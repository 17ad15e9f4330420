/- The law on parts of boards. -/
import Derived.Test.YtpfjbecpfdgnpaaStackR
import Derived.Test.YtpfjbecpfdgnpaaDrawP
import Derived.Test.YtpfjbecpfdgnpaaDrawS
import Derived.Test.YtpfjbecpfdgnpaaDrawD
import Derived.Test.YtpfjbecpfdgnpaaDrawK
import Derived.Test.YtpfjbecpfdgnpaaQB
import Derived.Test.YtpfjbecpfdgnpaaQ
import Derived.Test.YtpfjbecpfdgnpaaOpenB
import Derived.Test.YtpfjbecpfdgnpaaCellAt
import Derived.Test.YtpfjbecpfdgnpaaCut
import Derived.Deep.RegionHeld3
import Derived.Deep.QuietTactic
import Derived.BigQuiet
import Derived.Deep.DeepCutAuto
import Derived.Deep.CutRange
import Derived.Test.YtpfjbecpfdgnpaaBpM
namespace Go.Proofs.Ytpfjbecpfdgnpaa
open Go.ChangeShapes Go.WideShapes Go.ChangeAt Go.RowKit Go.Joins Go.Deep
set_option linter.unusedSimpArgs false
set_option linter.unusedVariables false
set_option maxRecDepth 100000
set_option maxHeartbeats 4000000
/-- What holds in every world that lies above w. -/
def Kept (w : World) (Q : World → Prop) : Prop := ∀ w', Below w.heap.size w w' → Q w'
theorem Kept.step {w v : World} {Q : World → Prop} (h : Kept w Q) (b : Below w.heap.size w v) : Kept v Q := fun w' b' => h w' (b.trans (b'.mono b.size))
theorem Kept.add {w : World} {P Q : World → Prop} (h : Kept w Q) (hp : Kept w P) : Kept w (fun v => P v ∧ Q v) := fun w' b => ⟨hp w' b, h w' b⟩
theorem Kept.out {w : World} {Q : World → Prop} (h : Kept w Q) : Q w := h w (Below.refl _ _)
/-- A board in a box. -/
def BD (v : World) (g : Nat) (R C : Int) (A : Option Addr) (cap : Nat) (l : List (Int × Int)) : Prop :=
  Whole v g 25 [.int .i64 R, .int .i64 C, .slice A l.length cap] ∧ Rd v v.heap.size A (flat l)
theorem rd_up {w w' : World} {A : Option Addr} {xs : List Value} (h : Rd w w.heap.size A xs) (b : Below w.heap.size w w') : Rd w' w'.heap.size A xs := (h.below b).mono b.size
theorem BD.kept {v : World} {g : Nat} {R C : Int} {A : Option Addr} {cap : Nat} {l : List (Int × Int)} (h : BD v g R C A cap l) : Kept v (fun v => BD v g R C A cap l) := fun w' b => ⟨h.1.below b h.1.lt, rd_up h.2 b⟩
theorem Bytes.kept {w : World} {A : Option Addr} {l : List Int} (h : Bytes w A l) : Kept w (fun v => Bytes v A l) := fun w' b => ⟨h.1, h.2.1, rd_up h.2.2 b⟩
theorem Whole.kept {w : World} {g : Nat} {t : TypeId} {xs : List Value} (h : Whole w g t xs) : Kept w (fun v => Whole v g t xs) := fun w' b => h.below b h.lt
theorem rd_kept {w : World} {A : Option Addr} {xs : List Value} (h : Rd w w.heap.size A xs) : Kept w (fun v => Rd v v.heap.size A xs) := fun w' b => rd_up h b
theorem below_kept {w v : World} {n : Nat} (h : Below n w v) (hn : n ≤ v.heap.size) : Kept v (fun v => Below n w v) := fun w' b => h.trans (b.mono hn)
theorem box_kept {w v : World} {R C : Int} {A : Option Addr} {cap : Nat} {l : List (Int × Int)} {g : Nat} (h : Rd w w.heap.size A (flat l)) (X : Whole v g 25 [.int .i64 R, .int .i64 C, .slice A l.length cap]) (b : Below w.heap.size w v) : Kept v (fun v => BD v g R C A cap l) := BD.kept ⟨X, rd_up h b⟩
theorem qBoard_same (R C : Int) (A : Option Addr) (cap : Nat) (l : List (Int × Int)) (A' : Option Addr) (cap' : Nat) (w : World) (hn : l.length ≤ 1048576) (hr : Rd w w.heap.size A (flat l)) (hr' : Rd w w.heap.size A' (flat l)) :
    Calls Try.prog 32 #[.agg #[.int .i64 R, .int .i64 C, .slice A l.length cap], .agg #[.int .i64 R, .int .i64 C, .slice A' l.length cap']] w fun e w' => e = .returned (.bool true) ∧ Below w.heap.size w w' :=
  (qBoard_any R C A cap l R C A' cap' l w hn hn hr hr').mono fun e w' h => ⟨by rw [h.1]; simp, h.2⟩
theorem qInts_same (A A' : Option Addr) (cap cap' : Nat) (l : List Int) (w : World) (hn : l.length ≤ 1048576) (hr : Rd w w.heap.size A (ints l)) (hr' : Rd w w.heap.size A' (ints l)) :
    Calls Try.prog 33 #[.slice A l.length cap, .slice A' l.length cap'] w fun e w' => e = .returned (.bool true) ∧ Below w.heap.size w w' :=
  (qInts_any A A' cap cap' l l w hn hn hr hr').mono fun e w' h => ⟨by rw [h.1]; simp, h.2⟩
theorem qHas_no (A : Option Addr) (cap : Nat) (l : List Int) (n : Int) (w : World) (k : Nat) (hn : l.length ≤ 1048576) (hr : Rd w w.heap.size A (ints l)) (h : n ∉ l) :
    Calls Try.prog 34 #[.slice A l.length cap, .int .i64 n] (w.drewN k) fun e w' => e = .returned (.bool false) ∧ ∃ m, w' = w.drewN m :=
  (qHas_any A cap l n (w.drewN k) hn (rd_up hr (below_drewN (Below.refl _ _) k))).mono fun e w' h' => ⟨by rw [h'.1, decide_eq_false h], k, h'.2⟩
theorem qHas_yes (A : Option Addr) (cap : Nat) (l : List Int) (n : Int) (w : World) (k : Nat) (hn : l.length ≤ 1048576) (hr : Rd w w.heap.size A (ints l)) (h : n ∈ l) :
    Calls Try.prog 34 #[.slice A l.length cap, .int .i64 n] (w.drewN k) fun e w' => e = .returned (.bool true) ∧ ∃ m, w' = w.drewN m :=
  (qHas_any A cap l n (w.drewN k) hn (rd_up hr (below_drewN (Below.refl _ _) k))).mono fun e w' h' => ⟨by rw [h'.1, decide_eq_true h], k, h'.2⟩
theorem cells_at {w : World} {A : Option Addr} {l : List (Int × Int)} {k : Nat} (h : Rd w w.heap.size A (flat l)) (hk : k < l.length) : ∃ b o, A = some ⟨b, o, none⟩ ∧ b < w.heap.size ∧ w.cell? ⟨b, o + k * 2, none⟩ = some (.int .i64 l[k].1) ∧ w.cell? ⟨b, o + k * 2 + 1, none⟩ = some (.int .i64 l[k].2) := by
  obtain ⟨b, o, e, hb, hc⟩ := h (by rw [flat_length]; omega)
  exact ⟨b, o, e, hb, hc _ _ (flat_at l k hk).1, hc _ _ (flat_at l k hk).2⟩
theorem cut_call (R C : Int) (A : Option Addr) (cap : Nat) (l : List (Int × Int)) (f t : Int) (w : World) (hn : l.length ≤ 1048576) (hr : Rd w w.heap.size A (flat l)) (hcap : l.length ≤ cap) (hwf : (Lit.int .i64 f).wf = true) (R' C' : Int) (l' : List (Int × Int))
    (h1 : okCut R C l f t = true) (h2 : cutL R C l f t = l') (h3 : t - f = R') (h4 : C = C') :
    Calls Try.prog 27 #[.agg #[.int .i64 R, .int .i64 C, .slice A l.length cap], .int .i64 f, .int .i64 t] w (PostB w R' C' l' true) := by
  subst h2 h3 h4
  have h := impl_CutRows R C A cap l f t w hn hr hcap hwf
  rw [h1] at h
  exact h
theorem cellat_call (R C : Int) (A : Option Addr) (cap : Nat) (l : List (Int × Int)) (i j : Int) (w : World) (hn : l.length ≤ 1048576) (hr : Rd w w.heap.size A (flat l)) (x y : Int) (h1 : hasB R C l i j = true) (h2 : cellK R C l i j = x) (h3 : cellS R C l i j = y) :
    Calls Try.prog 30 #[.agg #[.int .i64 R, .int .i64 C, .slice A l.length cap], .int .i64 i, .int .i64 j] w fun e w' => e = .returned (.tuple #[.agg #[.int .i64 x, .int .i64 y], .bool true]) ∧ Below w.heap.size w w' := by
  have h := impl_CellAt R C A cap l i j w hn hr
  rw [h1, h2, h3] at h
  exact h
theorem isboard_call (R C : Int) (A : Option Addr) (cap : Nat) (l : List (Int × Int)) (w : World) (hn : l.length ≤ 1048576) (hr : Rd w w.heap.size A (flat l)) (h1 : goodB R C l = true) :
    Calls Try.prog 35 #[.agg #[.int .i64 R, .int .i64 C, .slice A l.length cap]] w fun e w' => e = .returned (.bool true) ∧ Below w.heap.size w w' := by
  have h := impl_IsBoard R C A cap l w hn hr
  rw [h1] at h
  exact h
theorem idx_lt {i r k j : Nat} (hi : i < r) (hj : j < k) : i * k + j < r * k := by
  have h : (i + 1) * k ≤ r * k := Nat.mul_le_mul_right k hi
  rw [Nat.succ_mul] at h
  omega
theorem mul_few {i k : Nat} (hi : i ≤ 10) (hk : k ≤ 9) : i * k ≤ 90 := Nat.mul_le_mul hi hk
theorem differ_callI (R C : Int) (A : Option Addr) (cap : Nat) (l : List (Int × Int)) (R' C' : Int) (A' : Option Addr) (cap' : Nat) (m : List (Int × Int)) (w : World) (hn : l.length ≤ 1048576) (hr : Rd w w.heap.size A (flat l)) (hm : m.length ≤ 1048576) (hr' : Rd w w.heap.size A' (flat m)) (D : List Int) (h1 : sameB R C l R' C' m = true) (h2 : diffB R C l R' C' m = D) :
    Calls Try.prog 24 #[.agg #[.int .i64 R, .int .i64 C, .slice A l.length cap], .agg #[.int .i64 R', .int .i64 C', .slice A' m.length cap']] w (PostL w D true) := by
  have h := impl_DifferentCells R C A cap l R' C' A' cap' m w hn hr hm hr'
  rw [h1, h2] at h
  exact h
theorem differ_callS (R C : Int) (A : Option Addr) (cap : Nat) (l : List (Int × Int)) (R' C' : Int) (A' : Option Addr) (cap' : Nat) (m : List (Int × Int)) (w : World) (hn : l.length ≤ 1048576) (hr : Rd w w.heap.size A (flat l)) (hm : m.length ≤ 1048576) (hr' : Rd w w.heap.size A' (flat m)) (D : List Int) (h1 : sameB R C l R' C' m = true) (h2 : diffB R C l R' C' m = D) :
    Calls Try.prog 25 #[.agg #[.int .i64 R, .int .i64 C, .slice A l.length cap], .agg #[.int .i64 R', .int .i64 C', .slice A' m.length cap']] w (PostL w D true) := by
  have h := spec_DifferentCells R C A cap l R' C' A' cap' m w hn hr hm hr'
  rw [h1, h2] at h
  exact h
theorem first_at {w : World} {A : Option Addr} {d : List Int} {v : Int} (h : Rd w w.heap.size A (ints d)) (hd : d = [v]) : ∃ b o, A = some ⟨b, o, none⟩ ∧ b < w.heap.size ∧ w.cell? ⟨b, o, none⟩ = some (.int .i64 v) := by
  subst hd
  obtain ⟨b, o, e, hb, hc⟩ := h (by simp [ints])
  exact ⟨b, o, e, hb, hc 0 _ rfl⟩
theorem wf_few (n : Int) (h1 : -100 ≤ n) (h2 : n ≤ 100) : (Lit.int .i64 n).wf = true := by
  have e1 : IntKind.i64.min = -9223372036854775808 := by decide
  have e2 : IntKind.i64.max = 9223372036854775807 := by decide
  show (decide (IntKind.i64.min ≤ n) && decide (n ≤ IntKind.i64.max)) = true
  rw [e1, e2, Bool.and_eq_true, decide_eq_true_eq, decide_eq_true_eq]
  omega
theorem FnBoardParts_walk0 (A : Option Addr) (cap : Nat) (l : List Int) (A' : Option Addr) (cap' : Nat) (m : List Int) (w : World) (h : Bytes w A l) (h' : Bytes w A' m) :
    Calls Try.prog 3 #[.slice A l.length cap, .slice A' m.length cap'] w fun e w' => e = .returned (.bool true) ∧ Below w.heap.size w w' := by
  have K : Kept w (fun v => Bytes v A l ∧ Bytes v A' m ∧ Below w.heap.size w v) := ((below_kept (Below.refl _ _) (Nat.le_refl _)).add h'.kept).add h.kept
  clear h h'
  by_cases hlen : 1048576 < wrap64 ((l.length : Int) + (m.length : Int))
  · go_enter Try.func3, Try.ntmps3
    go_wp2
    go_returns
    exact ⟨rfl, Below.refl _ _⟩
  go_enter Try.func3, Try.ntmps3
  go_wp2_with fail
  refine (DrawPutCell_any _ _ l _ K.out.1).mono ?_; rintro e w1 ⟨R0, C0, A0, k0, l0, i0, j0, x0, y0, rfl, hi0, hj0, hxy0, bo, bb⟩
  replace K := K.step bb
  have hn0 : l0.length ≤ 1048576 := by have := bo.few; omega
  have hk0 := bo.room
  go_upto_region 4 with (fail)
  obtain ⟨w2, hv, X, Y, bb2, hz⟩ := two_boxes w1 [.int .i64 R0, .int .i64 C0, .slice A0 l0.length k0] 25 [.int .i64 x0, .int .i64 y0] 27
  rewrite [hv]
  have kb := box_kept bo.own.rd X bb2
  have kc := Whole.kept Y
  obtain ⟨gx, hg⟩ : ∃ g, w1.heap.size + 1 = g := ⟨_, rfl⟩
  rewrite [hg] at kc ⊢
  generalize w1.heap.size = gb at kb ⊢
  replace K := ((K.step bb2).add kc).add kb
  clear hv X Y bb2 hz kb kc hg bo bb
  obtain ⟨R1, C1, l1, o1, hE⟩ : ∃ R1 C1 l1 o1, selI (okPut R0 C0 l0 i0 j0 x0 y0) R0 = R1 ∧ selI (okPut R0 C0 l0 i0 j0 x0 y0) C0 = C1 ∧ putL R0 C0 l0 i0 j0 x0 y0 = l1 ∧ okPut R0 C0 l0 i0 j0 x0 y0 = o1 := ⟨_, _, _, _, rfl, rfl, rfl, rfl⟩
  have HE0 := Lib.hid hE
  have hn1 := putL_len R0 C0 l0 i0 j0 x0 y0 hn0
  have hF0 := put_facts (R := R0) (C := C0) (l := l0) (i := i0) (j := j0) (x := x0) (y := y0)
  try rewrite [HE0.out.1] at hn1
  try rewrite [HE0.out.2.1] at hn1
  try rewrite [HE0.out.2.2.1] at hn1
  try rewrite [HE0.out.2.2.2] at hn1
  try rewrite [HE0.out.1] at hF0
  try rewrite [HE0.out.2.1] at hF0
  try rewrite [HE0.out.2.2.1] at hF0
  try rewrite [HE0.out.2.2.2] at hF0
  have HF0 := Lib.hid hF0; clear hF0
  clear hE
  obtain ⟨q00, q01, q02⟩ := whole3 (K.out.1).1
  have qx : w2.cell? ⟨gx, 0, none⟩ = some (.int .i64 x0) := ((K.out.2.1).cell 0).trans rfl
  have qy : w2.cell? ⟨gx, 1, none⟩ = some (.int .i64 y0) := ((K.out.2.1).cell 1).trans rfl
  go_wp2_with fail
  clear q00 q01 q02
  clear qx
  clear qy
  have hc := impl_PutCell R0 C0 A0 k0 l0 i0 j0 x0 y0 w2 hn0 (K.out.1).2
  rewrite [HE0.out.1, HE0.out.2.1, HE0.out.2.2.1, HE0.out.2.2.2] at hc
  refine hc.mono ?_; rintro e w3 ⟨A1, c1, rfl, o, nn, bb⟩
  clear hc nn
  replace K := K.step bb
  clear bb
  go_upto_region 5 with (fail)
  obtain ⟨w4, hv, X, bb, hz⟩ := one_box w3 [.int .i64 R1, .int .i64 C1, .slice A1 l1.length c1] 25
  rewrite [hv]
  have kb := box_kept (o.rd) X bb
  generalize w3.heap.size = gp at kb ⊢
  replace K := (K.step bb).add kb
  clear hv X bb hz kb
  clear o
  obtain ⟨q00, q01, q02⟩ := whole3 (K.out.2.1).1
  have qx : w4.cell? ⟨gx, 0, none⟩ = some (.int .i64 x0) := ((K.out.2.2.1).cell 0).trans rfl
  have qy : w4.cell? ⟨gx, 1, none⟩ = some (.int .i64 y0) := ((K.out.2.2.1).cell 1).trans rfl
  go_wp2_with fail
  clear q00 q01 q02
  clear qx
  clear qy
  have hc := spec_PutCell R0 C0 A0 k0 l0 i0 j0 x0 y0 w4 hn0 (K.out.2.1).2
  rewrite [HE0.out.1, HE0.out.2.1, HE0.out.2.2.1, HE0.out.2.2.2] at hc
  refine hc.mono ?_; rintro e w5 ⟨A2, c2, rfl, o, nn, bb⟩
  clear hc nn
  replace K := K.step bb
  clear bb
  go_upto_region 6 with (fail)
  obtain ⟨w6, hv, X, bb, hz⟩ := one_box w5 [.int .i64 R1, .int .i64 C1, .slice A2 l1.length c2] 25
  rewrite [hv]
  have kb := box_kept (o.rd) X bb
  generalize w5.heap.size = gput at kb ⊢
  replace K := (K.step bb).add kb
  clear hv X bb hz kb
  clear o
  as_aux_lemma =>
    go_wp2_with fail
    refine (DrawStackBoards_any _ _ m w6 (K.out.2.2.2.2.2.1)).mono ?_; rintro e w7 ⟨R3, C3, A3, k3, l3, R4, C4, A4, k4, l4, rfl, bo, bo2, bb⟩
    replace K := K.step bb
    have hn3 : l3.length ≤ 90 := bo.few
    have hn4 : l4.length ≤ 90 := bo2.few
    have hk3 := bo.room
    have hk4 := bo2.room
    go_upto_region 7 with (fail)
    obtain ⟨w8, hv, X, Y, bb, hz⟩ := two_boxes w7 [.int .i64 R3, .int .i64 C3, .slice A3 l3.length k3] 25 [.int .i64 R4, .int .i64 C4, .slice A4 l4.length k4] 25
    rewrite [hv]
    have kb := box_kept (bo.own.rd) X bb
    have kc := box_kept (bo2.own.rd) Y bb
    obtain ⟨gc, hg⟩ : ∃ g, w7.heap.size + 1 = g := ⟨_, rfl⟩
    rewrite [hg] at kc ⊢
    generalize w7.heap.size = ga at kb ⊢
    replace K := ((K.step bb).add kc).add kb
    clear hv X Y bb hz kb kc hg
    clear bo bo2
    obtain ⟨R5, C5, l5, o5, hE⟩ : ∃ R5 C5 l5 o5, selI (okStack R3 C3 l3 R4 C4 l4) (R3 + R4) = R5 ∧ selI (okStack R3 C3 l3 R4 C4 l4) C3 = C5 ∧ stackL R3 C3 l3 R4 C4 l4 = l5 ∧ okStack R3 C3 l3 R4 C4 l4 = o5 := ⟨_, _, _, _, rfl, rfl, rfl, rfl⟩
    have HE3 := Lib.hid hE
    have hn5 := stackL_len R3 C3 l3 R4 C4 l4 (by omega)
    have hF3 := stack_facts (R := R3) (C := C3) (l := l3) (R' := R4) (C' := C4) (m := l4)
    try rewrite [HE3.out.1] at hn5
    try rewrite [HE3.out.2.1] at hn5
    try rewrite [HE3.out.2.2.1] at hn5
    try rewrite [HE3.out.2.2.2] at hn5
    try rewrite [HE3.out.1] at hF3
    try rewrite [HE3.out.2.1] at hF3
    try rewrite [HE3.out.2.2.1] at hF3
    try rewrite [HE3.out.2.2.2] at hF3
    have HF3 := Lib.hid hF3; clear hF3
    clear hE
    obtain ⟨q00, q01, q02⟩ := whole3 (K.out.1).1
    obtain ⟨q10, q11, q12⟩ := whole3 (K.out.2.1).1
    go_wp2_with fail
    clear q00 q01 q02
    clear q10 q11 q12
    have hc := impl_StackBoardsR R3 C3 A3 k3 l3 R4 C4 A4 k4 l4 w8 (by omega) (K.out.1).2 (by omega) (K.out.2.1).2
    rewrite [HE3.out.1, HE3.out.2.1, HE3.out.2.2.1, HE3.out.2.2.2] at hc
    refine hc.mono ?_; rintro e w9 ⟨A5, c5, rfl, hk5, o, nn, bb⟩
    clear hc nn
    replace K := K.step bb
    clear bb
    go_upto_region 8 with (fail)
    obtain ⟨w10, hv, X, bb, hz⟩ := one_box w9 [.int .i64 R5, .int .i64 C5, .slice A5 l5.length c5] 25
    rewrite [hv]
    have kb := box_kept (o.rd) X bb
    generalize w9.heap.size = gs at kb ⊢
    replace K := (K.step bb).add kb
    clear hv X bb hz kb
    clear o
    obtain ⟨q00, q01, q02⟩ := whole3 (K.out.2.1).1
    obtain ⟨q10, q11, q12⟩ := whole3 (K.out.2.2.1).1
    go_wp2_with fail
    clear q00 q01 q02
    clear q10 q11 q12
    have hc := spec_StackBoards R3 C3 A3 k3 l3 R4 C4 A4 k4 l4 w10 (by omega) (K.out.2.1).2 (by omega) (K.out.2.2.1).2
    rewrite [HE3.out.1, HE3.out.2.1, HE3.out.2.2.1, HE3.out.2.2.2] at hc
    refine hc.mono ?_; rintro e w11 ⟨A6, c6, rfl, o, nn, bb⟩
    clear hc nn
    replace K := K.step bb
    clear bb
    go_upto_region 9 with (fail)
    obtain ⟨w12, hv, X, bb, hz⟩ := one_box w11 [.int .i64 R5, .int .i64 C5, .slice A6 l5.length c6] 25
    rewrite [hv]
    have kb := box_kept (o.rd) X bb
    generalize w11.heap.size = gstack at kb ⊢
    replace K := (K.step bb).add kb
    clear hv X bb hz kb
    clear o
    as_aux_lemma =>
      go_wp2_with fail
      refine (DrawBesideBoards_any _ _ m w12 (K.out.2.2.2.2.2.2.2.2.2.1)).mono ?_; rintro e w13 ⟨R7, C7, A7, k7, l7, R8, C8, A8, k8, l8, rfl, bo, bo2, bb⟩
      replace K := K.step bb
      have hn7 : l7.length ≤ 90 := bo.few
      have hn8 : l8.length ≤ 90 := bo2.few
      have hk7 := bo.room
      have hk8 := bo2.room
      go_upto_region 10 with (fail)
      obtain ⟨w14, hv, X, Y, bb, hz⟩ := two_boxes w13 [.int .i64 R7, .int .i64 C7, .slice A7 l7.length k7] 25 [.int .i64 R8, .int .i64 C8, .slice A8 l8.length k8] 25
      rewrite [hv]
      have kb := box_kept (bo.own.rd) X bb
      have kc := box_kept (bo2.own.rd) Y bb
      obtain ⟨ge, hg⟩ : ∃ g, w13.heap.size + 1 = g := ⟨_, rfl⟩
      rewrite [hg] at kc ⊢
      generalize w13.heap.size = gd at kb ⊢
      replace K := ((K.step bb).add kc).add kb
      clear hv X Y bb hz kb kc hg
      clear bo bo2
      obtain ⟨R9, C9, l9, o9, hE⟩ : ∃ R9 C9 l9 o9, selI (okBeside R7 C7 l7 R8 C8 l8) R7 = R9 ∧ selI (okBeside R7 C7 l7 R8 C8 l8) (C7 + C8) = C9 ∧ besideL R7 C7 l7 R8 C8 l8 = l9 ∧ okBeside R7 C7 l7 R8 C8 l8 = o9 := ⟨_, _, _, _, rfl, rfl, rfl, rfl⟩
      have HE7 := Lib.hid hE
      have hn9 := besideL_len R7 C7 l7 R8 C8 l8
      have hF7 := beside_facts (R := R7) (C := C7) (l := l7) (R' := R8) (C' := C8) (m := l8)
      try rewrite [HE7.out.1] at hn9
      try rewrite [HE7.out.2.1] at hn9
      try rewrite [HE7.out.2.2.1] at hn9
      try rewrite [HE7.out.2.2.2] at hn9
      try rewrite [HE7.out.1] at hF7
      try rewrite [HE7.out.2.1] at hF7
      try rewrite [HE7.out.2.2.1] at hF7
      try rewrite [HE7.out.2.2.2] at hF7
      have HF7 := Lib.hid hF7; clear hF7
      clear hE
      obtain ⟨q00, q01, q02⟩ := whole3 (K.out.1).1
      obtain ⟨q10, q11, q12⟩ := whole3 (K.out.2.1).1
      go_wp2_with fail
      clear q00 q01 q02
      clear q10 q11 q12
      have hc := impl_BesideBoards R7 C7 A7 k7 l7 R8 C8 A8 k8 l8 w14 (by omega) (K.out.1).2 (by omega) (K.out.2.1).2 hk7 hk8
      rewrite [HE7.out.1, HE7.out.2.1, HE7.out.2.2.1, HE7.out.2.2.2] at hc
      refine hc.mono ?_; rintro e w15 ⟨A9, c9, rfl, o, nn, bb⟩
      clear hc nn
      replace K := K.step bb
      clear bb
      go_upto_region 11 with (fail)
      obtain ⟨w16, hv, X, bb, hz⟩ := one_box w15 [.int .i64 R9, .int .i64 C9, .slice A9 l9.length c9] 25
      rewrite [hv]
      have kb := box_kept (o.rd) X bb
      generalize w15.heap.size = gw at kb ⊢
      replace K := (K.step bb).add kb
      clear hv X bb hz kb
      clear o
      obtain ⟨q00, q01, q02⟩ := whole3 (K.out.2.1).1
      obtain ⟨q10, q11, q12⟩ := whole3 (K.out.2.2.1).1
      go_wp2_with fail
      clear q00 q01 q02
      clear q10 q11 q12
      have hc := spec_BesideBoards R7 C7 A7 k7 l7 R8 C8 A8 k8 l8 w16 (by omega) (K.out.2.1).2 (by omega) (K.out.2.2.1).2 hk7 hk8
      rewrite [HE7.out.1, HE7.out.2.1, HE7.out.2.2.1, HE7.out.2.2.2] at hc
      refine hc.mono ?_; rintro e w17 ⟨A10, c10, rfl, o, nn, bb⟩
      clear hc nn
      replace K := K.step bb
      clear bb
      go_upto_region 12 with (fail)
      obtain ⟨w18, hv, X, bb, hz⟩ := one_box w17 [.int .i64 R9, .int .i64 C9, .slice A10 l9.length c10] 25
      rewrite [hv]
      have kb := box_kept (o.rd) X bb
      generalize w17.heap.size = gwide at kb ⊢
      replace K := (K.step bb).add kb
      clear hv X bb hz kb
      clear o
      as_aux_lemma =>
        go_wp2_with fail
        refine (DrawDifferentCells_any _ _ m w18 (K.out.2.2.2.2.2.2.2.2.2.2.2.2.2.1)).mono ?_; rintro e w19 ⟨R11, C11, A11, k11, l11, R12, C12, A12, k12, l12, rfl, bo, bo2, bb⟩
        replace K := K.step bb
        have hn11 : l11.length ≤ 90 := bo.few
        have hn12 : l12.length ≤ 90 := bo2.few
        go_upto_region 13 with (fail)
        obtain ⟨w20, hv, X, Y, bb, hz⟩ := two_boxes w19 [.int .i64 R11, .int .i64 C11, .slice A11 l11.length k11] 25 [.int .i64 R12, .int .i64 C12, .slice A12 l12.length k12] 25
        rewrite [hv]
        have kb := box_kept (bo.own.rd) X bb
        have kc := box_kept (bo2.own.rd) Y bb
        obtain ⟨gg, hg⟩ : ∃ g, w19.heap.size + 1 = g := ⟨_, rfl⟩
        rewrite [hg] at kc ⊢
        generalize w19.heap.size = gf at kb ⊢
        replace K := ((K.step bb).add kc).add kb
        clear hv X Y bb hz kb kc hg
        clear bo bo2
        obtain ⟨d13, o13, hE⟩ : ∃ d13 o13, diffB R11 C11 l11 R12 C12 l12 = d13 ∧ sameB R11 C11 l11 R12 C12 l12 = o13 := ⟨_, _, rfl, rfl⟩
        have HE11 := Lib.hid hE
        have hn13 := diffB_len R11 C11 l11 R12 C12 l12 (by omega)
        have hF11 := differ_facts (R := R11) (C := C11) (l := l11) (R' := R12) (C' := C12) (m := l12)
        try rewrite [HE11.out.1] at hn13
        try rewrite [HE11.out.2] at hn13
        try rewrite [HE11.out.1] at hF11
        try rewrite [HE11.out.2] at hF11
        have HF11 := Lib.hid hF11; clear hF11
        clear hE
        obtain ⟨q00, q01, q02⟩ := whole3 (K.out.1).1
        obtain ⟨q10, q11, q12⟩ := whole3 (K.out.2.1).1
        go_wp2_with fail
        clear q00 q01 q02
        clear q10 q11 q12
        have hc := impl_DifferentCells R11 C11 A11 k11 l11 R12 C12 A12 k12 l12 w20 (by omega) (K.out.1).2 (by omega) (K.out.2.1).2
        rewrite [HE11.out.1, HE11.out.2] at hc
        refine hc.mono ?_; rintro e w21 ⟨A13, c13, rfl, o, nn, bb⟩
        clear hc nn
        replace K := (K.step bb).add (rd_kept o.rd)
        clear bb o
        obtain ⟨q00, q01, q02⟩ := whole3 (K.out.2.1).1
        obtain ⟨q10, q11, q12⟩ := whole3 (K.out.2.2.1).1
        go_wp2_with fail
        clear q00 q01 q02
        clear q10 q11 q12
        have hc := spec_DifferentCells R11 C11 A11 k11 l11 R12 C12 A12 k12 l12 w21 (by omega) (K.out.2.1).2 (by omega) (K.out.2.2.1).2
        rewrite [HE11.out.1, HE11.out.2] at hc
        refine hc.mono ?_; rintro e w22 ⟨A14, c14, rfl, o, nn, bb⟩
        clear hc nn
        replace K := (K.step bb).add (rd_kept o.rd)
        clear bb o
        as_aux_lemma =>
          go_wp2_with fail
          refine (DrawCutRows_any _ _ m w22 (K.out.2.2.2.2.2.2.2.2.2.2.2.2.2.2.2.2.2.1)).mono ?_; rintro e w23 ⟨R15, C15, A15, k15, l15, ff, tt, rfl, hff, htt, bo, bb⟩
          replace K := K.step bb
          have hn15 : l15.length ≤ 1048576 := by have := bo.few; omega
          have hk15 := bo.room
          go_upto_region 16 with (fail)
          obtain ⟨w24, hv, X, bb, hz⟩ := one_box w23 [.int .i64 R15, .int .i64 C15, .slice A15 l15.length k15] 25
          rewrite [hv]
          have kb := box_kept (bo.own.rd) X bb
          generalize w23.heap.size = gh at kb ⊢
          replace K := (K.step bb).add kb
          clear hv X bb hz kb
          clear bo
          obtain ⟨R16, C16, l16, o16, hE⟩ : ∃ R16 C16 l16 o16, selI (okCut R15 C15 l15 ff tt) (tt - ff) = R16 ∧ selI (okCut R15 C15 l15 ff tt) C15 = C16 ∧ cutL R15 C15 l15 ff tt = l16 ∧ okCut R15 C15 l15 ff tt = o16 := ⟨_, _, _, _, rfl, rfl, rfl, rfl⟩
          have HE15 := Lib.hid hE
          have hn16 := cutL_len R15 C15 l15 ff tt hn15
          have hF15 := cut_facts (R := R15) (C := C15) (l := l15) (f := ff) (t := tt)
          try rewrite [HE15.out.1] at hn16
          try rewrite [HE15.out.2.1] at hn16
          try rewrite [HE15.out.2.2.1] at hn16
          try rewrite [HE15.out.2.2.2] at hn16
          try rewrite [HE15.out.1] at hF15
          try rewrite [HE15.out.2.1] at hF15
          try rewrite [HE15.out.2.2.1] at hF15
          try rewrite [HE15.out.2.2.2] at hF15
          have HF15 := Lib.hid hF15; clear hF15
          clear hE
          have hwf := wf_few ff (by omega) (by omega)
          obtain ⟨q00, q01, q02⟩ := whole3 (K.out.1).1
          go_wp2_with fail
          clear q00 q01 q02
          have hc := impl_CutRows R15 C15 A15 k15 l15 ff tt w24 hn15 (K.out.1).2 hk15 hwf
          rewrite [HE15.out.1, HE15.out.2.1, HE15.out.2.2.1, HE15.out.2.2.2] at hc
          refine hc.mono ?_; rintro e w25 ⟨A16, c16, rfl, o, nn, bb⟩
          clear hc nn
          replace K := K.step bb
          clear bb
          go_upto_region 17 with (fail)
          obtain ⟨w26, hv, X, bb, hz⟩ := one_box w25 [.int .i64 R16, .int .i64 C16, .slice A16 l16.length c16] 25
          rewrite [hv]
          have kb := box_kept (o.rd) X bb
          generalize w25.heap.size = gk at kb ⊢
          replace K := (K.step bb).add kb
          clear hv X bb hz kb
          clear o
          obtain ⟨q00, q01, q02⟩ := whole3 (K.out.2.1).1
          go_wp2_with fail
          clear q00 q01 q02
          have hc := spec_CutRows R15 C15 A15 k15 l15 ff tt w26 hn15 (K.out.2.1).2 hk15 hwf
          rewrite [HE15.out.1, HE15.out.2.1, HE15.out.2.2.1, HE15.out.2.2.2] at hc
          refine hc.mono ?_; rintro e w27 ⟨A17, c17, rfl, o, nn, bb⟩
          clear hc nn
          replace K := K.step bb
          clear bb
          go_upto_region 18 with (fail)
          obtain ⟨w28, hv, X, bb, hz⟩ := one_box w27 [.int .i64 R16, .int .i64 C16, .slice A17 l16.length c17] 25
          rewrite [hv]
          have kb := box_kept (o.rd) X bb
          generalize w27.heap.size = gcut at kb ⊢
          replace K := (K.step bb).add kb
          clear hv X bb hz kb
          clear o
          as_aux_lemma =>
            go_wp2_with fail
            refine (DrawCellAt_any _ _ m w28 (K.out.2.2.2.2.2.2.2.2.2.2.2.2.2.2.2.2.2.2.2.2.1)).mono ?_; rintro e w29 ⟨R18, C18, A18, k18, l18, i18, j18, rfl, hi18, hj18, bo, bb⟩
            replace K := K.step bb
            have hn18 : l18.length ≤ 1048576 := by have := bo.few; omega
            go_upto_region 19 with (fail)
            obtain ⟨w30, hv, X, bb, hz⟩ := one_box w29 [.int .i64 R18, .int .i64 C18, .slice A18 l18.length k18] 25
            rewrite [hv]
            have kb := box_kept (bo.own.rd) X bb
            generalize w29.heap.size = gu at kb ⊢
            replace K := (K.step bb).add kb
            clear hv X bb hz kb
            clear bo
            obtain ⟨x18, y18, o18, hE⟩ : ∃ x18 y18 o18, cellK R18 C18 l18 i18 j18 = x18 ∧ cellS R18 C18 l18 i18 j18 = y18 ∧ hasB R18 C18 l18 i18 j18 = o18 := ⟨_, _, _, rfl, rfl, rfl⟩
            have HE18 := Lib.hid hE
            clear hE
            obtain ⟨q00, q01, q02⟩ := whole3 (K.out.1).1
            go_wp2_with fail
            clear q00 q01 q02
            have hc := impl_CellAt R18 C18 A18 k18 l18 i18 j18 w30 hn18 (K.out.1).2
            rewrite [HE18.out.1, HE18.out.2.1, HE18.out.2.2] at hc
            refine hc.mono ?_; rintro e w31 ⟨rfl, bb⟩
            clear hc
            replace K := K.step bb
            clear bb
            go_upto_region 20 with (fail)
            obtain ⟨w32, hv, X, bb, hz⟩ := one_box w31 [.int .i64 x18, .int .i64 y18] 27
            rewrite [hv]
            have kb := Whole.kept X
            generalize w31.heap.size = gv at kb ⊢
            replace K := (K.step bb).add kb
            clear hv X bb hz kb
            obtain ⟨q00, q01, q02⟩ := whole3 (K.out.2.1).1
            go_wp2_with fail
            clear q00 q01 q02
            have hc := spec_CellAt R18 C18 A18 k18 l18 i18 j18 w32 hn18 (K.out.2.1).2
            rewrite [HE18.out.1, HE18.out.2.1, HE18.out.2.2] at hc
            refine hc.mono ?_; rintro e w33 ⟨rfl, bb⟩
            clear hc
            replace K := K.step bb
            clear bb
            go_upto_region 21 with (fail)
            obtain ⟨w34, hv, X, bb, hz⟩ := one_box w33 [.int .i64 x18, .int .i64 y18] 27
            rewrite [hv]
            have kb := Whole.kept X
            generalize w33.heap.size = gcell at kb ⊢
            replace K := (K.step bb).add kb
            clear hv X bb hz kb
            as_aux_lemma =>
              obtain ⟨q00, q01, q02⟩ := whole3 (K.out.2.2.2.2.2.2.2.2.2.2.2.2.2.2.2.2.2.2.2.1).1
              obtain ⟨q10, q11, q12⟩ := whole3 (K.out.2.2.2.2.2.2.2.2.2.2.2.2.2.2.2.2.2.2.1).1
              go_wp2_with fail
              clear q00 q01 q02
              clear q10 q11 q12
              refine (qBoard_same R1 C1 A1 c1 l1 A2 c2 w34 (by omega) (K.out.2.2.2.2.2.2.2.2.2.2.2.2.2.2.2.2.2.2.2.1).2 (K.out.2.2.2.2.2.2.2.2.2.2.2.2.2.2.2.2.2.2.1).2).mono ?_; rintro e w35 ⟨rfl, bb⟩
              replace K := K.step bb
              clear bb
              obtain ⟨q00, q01, q02⟩ := whole3 (K.out.2.2.2.2.2.2.2.2.2.2.2.2.2.2.2.1).1
              obtain ⟨q10, q11, q12⟩ := whole3 (K.out.2.2.2.2.2.2.2.2.2.2.2.2.2.2.1).1
              go_wp2_with fail
              clear q00 q01 q02
              clear q10 q11 q12
              refine (qBoard_same R5 C5 A5 c5 l5 A6 c6 w35 (by omega) (K.out.2.2.2.2.2.2.2.2.2.2.2.2.2.2.2.1).2 (K.out.2.2.2.2.2.2.2.2.2.2.2.2.2.2.1).2).mono ?_; rintro e w36 ⟨rfl, bb⟩
              replace K := K.step bb
              clear bb
              obtain ⟨q00, q01, q02⟩ := whole3 (K.out.2.2.2.2.2.2.2.2.2.2.2.1).1
              obtain ⟨q10, q11, q12⟩ := whole3 (K.out.2.2.2.2.2.2.2.2.2.2.1).1
              go_wp2_with fail
              clear q00 q01 q02
              clear q10 q11 q12
              refine (qBoard_same R9 C9 A9 c9 l9 A10 c10 w36 (by omega) (K.out.2.2.2.2.2.2.2.2.2.2.2.1).2 (K.out.2.2.2.2.2.2.2.2.2.2.1).2).mono ?_; rintro e w37 ⟨rfl, bb⟩
              replace K := K.step bb
              clear bb
              go_wp2_with fail
              refine (qInts_same A13 A14 c13 c14 d13 w37 (by omega) (K.out.2.2.2.2.2.2.2.1) (K.out.2.2.2.2.2.2.1)).mono ?_; rintro e w38 ⟨rfl, bb⟩
              replace K := K.step bb
              clear bb
              obtain ⟨q00, q01, q02⟩ := whole3 (K.out.2.2.2.2.1).1
              obtain ⟨q10, q11, q12⟩ := whole3 (K.out.2.2.2.1).1
              go_wp2_with fail
              clear q00 q01 q02
              clear q10 q11 q12
              refine (qBoard_same R16 C16 A16 c16 l16 A17 c17 w38 (by omega) (K.out.2.2.2.2.1).2 (K.out.2.2.2.1).2).mono ?_; rintro e w39 ⟨rfl, bb⟩
              replace K := K.step bb
              clear bb
              have qv0 : w39.cell? ⟨gv, 0, none⟩ = some (.int .i64 x18) := ((K.out.2.1).cell 0).trans rfl
              have qv1 : w39.cell? ⟨gv, 1, none⟩ = some (.int .i64 y18) := ((K.out.2.1).cell 1).trans rfl
              have qc0 : w39.cell? ⟨gcell, 0, none⟩ = some (.int .i64 x18) := ((K.out.1).cell 0).trans rfl
              have qc1 : w39.cell? ⟨gcell, 1, none⟩ = some (.int .i64 y18) := ((K.out.1).cell 1).trans rfl
              have hh0 := heldCell
              have hh1 := guardCell
              go_upto_region 23 with (fail)
              clear qv0 qv1 qc0 qc1
              go_upto_if 242 with (fail)
              go_cut [4] from 264 to 264 (fun _ wx => Below w39.heap.size w39 wx)
              case first => as_aux_lemma =>
                cases o13 with
                | false =>
                  go_wp2_with fail
                  go_meet
                  exact Below.refl _ _
                | true =>
                  obtain ⟨HL1, HL2, HD⟩ := HF11.out rfl
                  have hl1 : l11.length ≤ l12.length := by omega
                  replace HD := Lib.hid HD
                  clear HL1
                  obtain ⟨q00, q01, q02⟩ := whole3 (K.out.2.2.2.2.2.2.2.2.1).1
                  go_wp2_with fail
                  clear q00 q01 q02
                  go_loopw [246, 45] (fun z _ wr => ∃ k : Nat, z = .int .i64 k ∧ k ≤ l11.length ∧ Below w39.heap.size w39 wr) (fun z _ _ => l11.length - (intOf z).toNat)
                  case atStart => exact ⟨0, rfl, Nat.zero_le _, Below.refl _ _⟩
                  case round => as_aux_lemma =>
                    obtain ⟨k, rfl, hk, hb⟩ := hrel
                    have Kr := K.step hb
                    by_cases hlt : k < l11.length
                    · have hlt2 : k < l12.length := by omega
                      obtain ⟨b1, o1, e1, hb1, c10, c11⟩ := cells_at (Kr.out.2.2.2.2.2.2.2.2.1).2 hlt
                      obtain ⟨b2, o2, e2, hb2, c20, c21⟩ := cells_at (Kr.out.2.2.2.2.2.2.2.2.2.1).2 hlt2
                      obtain ⟨q00, q01, q02⟩ := whole3 (Kr.out.2.2.2.2.2.2.2.2.1).1
                      obtain ⟨q10, q11, q12⟩ := whole3 (Kr.out.2.2.2.2.2.2.2.2.2.1).1
                      have hr := Kr.out.2.2.2.2.2.2.1
                      have HX := Lib.hid (HD.out k hlt)
                      rewrite [getD_at hlt, getD_at hlt2] at HX
                      rewrite [e1] at q02
                      rewrite [e2] at q12
                      have hi0 : (0 : Int) ≤ (k : Int) := Int.natCast_nonneg _
                      have hi1 : (k : Int) < (l11.length : Int) := by omega
                      have hi2 : (k : Int) < (l12.length : Int) := by omega
                      clear K Kr e1 e2
                      generalize l11[k] = p1 at *
                      generalize l12[k] = p2 at *
                      obtain ⟨x, y⟩ := p1
                      obtain ⟨x', y'⟩ := p2
                      by_cases hxy : x = x' ∧ y = y'
                      · obtain ⟨rfl, rfl⟩ := hxy
                        have HN := Lib.hid (fun h => (HX.out.1 h) rfl)
                        go_upto_region 27 with (fail)
                        go_quiet ((go_at_call 34; exact qHas_no A14 c14 d13 k wr _ hn13 hr HN.out))
                        clear HX HN hr
                        go_wp2
                        go_roundw
                        case rel => exact ⟨k + 1, by go_num, by omega, by (repeat' (first | (with_reducible exact Below.refl _ _) | (with_reducible assumption) | (with_reducible refine Below.alloc ?_ ?_ _) | (with_reducible refine Below.setCell ?_ ?_ _) | (with_reducible refine Below.drew ?_) | (with_reducible refine below_drewN ?_ _) | (with_reducible refine Below.trans ?_ (Below.mono (by assumption) ?_)) | (with_reducible exact Nat.le_refl _) | (simp; done) | omega | (simp at *; omega)))⟩
                        case measure => simp [intOf]; omega
                      · have HN := Lib.hid (HX.out.2 (fun h => hxy (by rw [Prod.mk.injEq] at h; exact h)))
                        by_cases hx : x = x'
                        · subst hx
                          have hy : ¬ y = y' := fun h => hxy ⟨rfl, h⟩
                          clear hxy
                          go_upto_region 27 with (fail)
                          go_quiet ((go_at_call 34; exact qHas_yes A14 c14 d13 k wr _ hn13 hr HN.out))
                          clear HX HN hr
                          go_wp2
                          go_roundw
                          case rel => exact ⟨k + 1, by go_num, by omega, by (repeat' (first | (with_reducible exact Below.refl _ _) | (with_reducible assumption) | (with_reducible refine Below.alloc ?_ ?_ _) | (with_reducible refine Below.setCell ?_ ?_ _) | (with_reducible refine Below.drew ?_) | (with_reducible refine below_drewN ?_ _) | (with_reducible refine Below.trans ?_ (Below.mono (by assumption) ?_)) | (with_reducible exact Nat.le_refl _) | (simp; done) | omega | (simp at *; omega)))⟩
                          case measure => simp [intOf]; omega
                        · clear hxy
                          go_upto_region 27 with (fail)
                          go_quiet ((go_at_call 34; exact qHas_yes A14 c14 d13 k wr _ hn13 hr HN.out))
                          clear HX HN hr
                          go_wp2
                          go_roundw
                          case rel => exact ⟨k + 1, by go_num, by omega, by (repeat' (first | (with_reducible exact Below.refl _ _) | (with_reducible assumption) | (with_reducible refine Below.alloc ?_ ?_ _) | (with_reducible refine Below.setCell ?_ ?_ _) | (with_reducible refine Below.drew ?_) | (with_reducible refine below_drewN ?_ _) | (with_reducible refine Below.trans ?_ (Below.mono (by assumption) ?_)) | (with_reducible exact Nat.le_refl _) | (simp; done) | omega | (simp at *; omega)))⟩
                          case measure => simp [intOf]; omega
                    · have hk2 : k = l11.length := by omega
                      subst hk2
                      clear K Kr
                      go_wp2_with fail
                      go_meet
                      exact hb
              case rest => as_aux_lemma =>
                rename World => wc
                replace K := K.step hcut
                clear hcut
                go_upto_if 265 with (fail)
                go_cut [4] from 307 to 307 (fun _ wx => Below wc.heap.size wc wx)
                case first => as_aux_lemma =>
                  cases o5 with
                  | false =>
                    go_wp2_with fail
                    go_meet
                    exact Below.refl _ _
                  | true =>
                    obtain ⟨F1, F2, F3, F4, F5, F6, F7, F8, F9, F10⟩ := HF3.out rfl
                    replace F1 := Lib.hid F1
                    replace F2 := Lib.hid F2
                    replace F3 := Lib.hid F3
                    replace F4 := Lib.hid F4
                    replace F5 := Lib.hid F5
                    replace F6 := Lib.hid F6
                    replace F7 := Lib.hid F7
                    replace K := K.add (below_kept (Below.refl wc.heap.size wc) (Nat.le_refl _))
                    have m34 : IntKind.i64.wrap (R3 + R4) = R3 + R4 := IntWalk.i64_in _ (by omega)
                    obtain ⟨q00, q01, q02⟩ := whole3 (K.out.2.2.2.2.2.2.2.2.2.2.2.2.2.2.2.2.1).1
                    obtain ⟨q10, q11, q12⟩ := whole3 (K.out.2.2.2.2.2.2.2.2.2.2.2.2.2.2.2.2.2.1).1
                    go_wp2_with fail
                    clear q00 q01 q02
                    clear q10 q11 q12
                    refine (cut_call R5 C5 A5 c5 l5 0 R3 wc hn5 (K.out.2.2.2.2.2.2.2.2.2.2.2.2.2.2.2.2.1).2 hk5 (wf_few 0 (by omega) (by omega)) R3 C3 l3 F2.out F3.out (Int.sub_zero R3) F6.out).mono ?_; rintro e w40 ⟨A20, c20, rfl, o, nn, bb⟩
                    replace K := K.step bb
                    clear nn bb
                    go_upto_region 32 with (fail)
                    obtain ⟨w41, hv, X, bb, hz⟩ := one_box w40 [.int .i64 R3, .int .i64 C3, .slice A20 l3.length c20] 25
                    rewrite [hv]
                    have kb := box_kept (o.rd) X bb
                    generalize w40.heap.size = gupper at kb ⊢
                    replace K := (K.step bb).add kb
                    clear hv X bb hz kb
                    clear o
                    obtain ⟨q00, q01, q02⟩ := whole3 (K.out.2.2.2.2.2.2.2.2.2.2.2.2.2.2.2.2.2.1).1
                    obtain ⟨q10, q11, q12⟩ := whole3 (K.out.2.2.2.2.2.2.2.2.2.2.2.2.2.2.2.2.2.2.1).1
                    obtain ⟨q20, q21, q22⟩ := whole3 (K.out.2.2.2.2.2.2.2.2.2.2.2.2.2.2.2.2.2.2.2.1).1
                    go_wp2_with fail
                    clear q00 q01 q02
                    clear q10 q11 q12
                    clear q20 q21 q22
                    refine (cut_call R5 C5 A5 c5 l5 R3 (R3 + R4) w41 hn5 (K.out.2.2.2.2.2.2.2.2.2.2.2.2.2.2.2.2.2.1).2 hk5 (wf_few R3 (by omega) (by omega)) R4 C4 l4 F4.out F5.out (by omega) (F6.out.trans F7.out)).mono ?_; rintro e w42 ⟨A21, c21, rfl, o, nn, bb⟩
                    replace K := K.step bb
                    clear nn bb
                    go_upto_region 33 with (fail)
                    obtain ⟨w43, hv, X, bb, hz⟩ := one_box w42 [.int .i64 R4, .int .i64 C4, .slice A21 l4.length c21] 25
                    rewrite [hv]
                    have kb := box_kept (o.rd) X bb
                    generalize w42.heap.size = glower at kb ⊢
                    replace K := (K.step bb).add kb
                    clear hv X bb hz kb
                    clear o
                    obtain ⟨q00, q01, q02⟩ := whole3 (K.out.2.1).1
                    obtain ⟨q10, q11, q12⟩ := whole3 (K.out.2.2.2.2.2.2.2.2.2.2.2.2.2.2.2.2.2.2.2.1).1
                    go_wp2_with fail
                    clear q00 q01 q02
                    clear q10 q11 q12
                    refine (qBoard_same R3 C3 A20 c20 l3 A3 k3 w43 (by omega) (K.out.2.1).2 (K.out.2.2.2.2.2.2.2.2.2.2.2.2.2.2.2.2.2.2.2.1).2).mono ?_; rintro e w44 ⟨rfl, bb⟩
                    replace K := K.step bb
                    clear bb
                    obtain ⟨q00, q01, q02⟩ := whole3 (K.out.1).1
                    obtain ⟨q10, q11, q12⟩ := whole3 (K.out.2.2.2.2.2.2.2.2.2.2.2.2.2.2.2.2.2.2.2.2.1).1
                    go_wp2_with fail
                    clear q00 q01 q02
                    clear q10 q11 q12
                    refine (qBoard_same R4 C4 A21 c21 l4 A4 k4 w44 (by omega) (K.out.1).2 (K.out.2.2.2.2.2.2.2.2.2.2.2.2.2.2.2.2.2.2.2.2.1).2).mono ?_; rintro e w45 ⟨rfl, bb⟩
                    replace K := K.step bb
                    clear bb
                    obtain ⟨q00, q01, q02⟩ := whole3 (K.out.2.2.2.2.2.2.2.2.2.2.2.2.2.2.2.2.2.2.1).1
                    go_wp2_with fail
                    clear q00 q01 q02
                    refine (isboard_call R5 C5 A5 c5 l5 w45 hn5 (K.out.2.2.2.2.2.2.2.2.2.2.2.2.2.2.2.2.2.2.1).2 F1.out).mono ?_; rintro e w46 ⟨rfl, bb⟩
                    replace K := K.step bb
                    clear bb
                    go_wp2_with fail
                    go_meet
                    exact K.out.2.2.1
                case rest => as_aux_lemma =>
                  rename World => wd
                  replace K := K.step hcut
                  clear hcut
                  go_upto_if 308 with (fail)
                  go_cut [4] from 374 to 374 (fun _ wx => Below wd.heap.size wd wx)
                  case first => as_aux_lemma =>
                    cases o9 with
                    | false =>
                      go_wp2_with fail
                      go_meet
                      exact Below.refl _ _
                    | true =>
                      obtain ⟨r, c, c', rfl, rfl, rfl, e9, hr10, hcc, hl7, hl8, hl9, hat⟩ := HF7.out rfl
                      clear HF7
                      subst e9
                      replace hl7 := Lib.hid hl7
                      replace hl8 := Lib.hid hl8
                      replace hl9 := Lib.hid hl9
                      replace hat := Lib.hid hat
                      obtain ⟨s, hs⟩ : ∃ s, c + c' = s := ⟨_, rfl⟩
                      rewrite [hs] at K hat hl9 hcc
                      replace hs := Lib.hid hs
                      go_wp2_with fail
                      go_loopw [50] (fun z wr => ∃ i : Nat, z = .int .i64 i ∧ i ≤ r ∧ Below wd.heap.size wd wr) (fun z _ => r - (intOf z).toNat)
                      case atStart => exact ⟨0, rfl, Nat.zero_le _, Below.refl _ _⟩
                      case round => as_aux_lemma =>
                        obtain ⟨i, rfl, hi, hb⟩ := hrel
                        have Kr := K.step hb
                        obtain ⟨q00, q01, q02⟩ := whole3 (Kr.out.2.2.2.2.2.2.2.2.2.2.2.2.1).1
                        by_cases hir : i < r
                        · go_wp2_with fail
                          clear q00 q01 q02
                          go_loopw [51] (fun z wr => ∃ j : Nat, z = .int .i64 j ∧ j ≤ s ∧ Below wd.heap.size wd wr) (fun z _ => s - (intOf z).toNat)
                          case atStart => exact ⟨0, rfl, Nat.zero_le _, hb⟩
                          case round => as_aux_lemma =>
                            clear Kr
                            obtain ⟨j, rfl, hj, hb2⟩ := hrel
                            have Kr := K.step hb2
                            obtain ⟨d0, d1, d2⟩ := whole3 (Kr.out.2.2.2.2.2.2.2.2.2.2.2.2.1).1
                            obtain ⟨e0, e1, e2⟩ := whole3 (Kr.out.2.2.2.2.2.2.2.2.2.2.2.2.2.1).1
                            have mcc : IntKind.i64.wrap ((c : Int) + (c' : Int)) = (s : Int) := by
                              have h1 := hs.out
                              rw [show (c : Int) + (c' : Int) = (s : Int) by omega]
                              exact IntWalk.i64_in _ (by omega)
                            by_cases hjs : j < s
                            · obtain ⟨p9, hp9⟩ : ∃ p, i * s = p := ⟨_, rfl⟩
                              obtain ⟨n9, hn9'⟩ : ∃ n, p9 + j = n := ⟨_, rfl⟩
                              have h9lt : n9 < l9.length := by rw [hl9.out, ← hn9', ← hp9]; exact idx_lt hir hjs
                              have hp9b : p9 ≤ 90 := by rw [← hp9]; exact mul_few (by omega) hcc
                              have m1 : IntKind.i64.wrap ((i : Int) * (s : Int)) = (p9 : Int) := by
                                rw [show (i : Int) * (s : Int) = (p9 : Int) by rw [← hp9]; push_cast; rfl]
                                exact IntWalk.i64_in _ (by omega)
                              have m2 : IntKind.i64.wrap ((p9 : Int) + (j : Int)) = (n9 : Int) := by
                                rw [show (p9 : Int) + (j : Int) = (n9 : Int) by omega]
                                exact IntWalk.i64_in _ (by omega)
                              obtain ⟨b9, o9', ea9, hb9, c90, c91⟩ := cells_at (Kr.out.2.2.2.2.2.2.2.2.2.2.1).2 h9lt
                              obtain ⟨f0, f1, f2⟩ := whole3 (Kr.out.2.2.2.2.2.2.2.2.2.2.1).1
                              rewrite [ea9] at f2
                              have hz9 : (0 : Int) ≤ (n9 : Int) := Int.natCast_nonneg _
                              have hy9 : (n9 : Int) < (l9.length : Int) := by omega
                              have hat1 := hat.out i j hir hjs
                              rewrite [hp9, hn9', List.getElem?_eq_getElem h9lt] at hat1
                              have HAT := Lib.hid hat1
                              have HN9 := Lib.hid hn9'
                              have HP9 := Lib.hid hp9
                              clear hat1 hn9' hp9 ea9
                              generalize l9[n9] = q9 at *
                              clear h9lt
                              obtain ⟨x, y⟩ := q9
                              go_upto_region 43 with (fail)
                              obtain ⟨v, hv, X, bb, hz⟩ := one_box wr [.int .i64 x, .int .i64 y] 27
                              rewrite [hv]
                              clear d0 d1 d2 e0 e1 e2 c90 c91 f0 f1 f2 hb9 hv hz m1 m2 mcc
                              have Kv := Kr.step bb
                              have hb3 : Below wd.heap.size wd v := hb2.trans (bb.mono hb2.size)
                              clear Kr bb
                              generalize wr.heap.size = gown at *
                              have x0' : v.cell? ⟨gown, 0, none⟩ = some (.int .i64 x) := (X.cell 0).trans rfl
                              have x1' : v.cell? ⟨gown, 1, none⟩ = some (.int .i64 y) := (X.cell 1).trans rfl
                              obtain ⟨d0, d1, d2⟩ := whole3 (Kv.out.2.2.2.2.2.2.2.2.2.2.2.2.1).1
                              obtain ⟨e0, e1, e2⟩ := whole3 (Kv.out.2.2.2.2.2.2.2.2.2.2.2.2.2.1).1
                              by_cases hjc : j < c
                              · have HAT2 := HAT.out
                                rewrite [if_pos hjc] at HAT2
                                obtain ⟨p7, hp7⟩ : ∃ p, i * c = p := ⟨_, rfl⟩
                                obtain ⟨n7, hn7⟩ : ∃ n, p7 + j = n := ⟨_, rfl⟩
                                have h7lt : n7 < l7.length := by rw [hl7.out, ← hn7, ← hp7]; exact idx_lt hir hjc
                                have hp7b : p7 ≤ 90 := by rw [← hp7]; exact mul_few (by omega) (by have := hs.out; omega)
                                have m1 : IntKind.i64.wrap ((i : Int) * (c : Int)) = (p7 : Int) := by
                                  rw [show (i : Int) * (c : Int) = (p7 : Int) by rw [← hp7]; push_cast; rfl]
                                  exact IntWalk.i64_in _ (by omega)
                                have m2 : IntKind.i64.wrap ((p7 : Int) + (j : Int)) = (n7 : Int) := by
                                  rw [show (p7 : Int) + (j : Int) = (n7 : Int) by omega]
                                  exact IntWalk.i64_in _ (by omega)
                                rewrite [hp7, hn7, List.getElem?_eq_getElem h7lt] at HAT2
                                obtain ⟨b7, o7, ea7, hb7, c70, c71⟩ := cells_at (Kv.out.2.2.2.2.2.2.2.2.2.2.2.2.1).2 h7lt
                                rewrite [ea7] at d2
                                rewrite [← Option.some.inj HAT2] at c70 c71
                                have hz7 : (0 : Int) ≤ (n7 : Int) := Int.natCast_nonneg _
                                have hy7 : (n7 : Int) < (l7.length : Int) := by omega
                                have hg1 : (j : Int) < (c : Int) := by omega
                                have hg2 : decide ((j : Int) < (c : Int)) = true := decide_eq_true hg1
                                have hg3 : decide ((c : Int) ≤ (j : Int)) = false := decide_eq_false (by omega)
                                have hg4 : decide (j < c) = true := decide_eq_true (by omega)
                                have hg5 : decide (c ≤ j) = false := decide_eq_false (by omega)
                                clear HAT2 ea7 h7lt hp7 hn7 Kv HAT HN9 HP9
                                go_quiet (fail)
                                go_wp2
                                go_roundw
                                case rel => exact ⟨j + 1, by go_num, by omega, by (repeat' (first | (with_reducible exact Below.refl _ _) | (with_reducible assumption) | (with_reducible refine Below.alloc ?_ ?_ _) | (with_reducible refine Below.setCell ?_ ?_ _) | (with_reducible refine Below.drew ?_) | (with_reducible refine below_drewN ?_ _) | (with_reducible refine Below.trans ?_ (Below.mono (by assumption) ?_)) | (with_reducible exact Nat.le_refl _) | (simp; done) | omega | (simp at *; omega)))⟩
                                case measure => simp [intOf]; omega
                              · have HAT2 := HAT.out
                                rewrite [if_neg hjc] at HAT2
                                obtain ⟨p7, hp7⟩ : ∃ p, i * c' = p := ⟨_, rfl⟩
                                obtain ⟨n7, hn7⟩ : ∃ n, p7 + (j - c) = n := ⟨_, rfl⟩
                                have hjc2 : j - c < c' := by have := hs.out; omega
                                have h7lt : n7 < l8.length := by rw [hl8.out, ← hn7, ← hp7]; exact idx_lt hir hjc2
                                have hp7b : p7 ≤ 90 := by rw [← hp7]; exact mul_few (by omega) (by have := hs.out; omega)
                                have m1 : IntKind.i64.wrap ((i : Int) * (c' : Int)) = (p7 : Int) := by
                                  rw [show (i : Int) * (c' : Int) = (p7 : Int) by rw [← hp7]; push_cast; rfl]
                                  exact IntWalk.i64_in _ (by omega)
                                have m2 : IntKind.i64.wrap ((p7 : Int) + (j : Int)) = (p7 : Int) + (j : Int) := IntWalk.i64_in _ (by omega)
                                have m3 : IntKind.i64.wrap ((p7 : Int) + (j : Int) - (c : Int)) = (n7 : Int) := by
                                  rw [show (p7 : Int) + (j : Int) - (c : Int) = (n7 : Int) by omega]
                                  exact IntWalk.i64_in _ (by omega)
                                rewrite [hp7, hn7, List.getElem?_eq_getElem h7lt] at HAT2
                                obtain ⟨b7, o7, ea7, hb7, c70, c71⟩ := cells_at (Kv.out.2.2.2.2.2.2.2.2.2.2.2.2.2.1).2 h7lt
                                rewrite [ea7] at e2
                                rewrite [← Option.some.inj HAT2] at c70 c71
                                have hz7 : (0 : Int) ≤ (n7 : Int) := Int.natCast_nonneg _
                                have hy7 : (n7 : Int) < (l8.length : Int) := by omega
                                have hg1 : (c : Int) ≤ (j : Int) := by omega
                                have hg2 : decide ((j : Int) < (c : Int)) = false := decide_eq_false (by omega)
                                have hg3 : decide ((c : Int) ≤ (j : Int)) = true := decide_eq_true hg1
                                have hg4 : decide (j < c) = false := decide_eq_false (by omega)
                                have hg5 : decide (c ≤ j) = true := decide_eq_true (by omega)
                                clear HAT2 ea7 h7lt hp7 hn7 Kv HAT HN9 HP9
                                go_quiet (fail)
                                go_wp2
                                go_roundw
                                case rel => exact ⟨j + 1, by go_num, by omega, by (repeat' (first | (with_reducible exact Below.refl _ _) | (with_reducible assumption) | (with_reducible refine Below.alloc ?_ ?_ _) | (with_reducible refine Below.setCell ?_ ?_ _) | (with_reducible refine Below.drew ?_) | (with_reducible refine below_drewN ?_ _) | (with_reducible refine Below.trans ?_ (Below.mono (by assumption) ?_)) | (with_reducible exact Nat.le_refl _) | (simp; done) | omega | (simp at *; omega)))⟩
                                case measure => simp [intOf]; omega
                            · have hjs2 : j = s := by omega
                              subst hjs2
                              go_wp2
                              go_roundw
                              case rel => exact ⟨i + 1, by go_num, by omega, hb2⟩
                              case measure => simp [intOf]; omega
                        · have hir2 : i = r := by omega
                          subst hir2
                          go_wp2_with fail
                          go_meet
                          exact hb
                  case rest => as_aux_lemma =>
                    rename World => we
                    replace K := K.step hcut
                    clear hcut
                    go_upto_region 45 with (fail)
                    go_cut [390] from 390 to 390 (fun z wx => z = .bool false ∧ Below we.heap.size we wx)
                    case first => as_aux_lemma =>
                      cases o16 with
                      | false =>
                        go_wp2_with fail
                        go_meet
                        exact ⟨rfl, Below.refl _ _⟩
                      | true =>
                        obtain ⟨e1, e2⟩ := HF15.out rfl
                        clear HF15 HE15
                        subst e1 e2
                        have m1 : IntKind.i64.wrap (tt - ff) = tt - ff := IntWalk.i64_in _ (by omega)
                        obtain ⟨q00, q01, q02⟩ := whole3 (K.out.2.2.2.2.2.1).1
                        obtain ⟨q10, q11, q12⟩ := whole3 (K.out.2.2.2.1).1
                        go_wp2_with fail
                        go_meet
                        exact ⟨rfl, Below.refl _ _⟩
                    case rest => as_aux_lemma =>
                      rename World => wf
                      obtain ⟨rfl, hcut⟩ := hcut
                      replace K := K.step hcut
                      clear hcut
                      cases o1 with
                      | false =>
                        have hB := K.out.2.2.2.2.2.2.2.2.2.2.2.2.2.2.2.2.2.2.2.2.2.2.2.2
                        go_wp2
                        go_returns
                        exact ⟨rfl, hB⟩
                      | true =>
                        obtain ⟨G1, G2, G3, G4, G5, G6, G7, G8, G9⟩ := HF0.out rfl
                        replace G1 := Lib.hid G1
                        replace G2 := Lib.hid G2
                        replace G3 := Lib.hid G3
                        replace G4 := Lib.hid G4
                        replace G5 := Lib.hid G5
                        obtain ⟨d0, hd0⟩ : ∃ d, diffB R0 C0 l0 R1 C1 l1 = d := ⟨_, rfl⟩
                        have G5b := G5.out
                        rewrite [hd0] at G5b
                        replace hd0 := Lib.hid hd0
                        have hd1 : d0.length ≤ 1 := by rcases G5b with h | h <;> rw [h] <;> simp
                        replace G5b := Lib.hid G5b
                        obtain ⟨q00, q01, q02⟩ := whole3 (K.out.2.2.2.2.2.2.2.2.2.2.2.2.2.2.2.2.2.2.2.1).1
                        go_wp2_with fail
                        clear q00 q01 q02
                        refine (cellat_call R1 C1 A1 c1 l1 i0 j0 wf hn1 (K.out.2.2.2.2.2.2.2.2.2.2.2.2.2.2.2.2.2.2.2.1).2 x0 y0 G1.out G2.out G3.out).mono ?_; rintro e w40 ⟨rfl, bb⟩
                        replace K := K.step bb
                        clear bb
                        go_upto_region 50 with (fail)
                        obtain ⟨w41, hv, X, bb, hz⟩ := one_box w40 [.int .i64 x0, .int .i64 y0] 27
                        rewrite [hv]
                        have kb := Whole.kept X
                        generalize w40.heap.size = gthere at kb ⊢
                        replace K := (K.step bb).add kb
                        clear hv X bb hz kb
                        obtain ⟨q00, q01, q02⟩ := whole3 (K.out.2.2.2.2.2.2.2.2.2.2.2.2.2.2.2.2.2.2.2.2.2.1).1
                        obtain ⟨q10, q11, q12⟩ := whole3 (K.out.2.2.2.2.2.2.2.2.2.2.2.2.2.2.2.2.2.2.2.2.1).1
                        go_wp2_with fail
                        clear q00 q01 q02
                        clear q10 q11 q12
                        refine (differ_callI R0 C0 A0 k0 l0 R1 C1 A1 c1 l1 w41 hn0 (K.out.2.2.2.2.2.2.2.2.2.2.2.2.2.2.2.2.2.2.2.2.2.1).2 hn1 (K.out.2.2.2.2.2.2.2.2.2.2.2.2.2.2.2.2.2.2.2.2.1).2 d0 G4.out hd0.out).mono ?_; rintro e w42 ⟨A22, c22, rfl, o, nn, bb⟩
                        replace K := (K.step bb).add (rd_kept o.rd)
                        clear nn bb o
                        obtain ⟨q00, q01, q02⟩ := whole3 (K.out.2.2.2.2.2.2.2.2.2.2.2.2.2.2.2.2.2.2.2.2.2.2.1).1
                        obtain ⟨q10, q11, q12⟩ := whole3 (K.out.2.2.2.2.2.2.2.2.2.2.2.2.2.2.2.2.2.2.2.2.1).1
                        go_wp2_with fail
                        clear q00 q01 q02
                        clear q10 q11 q12
                        refine (differ_callS R0 C0 A0 k0 l0 R1 C1 A2 c2 l1 w42 hn0 (K.out.2.2.2.2.2.2.2.2.2.2.2.2.2.2.2.2.2.2.2.2.2.2.1).2 hn1 (K.out.2.2.2.2.2.2.2.2.2.2.2.2.2.2.2.2.2.2.2.2.1).2 d0 G4.out hd0.out).mono ?_; rintro e w43 ⟨A23, c23, rfl, o, nn, bb⟩
                        replace K := (K.step bb).add (rd_kept o.rd)
                        clear nn bb o
                        have qx0 : w43.cell? ⟨gx, 0, none⟩ = some (.int .i64 x0) := ((K.out.2.2.2.2.2.2.2.2.2.2.2.2.2.2.2.2.2.2.2.2.2.2.2.2.1).cell 0).trans rfl
                        have qx1 : w43.cell? ⟨gx, 1, none⟩ = some (.int .i64 y0) := ((K.out.2.2.2.2.2.2.2.2.2.2.2.2.2.2.2.2.2.2.2.2.2.2.2.2.1).cell 1).trans rfl
                        have qthere0 : w43.cell? ⟨gthere, 0, none⟩ = some (.int .i64 x0) := ((K.out.2.2.1).cell 0).trans rfl
                        have qthere1 : w43.cell? ⟨gthere, 1, none⟩ = some (.int .i64 y0) := ((K.out.2.2.1).cell 1).trans rfl
                        go_wp2_with fail
                        clear qx0 qx1 qthere0 qthere1
                        refine (qInts_same A22 A23 c22 c23 d0 w43 (by omega) (K.out.2.1) (K.out.1)).mono ?_; rintro e w44 ⟨rfl, bb⟩
                        replace K := K.step bb
                        clear bb
                        go_upto_region 54 with (fail)
                        have hB := K.out.2.2.2.2.2.2.2.2.2.2.2.2.2.2.2.2.2.2.2.2.2.2.2.2.2.2.2
                        rcases G5b.out with hE | hE
                        · have hl0 : d0.length = 0 := by rw [hE]; rfl
                          rewrite [hl0]
                          clear hl0 hd1 hE
                          go_quiet (fail)
                          go_wp2
                          go_returns
                          exact ⟨rfl, below_drewN hB _⟩
                        · have hl0 : d0.length = 1 := by rw [hE]; rfl
                          rewrite [hl0]
                          obtain ⟨pp, hpp⟩ : ∃ p, i0 * C0 = p := ⟨_, rfl⟩
                          rewrite [hpp] at hE G6 G7
                          have m1 : IntKind.i64.wrap (i0 * C0) = pp := by rw [hpp]; exact IntWalk.i64_in _ (by omega)
                          obtain ⟨v, hv⟩ : ∃ v, pp + j0 = v := ⟨_, rfl⟩
                          rewrite [hv] at hE
                          have m2 : IntKind.i64.wrap (pp + j0) = v := by rw [hv]; exact IntWalk.i64_in _ (by omega)
                          obtain ⟨b9, o9', e9, hb9, h9⟩ := first_at (K.out.1) hE
                          obtain ⟨q0, q1, q2⟩ := whole3 (K.out.2.2.2.2.2.2.2.2.2.2.2.2.2.2.2.2.2.2.2.2.2.2.2.1).1
                          rewrite [e9]
                          clear K hl0 hd1 hE hpp hv G6 G7 G8 G9
                          go_quiet (fail)
                          go_wp2
                          go_returns
                          exact ⟨rfl, below_drewN hB _⟩
theorem FnBoardParts_walk : Walk Try.prog 3 Try.f3 := by
  intro H enc W base args ds ps hA hval
  rw [Try.params3] at hA hval
  obtain ⟨v0, vs0, d0, ds0, p0, q0, hv0, hd0, hp0, h0, r0⟩ := trodAll_cons hA
  obtain ⟨v1, vs1, d1, ds1, p1, q1, hv1, hd1, hp1, h1, r1⟩ := trodAll_cons r0
  obtain ⟨e1, e2, e3⟩ := trodAll_nil r1
  have ha : args = #[v0, v1] := by
    apply Array.toList_inj.1
    rw [hv0, hv1, e1]
  subst ha
  obtain ⟨A0, cap0, l0, rfl, hb0⟩ := open_bytesB (hval 0 22 v0 rfl rfl) h0
  obtain ⟨A1, cap1, l1, rfl, hb1⟩ := open_bytesB (hval 1 22 v1 rfl rfl) h1
  exact FnBoardParts_walk0 A0 cap0 l0 A1 cap1 l1 W hb0 hb1
set_option maxRecDepth 100000 in
theorem FnBoardParts_holds : Rows.FnBoardPartsSaid :=
  OpenClaim.holds_of_wide 3 Try.f3 rfl rfl rfl rfl rfl rfl rfl ⟨rfl, rfl, rfl, rfl, rfl⟩ rfl rfl rfl rfl rfl (by kernel_rfl) Try.func3 (by kernel_rfl)
    (of_decide_eq_true (by kernel_rfl)) (by unfold Func.isWrapper; first | (rw [if_pos (by decide +kernel)]; kernel_rfl) | (rw [if_neg (by decide +kernel)]; exact ⟨rfl, rfl⟩))
    (fun os started H enc _ => lifted (C := Try.checked) (s := Rows.fnBoardPartsSpec) started own (by kernel_rfl) Try.func3 ⟨#[], #[.slice none 0 0, .slice none 0 0], []⟩ 8 (by kernel_rfl) (by kernel_rfl) (by kernel_rfl) (by kernel_rfl) (by kernel_rfl)
      laidOut (by kernel_rfl) rfl rfl Try.underlying4 (fun ds h => by
        match ds, h with
        | [d0, d1], _ => exact ⟨rfl, rfl, rfl⟩) FnBoardParts_walk)
end Go.Proofs.Ytpfjbecpfdgnpaa
