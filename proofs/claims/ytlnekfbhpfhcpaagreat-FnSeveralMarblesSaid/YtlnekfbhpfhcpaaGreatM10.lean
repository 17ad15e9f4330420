/- Contracts of the program and of the model, walked, part 10 of 10. No condition but what each says. -/
import Derived.Test.YtlnekfbhpfhcpaaGreatM8
import Derived.Test.YtlnekfbhpfhcpaaGreatM5
import Derived.Test.YtlnekfbhpfhcpaaGreatM3
import Derived.Test.YtlnekfbhpfhcpaaGreatM4
import Derived.Test.YtlnekfbhpfhcpaaGreatM6
import Derived.Test.YtlnekfbhpfhcpaaGreatM9
import Derived.Deep.RegionHeld3
import Derived.Deep.DeepCutAuto
import Derived.Test.YtlnekfbhpfhcpaaGreatM2
import Derived.Deep.CutRange
namespace Go.Proofs.YtlnekfbhpfhcpaaGreat
open Go.ChangeShapes Go.WideShapes Go.ChangeAt Go.RowKit Go.Joins Go.Deep
set_option linter.unusedSimpArgs false
set_option linter.unusedVariables false
set_option maxRecDepth 100000
set_option maxHeartbeats 1000000
theorem rdss_kept {w : World} {A : Option Addr} {L : List (List Int)} (h : RdSS w A L) : Kept w (fun v => RdSS v A L) := fun w' b => h.keep b
theorem fallof_callI (R C : Int) (A : Option Addr) (cap : Nat) (l : List (Int × Int)) (j : Int) (w : World) (hn : l.length ≤ 1048576) (hr : Rd w w.heap.size A (flat l)) (x y z : Int) (h1 : okF R C l j = true) (h2 : (marO R C l j).e = x) (h3 : (marO R C l j).row = y) (h4 : (marO R C l j).col = z) :
    Calls Tryz.prog 23 #[.agg #[.int .i64 R, .int .i64 C, .slice A l.length cap], .int .i64 j] w fun e w' => e = .returned (.tuple #[.agg #[.int .i64 x, .int .i64 y, .int .i64 z], .bool true]) ∧ Below w.heap.size w w' := by
  have h := impl_FallOf R C A cap l j w hn hr
  rw [h1, h2, h3, h4] at h
  exact h
theorem fallof_callS (R C : Int) (A : Option Addr) (cap : Nat) (l : List (Int × Int)) (j : Int) (w : World) (hn : l.length ≤ 1048576) (hr : Rd w w.heap.size A (flat l)) (x y z : Int) (h1 : okF R C l j = true) (h2 : (marO R C l j).e = x) (h3 : (marO R C l j).row = y) (h4 : (marO R C l j).col = z) :
    Calls Tryz.prog 24 #[.agg #[.int .i64 R, .int .i64 C, .slice A l.length cap], .int .i64 j] w fun e w' => e = .returned (.tuple #[.agg #[.int .i64 x, .int .i64 y, .int .i64 z], .bool true]) ∧ Below w.heap.size w w' := by
  have h := spec_FallOf R C A cap l j w hn hr
  rw [h1, h2, h3, h4] at h
  exact h
theorem wayof_callI (R C : Int) (A : Option Addr) (cap : Nat) (l : List (Int × Int)) (j : Int) (w : World) (hn : l.length ≤ 1048576) (hr : Rd w w.heap.size A (flat l)) (L : List (List Int)) (h1 : okF R C l j = true) (h2 : wayM R C l j = L) :
    Calls Tryz.prog 25 #[.agg #[.int .i64 R, .int .i64 C, .slice A l.length cap], .int .i64 j] w fun e w' => ∃ A' cp, e = .returned (.tuple #[.slice A' L.length cp, .bool true]) ∧ RdSS w' A' L ∧ Below w.heap.size w w' := by
  have h := impl_WayOf R C A cap l j w hn hr
  rw [h1, h2] at h
  exact h.mono fun e w' ⟨A', cp, As, cs, h1, h2, h3⟩ => ⟨A', cp, h1, h2.rd, h3⟩
theorem wayof_callS (R C : Int) (A : Option Addr) (cap : Nat) (l : List (Int × Int)) (j : Int) (w : World) (hn : l.length ≤ 1048576) (hr : Rd w w.heap.size A (flat l)) (L : List (List Int)) (h1 : okF R C l j = true) (h2 : wayM R C l j = L) :
    Calls Tryz.prog 26 #[.agg #[.int .i64 R, .int .i64 C, .slice A l.length cap], .int .i64 j] w fun e w' => ∃ A' cp, e = .returned (.tuple #[.slice A' L.length cp, .bool true]) ∧ RdSS w' A' L ∧ Below w.heap.size w w' := by
  have h := spec_WayOfP R C A cap l j w hn hr
  rw [h1, h2] at h
  exact h
theorem row_two {w : World} {A : Option Addr} {L : List (List Int)} {i : Nat} {a b : Int} (h : RdSS w A L) (hi : i < L.length) (e : L.getD i [] = [a, b]) :
    ∃ b0 o0 b1 o1 c1, A = some ⟨b0, o0, none⟩ ∧ w.cell? ⟨b0, o0 + i, none⟩ = some (.slice (some ⟨b1, o1, none⟩) 2 c1) ∧ w.cell? ⟨b1, o1, none⟩ = some (.int .i64 a) ∧ w.cell? ⟨b1, o1 + 1, none⟩ = some (.int .i64 b) := by
  obtain ⟨As, cs, h1, h2⟩ := h
  obtain ⟨b0, o0, rfl, _, hc⟩ := h1 (by rw [rowsV_len]; omega)
  have h3 := h2 i hi
  have h4 := hc _ _ (rowsV_at (As := As) (cs := cs) hi)
  rw [e] at h3 h4
  obtain ⟨b1, o1, e1, _, hd⟩ := h3 (by simp [ints])
  rw [e1] at h4
  exact ⟨b0, o0, b1, o1, cs i, rfl, h4, hd 0 _ rfl, hd 1 _ rfl⟩
theorem falls_few (R C : Int) (l : List (Int × Int)) (cs : List Int) (hl : l.length ≤ 90) : (fallsO R C l cs).1.length ≤ 60 ∧ (fallsO R C l cs).2.length ≤ 90 := by
  rcases Bool.eq_false_or_eq_true (okC' R C l cs) with h | h
  · obtain ⟨h1, h2, h3⟩ := falls_len h
    omega
  · unfold fallsO
    rw [h]
    simp
theorem room_row {w : World} {base : Nat} {e : TypeId} {size n cap : Nat} {A : Option Addr} {xs : List Value} (h : w.ownsRow base e size (.slice A n cap) n xs) : n ≤ cap := by
  rcases h.2 with ⟨h1, h2⟩ | ⟨g, cap', cur, h1, h2, h3, h4, h5, h6, h7⟩
  · cases h1; exact Nat.le_refl _
  · cases h1; exact h4
/-- Falls with room for all of them, and a board. -/
def PostFR (w : World) (R C : Int) (l : List (Int × Int)) (fs : List (Int × Int × Int)) (ok : Bool) (e : Ending) (w' : World) : Prop :=
  ∃ A cp A5 c5, e = .returned (.tuple #[.slice A fs.length cp, .agg #[.int .i64 R, .int .i64 C, .slice A5 l.length c5], .bool ok]) ∧ fs.length ≤ cp ∧ Own w' A 50 (flatF fs) ∧ New w A ∧ Own w' A5 86 (flat l) ∧ New w A5 ∧ Below w.heap.size w w'
theorem spec_FallsOfR (R C : Int) (A : Option Addr) (cap : Nat) (l : List (Int × Int)) (A' : Option Addr) (cap' : Nat) (cs : List Int) (w : World) (hn : l.length ≤ 1048576) (hr : Rd w w.heap.size A (flat l)) (hn' : cs.length ≤ 1048576) (hrc : Rd w w.heap.size A' (ints cs)) :
    Calls Tryz.prog 6 #[.agg #[.int .i64 R, .int .i64 C, .slice A l.length cap], .slice A' cs.length cap'] w (PostFR w (selI (okC' R C l cs) R) (selI (okC' R C l cs) C) (fallsO R C l cs).2 (fallsO R C l cs).1 (okC' R C l cs)) :=
  (spec_FallsOf R C A cap l A' cap' cs w hn hn' hr hrc).mono fun e w' ⟨v, A5, c5, h1, h2, h3, h4, h5⟩ => by
    obtain ⟨A6, c6, rfl⟩ := slice_of_row h2
    exact ⟨A6, c6, A5, c5, h1, room_row h2, (own_of_row h2).1, (own_of_row h2).2, h3, h4, h5⟩
theorem fallsof_callS (R C : Int) (A : Option Addr) (cap : Nat) (l : List (Int × Int)) (A' : Option Addr) (cap' : Nat) (cs : List Int) (n : Nat) (w : World) (hcn : cs.length = n) (hn : l.length ≤ 1048576) (hr : Rd w w.heap.size A (flat l)) (hn' : cs.length ≤ 1048576) (hrc : Rd w w.heap.size A' (ints cs)) (M : List (Int × Int)) (F : List (Int × Int × Int)) (h1 : okC' R C l cs = true) (h2 : (fallsO R C l cs).2 = M) (h3 : (fallsO R C l cs).1 = F) :
    Calls Tryz.prog 6 #[.agg #[.int .i64 R, .int .i64 C, .slice A l.length cap], .slice A' n cap'] w (PostFR w R C M F true) := by
  subst hcn
  have h := spec_FallsOfR R C A cap l A' cap' cs w hn hr hn' hrc
  rw [h1, h2, h3] at h
  exact h
theorem fallsof_callI (R C : Int) (A : Option Addr) (cap : Nat) (l : List (Int × Int)) (A' : Option Addr) (cap' : Nat) (cs : List Int) (n : Nat) (w : World) (hcn : cs.length = n) (hn : l.length ≤ 1048576) (hr : Rd w w.heap.size A (flat l)) (hn' : cs.length ≤ 1048576) (hrc : Rd w w.heap.size A' (ints cs)) (M : List (Int × Int)) (F : List (Int × Int × Int)) (h1 : okC' R C l cs = true) (h2 : (fallsO R C l cs).2 = M) (h3 : (fallsO R C l cs).1 = F) :
    Calls Tryz.prog 5 #[.agg #[.int .i64 R, .int .i64 C, .slice A l.length cap], .slice A' n cap'] w (PostF w R C M F true) := by
  subst hcn
  have h := impl_FallsOf R C A cap l A' cap' cs w hn hr hn' hrc
  rw [h1, h2, h3] at h
  exact h
/-- The first part of a list. -/
theorem rd_ints_take {w : World} {n : Nat} {A : Option Addr} {l : List Int} (k : Nat) (h : Rd w n A (ints l)) : Rd w n A (ints (l.take k)) := fun hx => by
  have hl : 0 < (l.take k).length := by rw [ints_length] at hx; exact hx
  rw [List.length_take] at hl
  obtain ⟨b, o, e, hb, hc⟩ := h (by rw [ints_length]; omega)
  refine ⟨b, o, e, hb, fun j u hu => hc j u ?_⟩
  have hj := (List.getElem?_eq_some_iff.1 hu).1
  rw [ints_length, List.length_take] at hj
  rw [← hu]
  unfold ints
  rw [List.getElem?_map, List.getElem?_map, List.getElem?_take_of_lt (by omega)]
theorem rd_flatF_take {w : World} {n : Nat} {A : Option Addr} {l : List (Int × Int × Int)} (k : Nat) (h : Rd w n A (flatF l)) : Rd w n A (flatF (l.take k)) := fun hx => by
  have hl : 0 < (l.take k).length := by rw [flatF_len] at hx; omega
  rw [List.length_take] at hl
  obtain ⟨b, o, e, hb, hc⟩ := h (by rw [flatF_len]; omega)
  refine ⟨b, o, e, hb, fun j u hu => hc j u ?_⟩
  have e2 : flatF l = flatF (l.take k) ++ flatF (l.drop k) := by rw [← flatF_app, List.take_append_drop]
  rw [e2, List.getElem?_append_left (List.getElem?_eq_some_iff.1 hu).1]
  exact hu
/-- The rest of a list, from a place that lies in it. -/
theorem rd_ints_drop {w : World} {n b o : Nat} {l : List Int} (k : Nat) (hb : b < n) (h : Rd w n (some ⟨b, o, none⟩) (ints l)) : Rd w n (some ⟨b, o + k, none⟩) (ints (l.drop k)) := fun hx => by
  rw [ints_length, List.length_drop] at hx
  obtain ⟨b', o', e, hb', hc⟩ := h (by rw [ints_length]; omega)
  cases e
  refine ⟨b, o + k, rfl, hb, fun j u hu => ?_⟩
  rw [Nat.add_assoc]
  refine hc (k + j) u ?_
  rw [← hu]
  unfold ints
  rw [List.getElem?_map, List.getElem?_map, List.getElem?_drop]
theorem flatF_split (l : List (Int × Int × Int)) (k : Nat) (hk : k ≤ l.length) (j : Nat) : (flatF l)[k * 3 + j]? = (flatF (l.drop k))[j]? := by
  have e2 : flatF l = flatF (l.take k) ++ flatF (l.drop k) := by rw [← flatF_app, List.take_append_drop]
  have e3 : (flatF (l.take k)).length = k * 3 := by rw [flatF_len, List.length_take]; omega
  rw [e2, List.getElem?_append_right (by omega), e3, Nat.add_sub_cancel_left]
theorem rd_flatF_drop {w : World} {n b o : Nat} {l : List (Int × Int × Int)} (k : Nat) (hk : k ≤ l.length) (hb : b < n) (h : Rd w n (some ⟨b, o, none⟩) (flatF l)) : Rd w n (some ⟨b, o + k * 3, none⟩) (flatF (l.drop k)) := fun hx => by
  rw [flatF_len, List.length_drop] at hx
  obtain ⟨b', o', e, hb', hc⟩ := h (by rw [flatF_len]; omega)
  cases e
  refine ⟨b, o + k * 3, rfl, hb, fun j u hu => ?_⟩
  rw [Nat.add_assoc]
  exact hc (k * 3 + j) u (by rw [flatF_split l k hk]; exact hu)
theorem addr_add0 (A : Option Addr) (s : Nat) : A.map (·.add (0 * s)) = A := by
  cases A with
  | none => rfl
  | some a => simp [Addr.add]
theorem sliceI_h (A : Option Addr) (n cap h : Nat) (hc : h ≤ cap) (w : World) :
    (Instr.slice 26 (.slice A n cap) none (some (.int .i64 (h : Int))) none).run Tryz.prog w = .ok (.slice A h cap) w := by
  obtain ⟨i0, hi, hz0, hz1, hz2⟩ := info_parts intInfo
  rw [run_slice_h w 26 A n cap Tryz.underlying26 .i64 (h : Int) (by omega) (by omega)]
  have hs : (sizeOf (Tryz.prog.elem 26)).run Tryz.prog w = .ok 1 w := by rfl
  rw [hs]
  simp only [Result.andThen, sliced, Int.toNat_natCast, Nat.sub_zero, addr_add0, ite_self]
theorem sliceI_l (A : Option Addr) (n cap l : Nat) (hc : l ≤ n) (w : World) :
    (Instr.slice 26 (.slice A n cap) (some (.int .i64 (l : Int))) none none).run Tryz.prog w = .ok (.slice (if cap = l then A else A.map (·.add (l * 1))) (n - l) (cap - l)) w := by
  rw [run_slice_l w 26 A n cap Tryz.underlying26 .i64 (l : Int) (by omega) (by omega)]
  have hs : (sizeOf (Tryz.prog.elem 26)).run Tryz.prog w = .ok 1 w := by rfl
  rw [hs]
  simp only [Result.andThen, sliced, Int.toNat_natCast]
theorem sliceF_h (A : Option Addr) (n cap h : Nat) (hc : h ≤ cap) (w : World) :
    (Instr.slice 29 (.slice A n cap) none (some (.int .i64 (h : Int))) none).run Tryz.prog w = .ok (.slice A h cap) w := by
  rw [run_slice_h w 29 A n cap Tryz.underlying29 .i64 (h : Int) (by omega) (by omega)]
  have hs : (sizeOf (Tryz.prog.elem 29)).run Tryz.prog w = .ok 3 w := by rfl
  rw [hs]
  simp only [Result.andThen, sliced, Int.toNat_natCast, Nat.sub_zero, addr_add0, ite_self]
theorem sliceF_l (A : Option Addr) (n cap l : Nat) (hc : l ≤ n) (w : World) :
    (Instr.slice 29 (.slice A n cap) (some (.int .i64 (l : Int))) none none).run Tryz.prog w = .ok (.slice (if cap = l then A else A.map (·.add (l * 3))) (n - l) (cap - l)) w := by
  rw [run_slice_l w 29 A n cap Tryz.underlying29 .i64 (l : Int) (by omega) (by omega)]
  have hs : (sizeOf (Tryz.prog.elem 29)).run Tryz.prog w = .ok 3 w := by rfl
  rw [hs]
  simp only [Result.andThen, sliced, Int.toNat_natCast]
theorem addr_addN (b o k : Nat) : (⟨b, o, none⟩ : Addr).add k = ⟨b, o + k, none⟩ := by
  unfold Addr.add
  split <;> simp_all
theorem rd_dropD {w : World} {n cap h : Nat} {A : Option Addr} {l : List Int} (hc : l.length ≤ cap) (r : Rd w n A (ints l)) : Rd w n (if cap = h then A else A.map (·.add (h * 1))) (ints (l.drop h)) := fun hx => by
  have hx' := hx
  rw [ints_length, List.length_drop] at hx'
  obtain ⟨b, o, e, hb, hcc⟩ := r (by rw [ints_length]; omega)
  subst e
  rw [if_neg (by omega)]
  have h2 := rd_ints_drop h hb r hx
  rw [Option.map_some, addr_addN, Nat.mul_one]
  exact h2
theorem rd_dropF {w : World} {n cap h : Nat} {A : Option Addr} {l : List (Int × Int × Int)} (hc : l.length ≤ cap) (hh : h ≤ l.length) (r : Rd w n A (flatF l)) : Rd w n (if cap = h then A else A.map (·.add (h * 3))) (flatF (l.drop h)) := fun hx => by
  have hx' := hx
  rw [flatF_len, List.length_drop] at hx'
  obtain ⟨b, o, e, hb, hcc⟩ := r (by rw [flatF_len]; omega)
  subst e
  rw [if_neg (by omega)]
  have h2 := rd_flatF_drop h hh hb r hx
  rw [Option.map_some, addr_addN]
  exact h2
/-- Falls, the board after them in a box, and that they are. -/
def CutF (w : World) (h : Nat) (G : List (Int × Int × Int)) (R C : Int) (M : List (Int × Int)) (z1 z2 z3 : Value) (wx : World) : Prop :=
  ∃ (A : Option Addr) (k : Nat) (A5 : Option Addr) (k5 g : Nat), z1 = .slice A h k ∧ z2 = .pointer (some ⟨g, 0, none⟩) ∧ z3 = .bool true ∧ Rd wx wx.heap.size A (flatF G) ∧ BD wx g R C A5 k5 M ∧ Below w.heap.size w wx
theorem cutF_new {w w7 : World} {h k k5 : Nat} {G : List (Int × Int × Int)} {R C : Int} {M : List (Int × Int)} {A A5 : Option Addr} (hG : G.length = h) (oF : Own w7 A 50 (flatF G)) (oC : Own w7 A5 86 (flat M)) (b : Below w.heap.size w w7) :
    CutF w h G R C M (.slice A G.length k) (.pointer (some ⟨w7.heap.size, 0, none⟩)) (.bool true) (w7.alloc (.cells #[.int .i64 R, .int .i64 C, .slice A5 M.length k5] 25)) := by
  subst hG
  have hb : Below w7.heap.size w7 (w7.alloc (.cells #[.int .i64 R, .int .i64 C, .slice A5 M.length k5] 25)) := (Below.refl _ _).alloc (Nat.le_refl _) _
  exact ⟨A, k, A5, k5, w7.heap.size, rfl, rfl, rfl, (oF.keep hb).rd, ⟨heap_alloc_new w7 _, (oC.keep hb).rd⟩, b.trans (hb.mono b.size)⟩
theorem cutF_set {w w7 : World} {h k k5 g : Nat} {G : List (Int × Int × Int)} {R C : Int} {M : List (Int × Int)} {A A5 : Option Addr} (hG : G.length = h) (oF : Own w7 A 50 (flatF G)) (oC : Own w7 A5 86 (flat M)) (b : Below w.heap.size w w7) (zb : Whole w7 g 25 [.int .i64 0, .int .i64 0, .slice none 0 0]) (hg : w.heap.size ≤ g) :
    CutF w h G R C M (.slice A G.length k) (.pointer (some ⟨g, 0, none⟩)) (.bool true) (((w7.setCell ⟨g, 0, none⟩ (.int .i64 R)).setCell ⟨g, 1, none⟩ (.int .i64 C)).setCell ⟨g, 2, none⟩ (.slice A5 M.length k5)) := by
  subst hG
  exact ⟨A, k, A5, k5, g, rfl, rfl, rfl, (own_three oF zb (by decide)).rd, ⟨wh_threeB zb, (own_threeB oC zb).rd⟩, ((b.setCell hg _).setCell hg _).setCell hg _⟩
end Go.Proofs.YtlnekfbhpfhcpaaGreat
namespace Go.Proofs.YtlnekfbhpfhcpaaGreat
open Go.ChangeShapes Go.WideShapes Go.ChangeAt Go.RowKit Go.Joins Go.Deep
set_option linter.unusedSimpArgs false
set_option linter.unusedVariables false
set_option maxRecDepth 100000
set_option maxHeartbeats 4000000
theorem wrap_few (n : Int) (h1 : -100 ≤ n) (h2 : n ≤ 100) : IntKind.i64.wrap n = n := IntWalk.i64_in _ (by omega)
theorem l1Most_h (a b : Int) (w : World) : Calls Tryz.prog 55 #[.int .i64 a, .int .i64 b] w fun e w' => ∃ m : Int, e = .returned (.int .i64 m) ∧ Hid (m = (if b < a then a else b)) ∧ w = w' :=
  (l1Most_d a b w).mono fun e w' ⟨m, h1, h2, h3⟩ => ⟨m, h1, Lib.hid h2, h3⟩
def zB : List Value := [.int .i64 0, .int .i64 0, .slice none 0 0]
/-- What stands while the second board is drawn. -/
def SInv (w wx : World) (gB : Nat) (R C : Int) (B : Option Addr) (k : Nat) (m : List (Int × Int)) (n : Nat) : Prop :=
  Cr wx (w.heap.size + 1 + 1) n ∧ Whole wx w.heap.size 25 zB ∧ Whole wx (w.heap.size + 1) 25 zB ∧ Whole wx gB 25 [.int .i64 R, .int .i64 C, .slice B m.length k] ∧ OwnAt wx B 86 (flat m) ∧ Below w.heap.size w wx
theorem SInv.step {w wx w' : World} {gB : Nat} {R C : Int} {B : Option Addr} {k n n' : Nat} {m : List (Int × Int)} (h : SInv w wx gB R C B k m n) (hg : wx.grownBy w' (some (w.heap.size + 1 + 1))) (hc : Cr w' (w.heap.size + 1 + 1) n') (hgB : w.heap.size + 1 + 1 < gB) (hB : ∀ a, B = some a → w.heap.size + 1 + 1 < a.block) : SInv w w' gB R C B k m n' := by
  obtain ⟨h1, h2, h3, h4, h5, h6⟩ := h
  exact ⟨hc, h2.grownC hg (by omega), h3.grownC hg (by omega), h4.grownC hg (by omega), h5.grownC hg (fun a ha => by have := hB a ha; omega), grown_old h6 hg (by omega)⟩
theorem Own.at_ {w : World} {A : Option Addr} {t : TypeId} {xs : List Value} (h : Own w A t xs) : OwnAt w A t xs := fun hx => by
  obtain ⟨g, rest, e, hw⟩ := h hx
  exact ⟨g, [], rest, e, hw⟩
theorem at_six {w : World} {A : Option Addr} {t : TypeId} {xs : List Value} {g : Nat} {u0 u1 u2 u3 u4 u5 : Value} (h : OwnAt w A t xs) (hn : ∀ a, A = some a → g + 1 < a.block) :
    OwnAt ((((((w.setCell ⟨g, 0, none⟩ u0).setCell ⟨g, 1, none⟩ u1).setCell ⟨g, 2, none⟩ u2).setCell ⟨g + 1, 0, none⟩ u3).setCell ⟨g + 1, 1, none⟩ u4).setCell ⟨g + 1, 2, none⟩ u5) A t xs :=
  have n0 : ∀ a, A = some a → g ≠ a.block := fun a ha => by have := hn a ha; omega
  have n1 : ∀ a, A = some a → g + 1 ≠ a.block := fun a ha => by have := hn a ha; omega
  (((((h.set_far ⟨g, 0, none⟩ u0 n0).set_far ⟨g, 1, none⟩ u1 n0).set_far ⟨g, 2, none⟩ u2 n0).set_far ⟨g + 1, 0, none⟩ u3 n1).set_far ⟨g + 1, 1, none⟩ u4 n1).set_far ⟨g + 1, 2, none⟩ u5 n1
theorem below_six {w v : World} {u0 u1 u2 u3 u4 u5 : Value} (h : Below w.heap.size w v) :
    Below w.heap.size w ((((((v.setCell ⟨w.heap.size, 0, none⟩ u0).setCell ⟨w.heap.size, 1, none⟩ u1).setCell ⟨w.heap.size, 2, none⟩ u2).setCell ⟨w.heap.size + 1, 0, none⟩ u3).setCell ⟨w.heap.size + 1, 1, none⟩ u4).setCell ⟨w.heap.size + 1, 2, none⟩ u5) :=
  (((((h.setCell (p := ⟨w.heap.size, 0, none⟩) (Nat.le_refl _) u0).setCell (p := ⟨w.heap.size, 1, none⟩) (Nat.le_refl _) u1).setCell (p := ⟨w.heap.size, 2, none⟩) (Nat.le_refl _) u2).setCell (p := ⟨w.heap.size + 1, 0, none⟩) (Nat.le_succ _) u3).setCell (p := ⟨w.heap.size + 1, 1, none⟩) (Nat.le_succ _) u4).setCell (p := ⟨w.heap.size + 1, 2, none⟩) (Nat.le_succ _) u5
/-- Two boards that a draw has handed out. -/
def TwoOut (w : World) (e : Ending) (w' : World) : Prop :=
  ∃ (R C : Int) (B : Option Addr) (k : Nat) (m : List (Int × Int)) (R' C' : Int) (B' : Option Addr) (k' : Nat) (m' : List (Int × Int)), e = .returned (.tuple #[.agg #[.int .i64 R, .int .i64 C, .slice B m.length k], .agg #[.int .i64 R', .int .i64 C', .slice B' m'.length k']]) ∧ BoardOut w w' R C B k m ∧ BoardOut w w' R' C' B' k' m' ∧ Below w.heap.size w w'
end Go.Proofs.YtlnekfbhpfhcpaaGreat
namespace Go.Proofs.YtlnekfbhpfhcpaaGreat
open Go.ChangeShapes Go.WideShapes Go.ChangeAt Go.RowKit Go.Joins Go.Deep
set_option linter.unusedSimpArgs false
set_option linter.unusedVariables false
set_option maxRecDepth 100000
set_option maxHeartbeats 2000000
def lenV2 : Value → Nat
  | .slice _ n _ => n
  | _ => 0
theorem grown_low {w w1 w2 : World} {p B : Nat} (h : w.grownBy w1 (some p)) (hb : Below B w1 w2) (hB : w.heap.size ≤ B) : w.grownBy w2 (some p) :=
  ⟨hb.os.trans h.os, hb.tape.trans h.tape, hb.output.trans h.output, Nat.le_trans h.size hb.size, fun k hk hne => (hb.block k (by omega)).trans (h.block k hk hne)⟩
theorem IRow.cur {w w' : World} {base p : Nat} {v : Value} {l : List Int} (h : IRow w base v l) (hg : w.grownBy w' (some p)) (hp : p < base) : IRow w' base v l := by
  refine h.grown hg ?_
  cases hv : v.ownBlock with
  | none => exact .inl rfl
  | some k =>
    have h' : w.ownsRow base 3 1 v l.length (ints l) := h
    have := (h'.lt k hv).1
    exact .inr (fun e => by cases e; omega)
theorem Cr.row {w w' : World} {p n base : Nat} {v : Value} {l : List Int} (h : Cr w p n) (hr : IRow w base v l) (hg : w.grownBy w' v.ownBlock) (hp : p < base) : Cr w' p n :=
  h.keep hg (fun j hj => by
    have h' : w.ownsRow base 3 1 v l.length (ints l) := hr
    have := (h'.lt j hj).1
    omega)
/-- What stands while columns are drawn. -/
def EI (w wr : World) (p n : Nat) (R C : Int) (A : Option Addr) (k cap : Nat) : Prop :=
  Cr wr p n ∧ Whole wr w.heap.size 25 [.int .i64 R, .int .i64 C, .slice A k cap] ∧ w.grownBy wr (some p)
theorem EI.step {w wr w' : World} {p n n' : Nat} {R C : Int} {A : Option Addr} {k cap : Nat} (h : EI w wr p n R C A k cap) (hg : wr.grownBy w' (some p)) (hc : Cr w' p n') (hp : p < w.heap.size) : EI w w' p n' R C A k cap :=
  ⟨hc, h.2.1.grownC hg (by omega), h.2.2.trans hg⟩
theorem EI.more {w wr : World} {p n n' : Nat} {R C : Int} {A : Option Addr} {k cap : Nat} (h : EI w wr p n R C A k cap) (hn : n ≤ n') : EI w wr p n' R C A k cap := ⟨h.1.mono hn, h.2⟩
theorem EI.push {w wr w6 : World} {p n : Nat} {R C : Int} {A : Option Addr} {k cap : Nat} {v : Value} {l : List Int} {x : Int} (h : EI w wr p n R C A k cap) (hp : p < w.heap.size) (hr : IRow wr (w.heap.size + 1) v l) (hg : (wr.alloc (.cells #[.int .i64 x] 3)).grownBy w6 v.ownBlock) (hb : Below (w.heap.size + 1) wr w6) : EI w w6 p n R C A k cap :=
  ⟨(h.1.keep (below_grown (row := none) ((Below.refl _ _).alloc (Nat.le_refl _) _)) (by simp)).row (hr.alloc _) hg (by omega), h.2.1.below hb (by omega), grown_low h.2.2 hb (by omega)⟩
/-- Columns that a draw has handed out. -/
def EntDraw (w : World) (p n : Nat) (e : Ending) (w' : World) : Prop :=
  ∃ (A' : Option Addr) (cap' : Nat) (cs : List Int), e = .returned (.slice A' cs.length cap') ∧ cs.length ≤ 61 ∧ cs.length ≤ cap' ∧ Own w' A' 3 (ints cs) ∧ New w A' ∧ Cr w' p n ∧ w.grownBy w' (some p)
theorem irow_room {w : World} {base cap n : Nat} {A : Option Addr} {l : List Int} (h : IRow w base (.slice A n cap) l) : n ≤ cap := by
  have h' : w.ownsRow base 3 1 (.slice A n cap) l.length (ints l) := h
  rcases h'.2 with ⟨h1, h2⟩ | ⟨g, cap', cur, h1, h2, h3, h4, h5, h6, h7⟩
  · cases h1; exact Nat.le_refl _
  · cases h1; exact h4
theorem among_two (p n : Nat) (a b : Int) (w : World) (h : Cr (w.alloc (.cells #[.int .i64 a, .int .i64 b] 3)) p n) (hn : n ≤ 1000000) (hp : p < w.heap.size) :
    Calls Tryz.prog 52 #[.pointer (some ⟨p, 0, none⟩), .slice (some ⟨w.heap.size, 0, none⟩) 2 2] (w.alloc (.cells #[.int .i64 a, .int .i64 b] 3)) fun e w' => ∃ x : Int, e = .returned (.int .i64 x) ∧ Cr w' p (n + 2) ∧ (w.alloc (.cells #[.int .i64 a, .int .i64 b] 3)).grownBy w' (some p) := by
  have hw : Whole (w.alloc (.cells #[.int .i64 a, .int .i64 b] 3)) w.heap.size 3 (ints [a, b]) := heap_alloc_new w _
  exact (among_any p n (some ⟨w.heap.size, 0, none⟩) 2 [a, b] _ h hn (by simp) (by simp) hw.rdI (fun x hx => by cases hx; show w.heap.size ≠ p; omega)).mono fun e w' ⟨x, h1, _, h3, h4⟩ => ⟨x, h1, h3, h4⟩
theorem among_old (p n : Nat) (a b : Int) (g : Nat) (w : World) (h : Cr w p n) (hn : n ≤ 1000000) (hw : Whole w g 3 (ints [a, b])) (hp : p < g) :
    Calls Tryz.prog 52 #[.pointer (some ⟨p, 0, none⟩), .slice (some ⟨g, 0, none⟩) 2 2] w fun e w' => ∃ x : Int, e = .returned (.int .i64 x) ∧ Cr w' p (n + 2) ∧ w.grownBy w' (some p) := by
  exact (among_any p n (some ⟨g, 0, none⟩) 2 [a, b] _ h hn (by simp) (by simp) hw.rdI (fun x hx => by cases hx; show g ≠ p; omega)).mono fun e w' ⟨x, h1, _, h3, h4⟩ => ⟨x, h1, h3, h4⟩
theorem lit_kept {w w4 : World} {p : Nat} {a b : Int} (g : (w.alloc (.cells #[.int .i64 a, .int .i64 b] 3)).grownBy w4 (some p)) (hp : p < w.heap.size) : Whole w4 w.heap.size 3 (ints [a, b]) := by
  have hw : Whole (w.alloc (.cells #[.int .i64 a, .int .i64 b] 3)) w.heap.size 3 (ints [a, b]) := heap_alloc_new w _
  exact hw.grownC g (by omega)
theorem lit_keptD {w w4 : World} {p : Nat} {a b : Int} (g : (w.alloc (.cells #[.int .i64 a, .int .i64 b] 3)).drew.grownBy w4 (some p)) (hp : p < w.heap.size) : Whole w4 w.heap.size 3 (ints [a, b]) := by
  have hw : Whole (w.alloc (.cells #[.int .i64 a, .int .i64 b] 3)) w.heap.size 3 (ints [a, b]) := heap_alloc_new w _
  exact (hw.new ((Below.refl _ _).drew)).grownC g (by omega)
theorem ints_set_app {cs : List Int} {rest : List Value} {k : Nat} {x : Int} (hk : k < cs.length) : (ints cs ++ rest).set k (.int .i64 x) = ints (cs.set k x) ++ rest := by
  rw [List.set_append_left _ _ (by rw [ints_length]; exact hk)]
  congr 1
  unfold ints
  rw [List.map_set]
theorem ent_end {w wd w6 : World} {p n nb m k g5 c5 : Nat} {x : Int} {cs : List Int} {rest5 : List Value} (hn : m = cs.length) (hc : cs.length ≤ 61) (hro : m ≤ c5) (hk : k < cs.length) (W : Whole w6 g5 3 (ints cs ++ rest5)) (hg : w.heap.size < g5) (c : Cr w6 p nb) (hnb : nb ≤ n) (hp : p < g5) (g : w.grownBy wd (some p)) (g' : wd.grownBy w6 (some p)) :
    EntDraw w p n (.returned (.slice (some ⟨g5, 0, none⟩) m c5)) (w6.setCell ⟨g5, k, none⟩ (.int .i64 x)) := by
  subst hn
  refine ⟨some ⟨g5, 0, none⟩, c5, cs.set k x, by rw [List.length_set], by rw [List.length_set]; exact hc, by rw [List.length_set]; exact hro, fun _ => ⟨g5, rest5, rfl, ?_⟩, fun a ha => by cases ha; show w.heap.size ≤ g5; omega, (c.mono hnb).set_far hp, grown_set_new (g.trans g') (by omega)⟩
  have h := W.set k (.int .i64 x)
  rw [ints_set_app hk] at h
  exact h
theorem entries_any (p n : Nat) (R C : Int) (A : Option Addr) (k cap : Nat) (w : World) (h : Cr w p n) (hn : n ≤ 800000) (hC : 0 ≤ C ∧ C ≤ 20) :
    Calls Tryz.prog 31 #[.pointer (some ⟨p, 0, none⟩), .agg #[.int .i64 R, .int .i64 C, .slice A k cap]] w (EntDraw w p (n + 200)) := by
  have hp := h.lt
  obtain ⟨v0, hv0, XB, B0, hz0⟩ := one_box w [.int .i64 R, .int .i64 C, .slice A k cap] 25
  have HV := Lib.hid hv0
  clear hv0
  have E : EI w v0 p n R C A k cap := ⟨h.keep (below_grown (row := none) B0) (by simp), XB, below_grown B0⟩
  clear XB B0 hz0 h
  go_enter Tryz.func31, Tryz.ntmps31
  go_wp2_with fail
  rewrite [show w.alloc (.cells ([.int .i64 R, .int .i64 C, .slice A k cap] : List Value).toArray 25) = v0 from HV.out]
  clear HV
  refine (pick_any p n 9 _ E.1 (by omega) (by omega) (by omega)).mono ?_; rintro e w1 ⟨x, rfl, x0, x1, c1, g1⟩
  replace E := E.step g1 c1 hp
  clear c1 g1
  obtain ⟨x, rfl⟩ := Int.eq_ofNat_of_zero_le x0
  go_wp2_with fail
  refine (one_any p _ 20 _ E.1 (by omega) (by omega) (by omega)).mono ?_; rintro e w2 ⟨bb, rfl, c2, g2⟩
  replace E := E.step g2 c2 hp
  clear c2 g2
  go_upto_if 12 with (fail)
  go_cut [6] (fun z wx => ∃ m : Nat, z = .int .i64 m ∧ m ≤ 61 ∧ EI w wx p (n + 6) R C A k cap)
  case first =>
    cases bb with
    | false =>
      go_wp2_with fail
      go_meet
      exact ⟨x, rfl, by omega, E.more (by omega)⟩
    | true =>
      go_wp2_with fail
      refine (pick_any p _ 2 _ E.1 (by omega) (by omega) (by omega)).mono ?_; rintro e w3 ⟨y, rfl, y0, y1, c3, g3⟩
      replace E := E.step g3 c3 hp
      clear c3 g3
      obtain ⟨y, rfl⟩ := Int.eq_ofNat_of_zero_le y0
      have m1 : IntKind.i64.wrap (60 + (y : Int)) = ((60 + y : Nat) : Int) := by
        rw [show (60 : Int) + (y : Int) = ((60 + y : Nat) : Int) by push_cast; rfl]
        exact IntWalk.i64_in _ (by omega)
      go_wp2_with fail
      go_meet
      exact ⟨60 + y, rfl, by omega, E.more (by omega)⟩
  case rest =>
    rename World => wc
    obtain ⟨m, rfl, hm, E⟩ := hcut
    go_wp2_with fail
    refine (one_any p _ 3 _ E.1 (by omega) (by omega) (by omega)).mono ?_; rintro e w3 ⟨few, rfl, c3, g3⟩
    replace E := E.step g3 c3 hp
    clear c3 g3
    obtain ⟨b0, b1, b2⟩ := whole3 E.2.1
    go_wp2_with fail
    refine (l1Most_h _ _ _).mono ?_; rintro e w4 ⟨mm, rfl, hmm, rfl⟩
    have hmm' : 1 ≤ mm ∧ mm ≤ 20 := by
      have h1 := hmm.out
      split at h1 <;> omega
    clear hmm
    go_wp2_with fail
    refine (pick_any p _ mm _ E.1 (by omega) (by omega) (by omega)).mono ?_; rintro e w5 ⟨y, rfl, y0, y1, c5, g5⟩
    clear b0 b1 b2
    replace E := E.step g5 c5 hp
    clear c5 g5 hmm'
    have E2 : EI w w5 p (n + 12 + 2 * ([] : List Int).length) R C A k cap := E.more (by simp)
    clear E
    go_wp2
    go_loopw [5] (fun z wr => ∃ cs : List Int, cs.length ≤ m ∧ IRow wr (w.heap.size + 1) z cs ∧ EI w wr p (n + 12 + 2 * cs.length) R C A k cap) (fun z _ => m - lenV2 z)
    case atStart => exact ⟨[], Nat.zero_le _, IRow.nil, E2⟩
    case round =>
      clear E2
      obtain ⟨cs, hcs, hrow, E⟩ := hrel
      obtain ⟨A5, c5, rfl, o5, n5⟩ := hrow.shape
      have hs : w.heap.size + 1 ≤ wr.heap.size := E.2.1.lt
      by_cases hlt : cs.length < m
      · cases few with
        | true =>
          clear o5 n5
          go_wp2_with (first | (at_builtin; refine wpList_push (x0 := y) hrow (by omega) hs rfl _ _ rfl rfl rfl ?_; intro v6 w6 hrow6 hg6 hb6 hl6; have E6 := E.push hp hrow hg6 hb6; clear hg6 hb6 hl6) | fail)
          obtain ⟨A6, c6, rfl, -, -⟩ := hrow6.shape
          go_roundw
          case rel => exact ⟨cs ++ [y], by simp; omega, hrow6, E6.more (by simp; omega)⟩
          case measure => simp [lenV2]; omega
        | false =>
          clear o5 n5
          obtain ⟨b0, b1, b2⟩ := whole3 E.2.1
          go_wp2_with fail
          refine (l1Most_h _ _ _).mono ?_; rintro e w7 ⟨mm, rfl, hmm, rfl⟩
          have hmm' : 1 ≤ mm ∧ mm ≤ 20 := by
            have h1 := hmm.out
            split at h1 <;> omega
          clear hmm
          go_wp2_with fail
          refine (pick_any p _ mm _ E.1 (by omega) (by omega) (by omega)).mono ?_; rintro e w8 ⟨y', rfl, y0', y1', c8, g8⟩
          clear b0 b1 b2
          replace hrow := hrow.cur g8 (by omega)
          replace E := E.step g8 c8 hp
          have hs8 : w.heap.size + 1 ≤ w8.heap.size := E.2.1.lt
          clear c8 g8 hmm'
          go_wp2_with (first | (at_builtin; refine wpList_push (x0 := y') hrow (by omega) hs8 rfl _ _ rfl rfl rfl ?_; intro v6 w6 hrow6 hg6 hb6 hl6; have E6 := E.push hp hrow hg6 hb6; clear hg6 hb6 hl6) | fail)
          obtain ⟨A6, c6, rfl, -, -⟩ := hrow6.shape
          go_roundw
          case rel => exact ⟨cs ++ [y'], by simp; omega, hrow6, E6.more (by simp; omega)⟩
          case measure => simp [lenV2]; omega
      · have hme : m = cs.length := by omega
        subst hme
        have hcl : cs.length ≤ 61 := hm
        clear o5 n5
        replace E := E.more (show n + 12 + 2 * cs.length ≤ n + 134 by omega)
        go_upto_region 11 with (fail)
        go_cut [45] (fun z wx => ∃ q : Bool, z = .bool q ∧ (q = true → 0 < cs.length) ∧ IRow wx (w.heap.size + 1) (.slice A5 cs.length c5) cs ∧ EI w wx p (n + 136) R C A k cap)
        case first =>
          by_cases h0 : 0 < cs.length
          · have h0i : (0 : Int) < (cs.length : Int) := by omega
            go_wp2_with fail
            refine (one_any p _ 24 _ E.1 (by omega) (by omega) (by omega)).mono ?_; rintro e w8 ⟨q, rfl, c8, g8⟩
            replace hrow := hrow.cur g8 (by omega)
            replace E := E.step g8 c8 hp
            clear c8 g8
            go_wp2_with fail
            go_meet
            exact ⟨q, rfl, fun _ => h0, hrow, E.more (by omega)⟩
          · have h0i : ¬ (0 : Int) < (cs.length : Int) := by omega
            go_wp2_with fail
            go_meet
            exact ⟨false, rfl, (fun h => by cases h), hrow, E.more (by omega)⟩
        case rest =>
          clear hrow E
          rename World => wd
          obtain ⟨q, rfl, hq, hrow, E⟩ := hcut
          have hsd := E.2.1.lt
          cases q with
          | false =>
            clear hq
            obtain ⟨A6, c6, e6, o6, n6⟩ := hrow.shape
            cases e6
            have hro := irow_room hrow
            go_wp2
            go_returns
            exact ⟨A5, c5, cs, rfl, hcl, hro, o6, fun a ha => by have := n6 a ha; omega, E.1.mono (by omega), E.2.2⟩
          | true =>
            have h0 := hq rfl
            clear hq
            obtain ⟨A6, c6, e6, o6, n6⟩ := hrow.shape
            cases e6
            obtain ⟨g5, rest5, rfl, X5⟩ := o6 (by rw [ints_length]; exact h0)
            have hg5 : w.heap.size + 1 ≤ g5 := n6 _ rfl
            have b1 : wd.cell? ⟨w.heap.size, 1, none⟩ = some (.int .i64 C) := (E.2.1.cell 1).trans rfl
            have hgne : g5 ≠ w.heap.size := by omega
            have hro := irow_room hrow
            clear hrow o6 n6
            obtain ⟨nb, hnb⟩ : ∃ nb, n + 136 = nb := ⟨_, rfl⟩
            rw [hnb] at E
            have hne2 : w.heap.size ≠ g5 := by omega
            have hpg : p ≠ g5 := by omega
            have hpg' : g5 ≠ p := by omega
            go_upto_region 12 with (fail)
            go_region_held3 (fun w' => w'.cell? ⟨w.heap.size, 1, none⟩ = some (.int .i64 C))
              (first | exact keep_set (((XB6.new (by (repeat' (first | (with_reducible exact Below.refl _ _) | (with_reducible assumption) | (with_reducible refine Below.alloc ?_ ?_ _) | (with_reducible refine Below.setCell ?_ ?_ _) | (with_reducible refine Below.drew ?_) | (with_reducible refine below_drewN ?_ _) | (with_reducible refine Below.trans ?_ (Below.mono (by assumption) ?_)) | go_size)) : Below w6.heap.size w6 _)).cell 1).trans rfl) hgne | exact ((XB6.new (by (repeat' (first | (with_reducible exact Below.refl _ _) | (with_reducible assumption) | (with_reducible refine Below.alloc ?_ ?_ _) | (with_reducible refine Below.setCell ?_ ?_ _) | (with_reducible refine Below.drew ?_) | (with_reducible refine below_drewN ?_ _) | (with_reducible refine Below.trans ?_ (Below.mono (by assumption) ?_)) | go_size)) : Below w6.heap.size w6 _)).cell 1).trans rfl | exact ((XB4.new (by (repeat' (first | (with_reducible exact Below.refl _ _) | (with_reducible assumption) | (with_reducible refine Below.alloc ?_ ?_ _) | (with_reducible refine Below.setCell ?_ ?_ _) | (with_reducible refine Below.drew ?_) | (with_reducible refine below_drewN ?_ _) | (with_reducible refine Below.trans ?_ (Below.mono (by assumption) ?_)) | go_size)) : Below w4.heap.size w4 _)).cell 1).trans rfl | exact ((E.2.1.new (by (repeat' (first | (with_reducible exact Below.refl _ _) | (with_reducible assumption) | (with_reducible refine Below.alloc ?_ ?_ _) | (with_reducible refine Below.setCell ?_ ?_ _) | (with_reducible refine Below.drew ?_) | (with_reducible refine below_drewN ?_ _) | (with_reducible refine Below.trans ?_ (Below.mono (by assumption) ?_)) | go_size)) : Below wd.heap.size wd _)).cell 1).trans rfl | fail)
              ((first | (go_at_call 51; (with_reducible refine (pick_any p nb cs.length _ ?_ (by omega) (by omega) (by omega)).mono ?_); (focus exact E.1.keep (below_grown (row := none) (by (repeat' (first | (with_reducible exact Below.refl _ _) | (with_reducible assumption) | (with_reducible refine Below.alloc ?_ ?_ _) | (with_reducible refine Below.setCell ?_ ?_ _) | (with_reducible refine Below.drew ?_) | (with_reducible refine below_drewN ?_ _) | (with_reducible refine Below.trans ?_ (Below.mono (by assumption) ?_)) | go_size)) : Below wd.heap.size wd _)) (by simp)); rintro e w4 ⟨y, rfl, y0, y1, c4, g4⟩; (obtain ⟨k, rfl⟩ := Int.eq_ofNat_of_zero_le y0); have hk : k < cs.length := (by omega); have hki : (k : Int) < (cs.length : Int) := (by omega); have G4 := (below_grown (row := some p) (by (repeat' (first | (with_reducible exact Below.refl _ _) | (with_reducible assumption) | (with_reducible refine Below.alloc ?_ ?_ _) | (with_reducible refine Below.setCell ?_ ?_ _) | (with_reducible refine Below.drew ?_) | (with_reducible refine below_drewN ?_ _) | (with_reducible refine Below.trans ?_ (Below.mono (by assumption) ?_)) | go_size)) : Below wd.heap.size wd _)).trans g4; have XB4 := E.2.1.grownC G4 (by omega); have WG4 := X5.grownC G4 (by omega); have hp4 := c4.lt; (first | have Z4 := lit_kept g4 (by omega) | have Z4 := lit_keptD g4 (by omega) | skip); clear g4) | (go_at_call 52; (first | ((with_reducible refine (among_two p (nb + 2) (-1) C w4 ?_ (by omega) (by omega)).mono ?_); (focus exact c4.keep (below_grown (row := none) (by (repeat' (first | (with_reducible exact Below.refl _ _) | (with_reducible assumption) | (with_reducible refine Below.alloc ?_ ?_ _) | (with_reducible refine Below.setCell ?_ ?_ _) | (with_reducible refine Below.drew ?_) | (with_reducible refine below_drewN ?_ _) | (with_reducible refine Below.trans ?_ (Below.mono (by assumption) ?_)) | go_size)) : Below w4.heap.size w4 _)) (by simp))) | (with_reducible refine (among_old p (nb + 2) (-1) C wd.heap.size w4 c4 (by omega) Z4 (by omega)).mono ?_) | fail); rintro e w6 ⟨x, rfl, c6, g6'⟩; have G6 := G4.trans ((below_grown (row := some p) (by (repeat' (first | (with_reducible exact Below.refl _ _) | (with_reducible assumption) | (with_reducible refine Below.alloc ?_ ?_ _) | (with_reducible refine Below.setCell ?_ ?_ _) | (with_reducible refine Below.drew ?_) | (with_reducible refine below_drewN ?_ _) | (with_reducible refine Below.trans ?_ (Below.mono (by assumption) ?_)) | go_size)) : Below w4.heap.size w4 _)).trans g6'); have XB6 := E.2.1.grownC G6 (by omega); have WG6 := X5.grownC G6 (by omega); clear g6'; have m0 : w6.cell? ⟨g5, k, none⟩ = some (.int .i64 cs[k]) := (WG6.cell k).trans (cell_left (ints_at cs k hk)); have m2 := WG6.frozen k) | fail))
            all_goals go_wp2
            all_goals go_returns
            all_goals exact ent_end rfl hcl hro hk WG6 (by omega) c6 (by omega) (by omega) E.2.2 G6
end Go.Proofs.YtlnekfbhpfhcpaaGreat
namespace Go.Proofs.YtlnekfbhpfhcpaaGreat
open Go.ChangeShapes Go.WideShapes Go.ChangeAt Go.RowKit Go.Joins Go.Deep
set_option linter.unusedSimpArgs false
set_option linter.unusedVariables false
set_option maxRecDepth 100000
set_option maxHeartbeats 2000000
theorem spec_boOwn_nil (R C : Int) (A : Option Addr) (cap : Nat) (w : World) :
    Calls Tryz.prog 61 #[.agg #[.int .i64 R, .int .i64 C, .slice A 0 cap]] w (PostD w R C []) := by
  obtain ⟨v0, hv0, X0, X1, B0, hz0⟩ := two_boxes w [.int .i64 R, .int .i64 C, .slice A 0 cap] 25 [.int .i64 0, .int .i64 0, .slice none 0 0] 25
  have HV := Lib.hid hv0
  clear hv0
  go_enter Tryz.func61, Tryz.ntmps61
  go_upto_region 1 with (fail)
  rewrite [show (w.alloc (.cells ([.int .i64 R, .int .i64 C, .slice A 0 cap] : List Value).toArray 25)).alloc (.cells ([.int .i64 0, .int .i64 0, .slice none 0 0] : List Value).toArray 25) = v0 from HV.out]
  have hy := X0.lt
  have hz := X1.lt
  have X0k0 : v0.cell? ⟨w.heap.size, 0, none⟩ = some (.int .i64 R) := (X0.cell 0).trans rfl; have X0k1 : v0.cell? ⟨w.heap.size, 1, none⟩ = some (.int .i64 C) := (X0.cell 1).trans rfl; have X0k2 : v0.cell? ⟨w.heap.size, 2, none⟩ = some (.slice A 0 cap) := (X0.cell 2).trans rfl
  have X1k0 : v0.cell? ⟨w.heap.size + 1, 0, none⟩ = some (.int .i64 0) := (X1.cell 0).trans rfl; have X1k1 : v0.cell? ⟨w.heap.size + 1, 1, none⟩ = some (.int .i64 0) := (X1.cell 1).trans rfl; have X1k2 : v0.cell? ⟨w.heap.size + 1, 2, none⟩ = some (.slice none 0 0) := (X1.cell 2).trans rfl
  have X1f0 := X1.frozen 0; have X1f1 := X1.frozen 1; have X1f2 := X1.frozen 2
  cases A with
  | none =>
    go_region
    all_goals go_wp2
    all_goals (refine bodyPost_ret (v := .agg #[.int .i64 R, .int .i64 C, .slice (some ⟨w.heap.size + 2, 0, none⟩) 0 0]) ?_ rfl ?_; (focus (simp [results, Tryz.results61, go_sem, *]; done)))
    all_goals exact PostD.mk (l := []) (fun hx => absurd hx (by simp [flat])) (fun a ha => by cases ha; show w.heap.size ≤ w.heap.size + 2; omega) (by (repeat' (first | (with_reducible exact Below.refl _ _) | (with_reducible assumption) | (with_reducible refine Below.alloc ?_ ?_ _) | (with_reducible refine Below.setCell ?_ ?_ _) | (with_reducible refine Below.drew ?_) | (with_reducible refine below_drewN ?_ _) | (with_reducible refine Below.trans ?_ (Below.mono (by assumption) ?_)) | (with_reducible exact Nat.le_refl _) | (simp; done) | omega | (simp at *; omega))))
  | some a =>
    go_region
    all_goals go_wp2
    all_goals (refine bodyPost_ret (v := .agg #[.int .i64 R, .int .i64 C, .slice (some ⟨w.heap.size + 2, 0, none⟩) 0 0]) ?_ rfl ?_; (focus (simp [results, Tryz.results61, go_sem, *]; done)))
    all_goals exact PostD.mk (l := []) (fun hx => absurd hx (by simp [flat])) (fun a ha => by cases ha; show w.heap.size ≤ w.heap.size + 2; omega) (by (repeat' (first | (with_reducible exact Below.refl _ _) | (with_reducible assumption) | (with_reducible refine Below.alloc ?_ ?_ _) | (with_reducible refine Below.setCell ?_ ?_ _) | (with_reducible refine Below.drew ?_) | (with_reducible refine below_drewN ?_ _) | (with_reducible refine Below.trans ?_ (Below.mono (by assumption) ?_)) | (with_reducible exact Nat.le_refl _) | (simp; done) | omega | (simp at *; omega))))
theorem spec_boOwn_at (R C : Int) (A : Option Addr) (cap : Nat) (l : List (Int × Int)) (w : World) (hn : l.length ≤ 1048576) (hr : Rd w w.heap.size A (flat l)) :
    Calls Tryz.prog 61 #[.agg #[.int .i64 R, .int .i64 C, .slice A l.length cap]] w (PostD w R C l) := by
  rcases Nat.eq_zero_or_pos l.length with h | h
  · obtain rfl : l = [] := List.length_eq_zero_iff.1 h
    exact spec_boOwn_nil R C A cap w
  · obtain ⟨b, o, rfl, hb, hc⟩ := hr (by rw [flat_length]; omega)
    exact spec_boOwn R C b o cap l w h hn (fun _ => ⟨b, o, rfl, hb, hc⟩)
theorem at_drew {w : World} {A : Option Addr} {t : TypeId} {xs : List Value} (h : OwnAt w A t xs) : OwnAt w.drew A t xs := h.new ((Below.refl _ _).drew)
theorem SInv.sets {w wx : World} {gB g5 j j' : Nat} {u u' : Value} {R C : Int} {B : Option Addr} {k n : Nat} {m : List (Int × Int)} (h : SInv w wx gB R C B k m n) (hg : gB < g5) (hgB : w.heap.size + 1 + 1 < gB) (hB : ∀ a, B = some a → a.block < gB) : SInv w ((wx.setCell ⟨g5, j, none⟩ u).setCell ⟨g5, j', none⟩ u') gB R C B k m n := by
  obtain ⟨h1, h2, h3, h4, h5, h6⟩ := h
  have e0 : g5 ≠ w.heap.size := by omega
  have e1 : g5 ≠ w.heap.size + 1 := by omega
  have e2 : g5 ≠ gB := by omega
  have e3 : ∀ a, B = some a → g5 ≠ a.block := fun a ha => by have := hB a ha; omega
  exact ⟨(h1.set_far (by omega)).set_far (by omega), (h2.set_far _ _ e0).set_far _ _ e0, (h3.set_far _ _ e1).set_far _ _ e1, (h4.set_far _ _ e2).set_far _ _ e2, (h5.set_far _ _ e3).set_far _ _ e3, (h6.setCell (by show w.heap.size ≤ g5; omega) _).setCell (by show w.heap.size ≤ g5; omega) _⟩
/-- A board that a draw has handed out; nothing is said of its room. -/
structure BoardOutW (w w' : World) (R C : Int) (A : Option Addr) (l : List (Int × Int)) : Prop where
  rows : 0 ≤ R ∧ R ≤ 11
  cols : 0 ≤ C ∧ C ≤ 10
  few : l.length ≤ 90
  own : OwnAt w' A 86 (flat l)
  new : New w A
/-- Two boards that a draw has handed out. -/
def TwoOutW (w : World) (e : Ending) (w' : World) : Prop :=
  ∃ (R C : Int) (B : Option Addr) (k : Nat) (m : List (Int × Int)) (R' C' : Int) (B' : Option Addr) (k' : Nat) (m' : List (Int × Int)), e = .returned (.tuple #[.agg #[.int .i64 R, .int .i64 C, .slice B m.length k], .agg #[.int .i64 R', .int .i64 C', .slice B' m'.length k']]) ∧ BoardOutW w w' R C B m ∧ BoardOutW w w' R' C' B' m' ∧ Below w.heap.size w w'
end Go.Proofs.YtlnekfbhpfhcpaaGreat
namespace Go.Proofs.YtlnekfbhpfhcpaaGreat
open Go.ChangeShapes Go.WideShapes Go.ChangeAt Go.RowKit Go.Joins Go.Deep
set_option linter.unusedSimpArgs false
set_option linter.unusedVariables false
set_option maxRecDepth 100000
set_option maxHeartbeats 2000000
/-- What stands while a second board is drawn. -/
def TInv (w wx : World) (p gB : Nat) (R C : Int) (B : Option Addr) (k : Nat) (m : List (Int × Int)) (n : Nat) : Prop :=
  Cr wx p n ∧ Whole wx w.heap.size 25 zB ∧ Whole wx (w.heap.size + 1) 25 zB ∧ Whole wx gB 25 [.int .i64 R, .int .i64 C, .slice B m.length k] ∧ OwnAt wx B 86 (flat m) ∧ w.grownBy wx (some p)
theorem TInv.step {w wx w' : World} {p gB : Nat} {R C : Int} {B : Option Addr} {k n n' : Nat} {m : List (Int × Int)} (h : TInv w wx p gB R C B k m n) (hg : wx.grownBy w' (some p)) (hc : Cr w' p n') (hp : p < w.heap.size) (hgB : w.heap.size + 1 < gB) (hB : ∀ a, B = some a → w.heap.size + 1 < a.block) : TInv w w' p gB R C B k m n' := by
  obtain ⟨h1, h2, h3, h4, h5, h6⟩ := h
  exact ⟨hc, h2.grownC hg (by omega), h3.grownC hg (by omega), h4.grownC hg (by omega), h5.grownC hg (fun a ha => by have := hB a ha; omega), h6.trans hg⟩
theorem TInv.sets {w wx : World} {p gB g5 j j' : Nat} {u u' : Value} {R C : Int} {B : Option Addr} {k n : Nat} {m : List (Int × Int)} (h : TInv w wx p gB R C B k m n) (hp : p < w.heap.size) (hg : gB < g5) (hgB : w.heap.size + 1 < gB) (hB : ∀ a, B = some a → a.block < gB) : TInv w ((wx.setCell ⟨g5, j, none⟩ u).setCell ⟨g5, j', none⟩ u') p gB R C B k m n := by
  obtain ⟨h1, h2, h3, h4, h5, h6⟩ := h
  have e0 : g5 ≠ w.heap.size := by omega
  have e1 : g5 ≠ w.heap.size + 1 := by omega
  have e2 : g5 ≠ gB := by omega
  have e3 : ∀ a, B = some a → g5 ≠ a.block := fun a ha => by have := hB a ha; omega
  exact ⟨(h1.set_far (by omega)).set_far (by omega), (h2.set_far _ _ e0).set_far _ _ e0, (h3.set_far _ _ e1).set_far _ _ e1, (h4.set_far _ _ e2).set_far _ _ e2, (h5.set_far _ _ e3).set_far _ _ e3, grown_set_new (grown_set_new h6 (by omega)) (by omega)⟩
/-- Two boards that a draw by a cursor has handed out. -/
def TwoDraw (w : World) (p n : Nat) (e : Ending) (w' : World) : Prop :=
  ∃ (R C : Int) (B : Option Addr) (k : Nat) (m : List (Int × Int)) (R' C' : Int) (B' : Option Addr) (k' : Nat) (m' : List (Int × Int)), e = .returned (.tuple #[.agg #[.int .i64 R, .int .i64 C, .slice B m.length k], .agg #[.int .i64 R', .int .i64 C', .slice B' m'.length k']]) ∧ BoardOutW w w' R C B m ∧ BoardOutW w w' R' C' B' m' ∧ Cr w' p n ∧ w.grownBy w' (some p)
theorem cr_six {w : World} {p n g : Nat} {u0 u1 u2 u3 u4 u5 : Value} (h : Cr w p n) (hp : p < g) :
    Cr ((((((w.setCell ⟨g, 0, none⟩ u0).setCell ⟨g, 1, none⟩ u1).setCell ⟨g, 2, none⟩ u2).setCell ⟨g + 1, 0, none⟩ u3).setCell ⟨g + 1, 1, none⟩ u4).setCell ⟨g + 1, 2, none⟩ u5) p n :=
  (((((h.set_far hp).set_far hp).set_far hp).set_far (by omega)).set_far (by omega)).set_far (by omega)
theorem grown_six {w w' : World} {row : Option Nat} {g : Nat} {u0 u1 u2 u3 u4 u5 : Value} (h : w.grownBy w' row) (hg : w.heap.size ≤ g) :
    w.grownBy ((((((w'.setCell ⟨g, 0, none⟩ u0).setCell ⟨g, 1, none⟩ u1).setCell ⟨g, 2, none⟩ u2).setCell ⟨g + 1, 0, none⟩ u3).setCell ⟨g + 1, 1, none⟩ u4).setCell ⟨g + 1, 2, none⟩ u5) row :=
  grown_set_new (grown_set_new (grown_set_new (grown_set_new (grown_set_new (grown_set_new h hg) hg) hg) (by omega)) (by omega)) (by omega)
theorem cr_drew {w : World} {p n : Nat} (h : Cr w p n) : Cr w.drew p n := h.keep (below_grown (row := none) ((Below.refl _ _).drew)) (by simp)
theorem grown_drew1 {w w' : World} {row : Option Nat} (h : w.grownBy w' row) : w.grownBy w'.drew row := h.trans (below_grown ((Below.refl _ _).drew))
theorem boardsTwo_any (p n : Nat) (w : World) (h : Cr w p n) (hn : n ≤ 100000) :
    Calls Tryz.prog 49 #[.pointer (some ⟨p, 0, none⟩)] w (TwoDraw w p (n + 5000)) := by
  have hp := h.lt
  obtain ⟨v0, hv0, X0, X1, B0, hz0⟩ := two_boxes w [.int .i64 0, .int .i64 0, .slice none 0 0] 25 [.int .i64 0, .int .i64 0, .slice none 0 0] 25
  have HV := Lib.hid hv0
  clear hv0
  have C0 : Cr v0 p n := h.keep (below_grown (row := none) B0) (by simp)
  have gw : w.grownBy v0 (some p) := below_grown B0
  go_enter Tryz.func49, Tryz.ntmps49
  go_wp2_with fail
  rewrite [show (w.alloc (.cells ([.int .i64 0, .int .i64 0, .slice none 0 0] : List Value).toArray 25)).alloc (.cells ([.int .i64 0, .int .i64 0, .slice none 0 0] : List Value).toArray 25) = v0 from HV.out]
  clear HV
  refine (anyBoard_any p n _ C0 (by omega)).mono ?_; rintro e w1 ⟨R, C, B, k, m, rfl, hR, hC, h90, hk, ho, hn1, c1, g1⟩
  replace X0 := X0.grownC g1 (by omega)
  replace X1 := X1.grownC g1 (by omega)
  replace gw := gw.trans g1
  have hBn : ∀ a, B = some a → w.heap.size + 1 < a.block := fun a ha => by have := hn1 a ha; omega
  have hp1 : w.heap.size + 1 < w1.heap.size := X1.lt
  have hB5 : 0 < m.length → ∀ a, B = some a → a.block < w1.heap.size := fun hp a ha => by
    obtain ⟨g, pre, rest, e, hw⟩ := ho (pos_flat hp)
    rw [e] at ha
    cases ha
    exact hw.lt
  clear C0 B0 g1 hn1 hz0
  obtain ⟨v1, hv1, XB, B2, hz1⟩ := one_box w1 [.int .i64 R, .int .i64 C, .slice B m.length k] 25
  have HV := Lib.hid hv1
  clear hv1
  have c2 : Cr v1 p (n + 2200) := c1.keep (below_grown (row := none) B2) (by simp)
  have SI : TInv w v1 p w1.heap.size R C B k m (n + 2200) := ⟨c2, X0.new B2, X1.new B2, XB, ho.new B2, gw.trans (below_grown B2)⟩
  clear c1 B2 c2 X0 X1 XB ho gw
  go_wp2_with fail
  rewrite [show w1.alloc (.cells ([.int .i64 R, .int .i64 C, .slice B m.length k] : List Value).toArray 25) = v1 from HV.out]
  clear HV
  generalize w1.heap.size = gB at *
  refine (one_any _ _ 8 _ SI.1 (by omega) (by omega) (by omega)).mono ?_; rintro e w2 ⟨bb, rfl, c3, g3⟩
  replace SI := SI.step g3 c3 hp hp1 hBn
  clear c3 g3
  have hne : w.heap.size ≠ gB := by omega
  have hne1 : w.heap.size + 1 ≠ gB := by omega
  cases bb with
  | true =>
    obtain ⟨SC, X0, X1, XB, ho, B1⟩ := SI
    (obtain ⟨b0, b1, b2⟩ := whole3 XB)
    have hgl := XB.lt
    have hw2 := X1.lt
    obtain ⟨nb, hnb⟩ : ∃ nb, n + 2200 + 2 = nb := ⟨_, rfl⟩
    rw [hnb] at SC
    go_upto_region 3 with (fail)
    go_region_held3 (fun w' => w'.cell? ⟨gB, 0, none⟩ = some (.int .i64 R) ∧ w'.cell? ⟨gB, 1, none⟩ = some (.int .i64 C) ∧ w'.cell? ⟨gB, 2, none⟩ = some (.slice B m.length k))
      ((refine whole3 (t := 25) ?_; (repeat (with_reducible refine Whole.set_far ?_ _ _ (by first | exact hne | exact hne1))); (first | exact XB5.new (by (repeat' (first | (with_reducible exact Below.refl _ _) | (with_reducible assumption) | (with_reducible refine Below.alloc ?_ ?_ _) | (with_reducible refine Below.setCell ?_ ?_ _) | (with_reducible refine Below.drew ?_) | (with_reducible refine below_drewN ?_ _) | (with_reducible refine Below.trans ?_ (Below.mono (by assumption) ?_)) | go_size)) : Below w7.heap.size w7 _) | exact XB.new (by (repeat' (first | (with_reducible exact Below.refl _ _) | (with_reducible assumption) | (with_reducible refine Below.alloc ?_ ?_ _) | (with_reducible refine Below.setCell ?_ ?_ _) | (with_reducible refine Below.drew ?_) | (with_reducible refine below_drewN ?_ _) | (with_reducible refine Below.trans ?_ (Below.mono (by assumption) ?_)) | go_size)) : Below w2.heap.size w2 _) | fail)))
      (((go_at_call 30; (refine (anyBoard_any p nb _ ?_ (by omega)).mono ?_); (focus exact SC.keep (below_grown (row := none) (by (repeat' (first | (with_reducible exact Below.refl _ _) | (with_reducible assumption) | (with_reducible refine Below.alloc ?_ ?_ _) | (with_reducible refine Below.setCell ?_ ?_ _) | (with_reducible refine Below.drew ?_) | (with_reducible refine below_drewN ?_ _) | (with_reducible refine Below.trans ?_ (Below.mono (by assumption) ?_)) | go_size)) : Below w2.heap.size w2 _)) (by simp)); rintro e w7 ⟨R', C', B', k', m', rfl, hR', hC', h90', hk', ho', hn', c7, g7⟩; have G7 := (below_grown (row := some p) (by (repeat' (first | (with_reducible exact Below.refl _ _) | (with_reducible assumption) | (with_reducible refine Below.alloc ?_ ?_ _) | (with_reducible refine Below.setCell ?_ ?_ _) | (with_reducible refine Below.drew ?_) | (with_reducible refine below_drewN ?_ _) | (with_reducible refine Below.trans ?_ (Below.mono (by assumption) ?_)) | go_size)) : Below w2.heap.size w2 _)).trans g7; have XB5 := XB.grownC G7 (by omega); have X05 := X0.grownC G7 (by omega); have X15 := X1.grownC G7 (by omega); have s7 : w2.heap.size ≤ w7.heap.size := G7.size; clear g7; have f0 := X05.frozen 0; have f1 := X05.frozen 1; have f2 := X05.frozen 2; have f3 := X15.frozen 0; have f4 := X15.frozen 1; have f5 := X15.frozen 2; (obtain ⟨q0, q1, q2⟩ := whole3 (x := .int .i64 0) (y := .int .i64 0) (z := .slice none 0 0) X05); (obtain ⟨q3, q4, q5⟩ := whole3 (x := .int .i64 0) (y := .int .i64 0) (z := .slice none 0 0) X15))))
    have hx' : ∀ a, B' = some a → w.heap.size + 1 < a.block := fun a ha => by have h1 : w2.heap.size ≤ a.block := hn' a ha; omega
    have hl7 := ho.grownC G7 (fun a ha => by have := hBn a ha; omega)
    have B7 := B1.trans G7
    go_wp2
    refine bodyPost_ret (v := .tuple #[.agg #[.int .i64 R, .int .i64 C, .slice B m.length k], .agg #[.int .i64 R', .int .i64 C', .slice B' m'.length k']]) ?_ rfl ?_; (focus (simp [results, Tryz.results49, go_sem, *]; done))
    exact ⟨R, C, B, k, m, R', C', B', k', m', rfl, ⟨hR, hC, h90, at_six hl7 (fun a ha => by have := hBn a ha; omega), fun a ha => by have := hBn a ha; omega⟩,
      ⟨hR', hC', h90', at_six ho' hx', fun a ha => by have := hx' a ha; omega⟩, cr_six (c7.mono (by omega)) hp, grown_six B7 (Nat.le_refl _)⟩
  | false =>
    have XB := SI.2.2.2.1
    (obtain ⟨b0, b1, b2⟩ := whole3 XB)
    have hgl := XB.lt
    go_wp2_with fail
    refine (spec_boOwn_at R C B k m _ (by omega) SI.2.2.2.2.1.rd).mono ?_; rintro e w3 hP
    obtain ⟨A5, c5, rfl, O5, N5, b3⟩ := hP
    clear b0 b1 b2 XB
    have h5n : ∀ a, A5 = some a → gB < a.block := fun a ha => by have h1 := N5 a ha; omega
    replace SI := SI.step (below_grown b3) (SI.1.keep (below_grown (row := none) b3) (by simp)) hp hp1 hBn
    go_upto_region 5 with (fail)
    obtain ⟨v6, hv6, XA, B6, hz6⟩ := one_box w3 [.int .i64 R, .int .i64 C, .slice A5 m.length c5] 25
    have HV := Lib.hid hv6
    clear hv6
    rewrite [show w3.alloc (.cells ([.int .i64 R, .int .i64 C, .slice A5 m.length c5] : List Value).toArray 25) = v6 from HV.out]
    clear HV
    replace SI := SI.step (below_grown B6) (SI.1.keep (below_grown (row := none) B6) (by simp)) hp hp1 hBn
    have h56 : ∀ a, A5 = some a → 0 < m.length → a.block < w3.heap.size := fun a ha hp => O5.lt (pos_flat hp) ha
    have hg6 : gB < w3.heap.size := by have := b3.size; omega
    replace O5 := O5.keep B6
    generalize w3.heap.size = g6 at *
    clear B6 hz6 b3 N5
    go_wp2_with fail
    refine (pick_any _ _ 3 _ SI.1 (by omega) (by omega) (by omega)).mono ?_; rintro e w4 ⟨kk, rfl, k0, k1, c4, g4⟩
    replace SI := SI.step g4 c4 hp hp1 hBn
    replace XA := XA.grownC g4 (by omega)
    replace O5 := O5.grownC g4 (fun a ha => by have := h5n a ha; omega)
    clear c4 g4
    have SI2 : TInv w w4 p gB R C B k m (n + 2300 + 10 * (3 - kk).toNat) := SI.step (World.grownBy.refl _ _) (SI.1.mono (by omega)) hp hp1 hBn
    clear SI
    go_wp2
    go_loopw [6] (fun z wr => ∃ (kk : Int) (l' : List (Int × Int)), z = .int .i64 kk ∧ (0 ≤ kk ∧ kk ≤ 3) ∧ l'.length = m.length ∧ TInv w wr p gB R C B k m (n + 2300 + 10 * (3 - kk).toNat) ∧ Whole wr g6 25 [.int .i64 R, .int .i64 C, .slice A5 m.length c5] ∧ Own wr A5 86 (flat l')) (fun z _ => (intOf z).toNat)
    case atStart => exact ⟨kk, m, rfl, by omega, rfl, SI2, XA, O5⟩
    case round =>
      clear SI2 XA O5 k0 k1
      obtain ⟨kk, l', rfl, hkk, hl', SI, XA, O5⟩ := hrel
      have hga := XA.lt
      have hwr := SI.2.2.1.lt
      by_cases hk0 : 0 < kk
      · by_cases hm0 : 0 < m.length
        · obtain ⟨g5, rest5, rfl, X5⟩ := O5 (by rw [flat_length]; omega)
          have hg5 : gB < g5 := h5n _ rfl
          have h5l : g5 < g6 := h56 _ rfl hm0
          have a2 : wr.cell? ⟨g6, 2, none⟩ = some (.slice (some ⟨g5, 0, none⟩) m.length c5) := (XA.cell 2).trans rfl
          have hgne : g5 ≠ g6 := by omega
          have hgne' : g6 ≠ g5 := by omega
          have m9 : IntKind.i64.wrap (kk - 1) = kk - 1 := IntWalk.i64_in _ (by omega)
          obtain ⟨nb, hnb⟩ : ∃ nb, n + 2300 + 10 * (3 - kk).toNat = nb := ⟨_, rfl⟩
          rw [hnb] at SI
          have h0i : (0 : Int) < kk := hk0
          have h0m : (0 : Int) < (m.length : Int) := by omega
          go_upto_region 8 with (fail)
          go_region_held3 (fun w' => w'.cell? ⟨g6, 2, none⟩ = some (.slice (some ⟨g5, 0, none⟩) m.length c5))
            (first | exact keep_set (keep_set (((XB5.new (by (repeat' (first | (with_reducible exact Below.refl _ _) | (with_reducible assumption) | (with_reducible refine Below.alloc ?_ ?_ _) | (with_reducible refine Below.setCell ?_ ?_ _) | (with_reducible refine Below.drew ?_) | (with_reducible refine below_drewN ?_ _) | (with_reducible refine Below.trans ?_ (Below.mono (by assumption) ?_)) | go_size)) : Below w6.heap.size w6 _)).cell 2).trans rfl) hgne) hgne | exact ((XB5.new (by (repeat' (first | (with_reducible exact Below.refl _ _) | (with_reducible assumption) | (with_reducible refine Below.alloc ?_ ?_ _) | (with_reducible refine Below.setCell ?_ ?_ _) | (with_reducible refine Below.drew ?_) | (with_reducible refine below_drewN ?_ _) | (with_reducible refine Below.trans ?_ (Below.mono (by assumption) ?_)) | go_size)) : Below w6.heap.size w6 _)).cell 2).trans rfl | exact ((XB4.new (by (repeat' (first | (with_reducible exact Below.refl _ _) | (with_reducible assumption) | (with_reducible refine Below.alloc ?_ ?_ _) | (with_reducible refine Below.setCell ?_ ?_ _) | (with_reducible refine Below.drew ?_) | (with_reducible refine below_drewN ?_ _) | (with_reducible refine Below.trans ?_ (Below.mono (by assumption) ?_)) | go_size)) : Below w5.heap.size w5 _)).cell 2).trans rfl | exact ((XA.new (by (repeat' (first | (with_reducible exact Below.refl _ _) | (with_reducible assumption) | (with_reducible refine Below.alloc ?_ ?_ _) | (with_reducible refine Below.setCell ?_ ?_ _) | (with_reducible refine Below.drew ?_) | (with_reducible refine below_drewN ?_ _) | (with_reducible refine Below.trans ?_ (Below.mono (by assumption) ?_)) | go_size)) : Below wr.heap.size wr _)).cell 2).trans rfl | fail)
            ((first | (go_at_call 51; (with_reducible refine (pick_any p nb m.length _ ?_ (by omega) (by omega) (by omega)).mono ?_); (focus exact SI.1.keep (below_grown (row := none) (by (repeat' (first | (with_reducible exact Below.refl _ _) | (with_reducible assumption) | (with_reducible refine Below.alloc ?_ ?_ _) | (with_reducible refine Below.setCell ?_ ?_ _) | (with_reducible refine Below.drew ?_) | (with_reducible refine below_drewN ?_ _) | (with_reducible refine Below.trans ?_ (Below.mono (by assumption) ?_)) | go_size)) : Below wr.heap.size wr _)) (by simp)); rintro e w5 ⟨y, rfl, y0, y1, c5', g5'⟩; (obtain ⟨j, rfl⟩ := Int.eq_ofNat_of_zero_le y0); have hj : j < l'.length := (by omega); have hji : (j : Int) < (m.length : Int) := (by omega); have G4 := (below_grown (row := some p) (by (repeat' (first | (with_reducible exact Below.refl _ _) | (with_reducible assumption) | (with_reducible refine Below.alloc ?_ ?_ _) | (with_reducible refine Below.setCell ?_ ?_ _) | (with_reducible refine Below.drew ?_) | (with_reducible refine below_drewN ?_ _) | (with_reducible refine Below.trans ?_ (Below.mono (by assumption) ?_)) | go_size)) : Below wr.heap.size wr _)).trans g5'; have XB4 := XA.grownC G4 (by omega); have WG4 := X5.grownC G4 (by omega); clear g5') | (go_at_call 74; (with_reducible refine (cell_any p (nb + 2) _ ?_ (by omega)).mono ?_); (focus exact c5'.keep (below_grown (row := none) (by (repeat' (first | (with_reducible exact Below.refl _ _) | (with_reducible assumption) | (with_reducible refine Below.alloc ?_ ?_ _) | (with_reducible refine Below.setCell ?_ ?_ _) | (with_reducible refine Below.drew ?_) | (with_reducible refine below_drewN ?_ _) | (with_reducible refine Below.trans ?_ (Below.mono (by assumption) ?_)) | go_size)) : Below w5.heap.size w5 _)) (by simp)); rintro e w6 ⟨a, b, rfl, hab, c6, g6'⟩; have G5 := G4.trans ((below_grown (row := some p) (by (repeat' (first | (with_reducible exact Below.refl _ _) | (with_reducible assumption) | (with_reducible refine Below.alloc ?_ ?_ _) | (with_reducible refine Below.setCell ?_ ?_ _) | (with_reducible refine Below.drew ?_) | (with_reducible refine below_drewN ?_ _) | (with_reducible refine Below.trans ?_ (Below.mono (by assumption) ?_)) | go_size)) : Below w5.heap.size w5 _)).trans g6'); have XB5 := XA.grownC G5 (by omega); have WG5 := X5.grownC G5 (by omega); clear g6'; have m0 : w6.cell? ⟨g5, j * 2, none⟩ = some (.int .i64 l'[j].1) := (WG5.cell (j * 2)).trans (cell_left (flat_at l' j hj).1); have m1 : w6.cell? ⟨g5, j * 2 + 1, none⟩ = some (.int .i64 l'[j].2) := (WG5.cell (j * 2 + 1)).trans (cell_left (flat_at l' j hj).2); have m2 := WG5.frozen (j * 2); have m3 := WG5.frozen (j * 2 + 1)) | fail))
          have WF := (WG5.set (j * 2) (.int .i64 a)).set (j * 2 + 1) (.int .i64 b)
          rw [flat_set _ _ _ _ hj] at WF
          have SI2 := SI.step G5 c6 hp hp1 hBn
          have SI3 := TInv.sets (j := j * 2) (j' := j * 2 + 1) (u := .int .i64 a) (u' := .int .i64 b) SI2 hp (show gB < g5 from hg5) hp1 (hB5 hm0)
          have XA3 := (XB5.set_far ⟨g5, j * 2, none⟩ (.int .i64 a) hgne).set_far ⟨g5, j * 2 + 1, none⟩ (.int .i64 b) hgne
          clear XB4 XB5 WG4 WG5 G4 G5 m0 m1 m2 m3 a2 c6 c5' SI SI2 XA X5
          generalize (w6.setCell ⟨g5, j * 2, none⟩ (.int .i64 a)).setCell ⟨g5, j * 2 + 1, none⟩ (.int .i64 b) = w8 at *
          go_wp2
          refine ⟨⟨kk - 1, l'.set j (a, b), rfl, by omega, by rw [List.length_set]; exact hl', ?_, XA3, fun _ => ⟨g5, rest5, rfl, WF⟩⟩, by simp [intOf]; omega⟩
          exact SI3.step (World.grownBy.refl _ _) (SI3.1.mono (by omega)) hp hp1 hBn
        · have hm00 : m.length = 0 := by omega
          obtain ⟨SC, X0, X1, XB, ho, B1⟩ := SI
          (obtain ⟨b0, b1, b2⟩ := whole3 XB)
          (obtain ⟨a0, a1, a2⟩ := whole3 XA)
          (obtain ⟨q0, q1, q2⟩ := whole3 (x := .int .i64 0) (y := .int .i64 0) (z := .slice none 0 0) X0)
          (obtain ⟨q3, q4, q5⟩ := whole3 (x := .int .i64 0) (y := .int .i64 0) (z := .slice none 0 0) X1)
          have f0 := X0.frozen 0
          have f1 := X0.frozen 1
          have f2 := X0.frozen 2
          have f3 := X1.frozen 0
          have f4 := X1.frozen 1
          have f5 := X1.frozen 2
          have h0l := X0.lt
          have h1l := X1.lt
          have hbl := XB.lt
          have na0 : w.heap.size ≠ g6 := by omega
          have na1 : w.heap.size + 1 ≠ g6 := by omega
          have n01 : w.heap.size ≠ w.heap.size + 1 := by omega
          go_upto_region 9 with (fail)
          go_region
          go_wp2
          refine bodyPost_ret (v := .tuple #[.agg #[.int .i64 R, .int .i64 C, .slice B m.length k], .agg #[.int .i64 R, .int .i64 C, .slice A5 m.length c5]]) ?_ rfl ?_; (focus (simp [results, Tryz.results49, go_sem, *]; done))
          exact ⟨R, C, B, k, m, R, C, A5, c5, l', by rw [hl'], ⟨hR, hC, h90, at_drew (at_six ho (fun a ha => by have := hBn a ha; omega)), fun a ha => by have := hBn a ha; omega⟩,
            ⟨hR, hC, by omega, at_drew (at_six O5.at_ (fun a ha => by have := h5n a ha; omega)), fun a ha => by have := h5n a ha; omega⟩, cr_drew (cr_six (SC.mono (by omega)) hp), grown_drew1 (grown_six B1 (Nat.le_refl _))⟩
      · have hk00 : kk = 0 := by omega
        obtain ⟨SC, X0, X1, XB, ho, B1⟩ := SI
        (obtain ⟨b0, b1, b2⟩ := whole3 XB)
        (obtain ⟨a0, a1, a2⟩ := whole3 XA)
        (obtain ⟨q0, q1, q2⟩ := whole3 (x := .int .i64 0) (y := .int .i64 0) (z := .slice none 0 0) X0)
        (obtain ⟨q3, q4, q5⟩ := whole3 (x := .int .i64 0) (y := .int .i64 0) (z := .slice none 0 0) X1)
        have f0 := X0.frozen 0
        have f1 := X0.frozen 1
        have f2 := X0.frozen 2
        have f3 := X1.frozen 0
        have f4 := X1.frozen 1
        have f5 := X1.frozen 2
        have h0l := X0.lt
        have h1l := X1.lt
        have hbl := XB.lt
        have na0 : w.heap.size ≠ g6 := by omega
        have na1 : w.heap.size + 1 ≠ g6 := by omega
        have n01 : w.heap.size ≠ w.heap.size + 1 := by omega
        go_upto_region 9 with (fail)
        go_region
        go_wp2
        refine bodyPost_ret (v := .tuple #[.agg #[.int .i64 R, .int .i64 C, .slice B m.length k], .agg #[.int .i64 R, .int .i64 C, .slice A5 m.length c5]]) ?_ rfl ?_; (focus (simp [results, Tryz.results49, go_sem, *]; done))
        exact ⟨R, C, B, k, m, R, C, A5, c5, l', by rw [hl'], ⟨hR, hC, h90, at_drew (at_six ho (fun a ha => by have := hBn a ha; omega)), fun a ha => by have := hBn a ha; omega⟩,
          ⟨hR, hC, by omega, at_drew (at_six O5.at_ (fun a ha => by have := h5n a ha; omega)), fun a ha => by have := h5n a ha; omega⟩, cr_drew (cr_six (SC.mono (by omega)) hp), grown_drew1 (grown_six B1 (Nat.le_refl _))⟩
end Go.Proofs.YtlnekfbhpfhcpaaGreat
namespace Go.Proofs.YtlnekfbhpfhcpaaGreat
open Go.ChangeShapes Go.WideShapes Go.ChangeAt Go.RowKit Go.Joins Go.Deep
set_option linter.unusedSimpArgs false
set_option linter.unusedVariables false
set_option maxRecDepth 100000
set_option maxHeartbeats 2000000
/-- Columns that a draw has handed out. -/
def ColsOut (w w' : World) (A : Option Addr) (k : Nat) (cs : List Int) : Prop := cs.length ≤ 61 ∧ cs.length ≤ k ∧ Own w' A 3 (ints cs) ∧ New w A
theorem own_farB {w : World} {A : Option Addr} {xs : List Value} {g : Nat} {u0 u1 u2 : Value} (h : Own w A 3 xs) (hn : ∀ a, A = some a → g < a.block) : Own (((w.setCell ⟨g, 0, none⟩ u0).setCell ⟨g, 1, none⟩ u1).setCell ⟨g, 2, none⟩ u2) A 3 xs := fun hx => by
  obtain ⟨g', rest, e, hw⟩ := h hx
  have h1 : g < g' := hn _ e
  exact ⟨g', rest, e, ((hw.set_far _ _ (by show g ≠ g'; omega)).set_far _ _ (by show g ≠ g'; omega)).set_far _ _ (by show g ≠ g'; omega)⟩
theorem at_farB {w : World} {A : Option Addr} {t : TypeId} {xs : List Value} {g : Nat} {u0 u1 u2 : Value} (h : OwnAt w A t xs) (hn : ∀ a, A = some a → g < a.block) : OwnAt (((w.setCell ⟨g, 0, none⟩ u0).setCell ⟨g, 1, none⟩ u1).setCell ⟨g, 2, none⟩ u2) A t xs :=
  have n0 : ∀ a, A = some a → g ≠ a.block := fun a ha => by have := hn a ha; omega
  ((h.set_far _ _ n0).set_far _ _ n0).set_far _ _ n0
theorem below_three {B : Nat} {w w' : World} {g : Nat} {u0 u1 u2 : Value} (h : Below B w w') (hg : B ≤ g) : Below B w (((w'.setCell ⟨g, 0, none⟩ u0).setCell ⟨g, 1, none⟩ u1).setCell ⟨g, 2, none⟩ u2) :=
  ((h.setCell hg _).setCell hg _).setCell hg _
theorem DrawFallsOf_any (A : Option Addr) (cap : Nat) (l : List Int) (w : World) (h : Bytes w A l) :
    Calls Tryz.prog 4 #[.slice A l.length cap] w fun e w' => ∃ (R C : Int) (B : Option Addr) (k : Nat) (m : List (Int × Int)) (A' : Option Addr) (k' : Nat) (cs : List Int), e = .returned (.tuple #[.agg #[.int .i64 R, .int .i64 C, .slice B m.length k], .slice A' cs.length k']) ∧ BoardOutW w w' R C B m ∧ ColsOut w w' A' k' cs ∧ Below w.heap.size w w' := by
  obtain ⟨v0, hv0, X0, XC, B0, hz0⟩ := two_boxes w [.int .i64 0, .int .i64 0, .slice none 0 0] 25 [.slice A l.length cap, .int .i64 0, .int .u64 0] 63
  have HV := Lib.hid hv0
  clear hv0
  have C0 := cur_new h B0 (by omega) XC
  go_enter Tryz.func4, Tryz.ntmps4
  go_wp2_with fail
  rewrite [show (w.alloc (.cells ([.int .i64 0, .int .i64 0, .slice none 0 0] : List Value).toArray 25)).alloc (.cells ([.slice A l.length cap, .int .i64 0, .int .u64 0] : List Value).toArray 63) = v0 from HV.out]
  clear HV
  refine (anyBoard_any _ 0 _ C0 (by omega)).mono ?_; rintro e w1 ⟨R, C, B, k, m, rfl, hR, hC, h90, hk, ho, hn1, c1, g1⟩
  replace X0 := X0.grownC g1 (by omega)
  have B1 : Below w.heap.size w w1 := grown_old B0 g1 (by omega)
  have hBn : ∀ a, B = some a → w.heap.size + 1 < a.block := fun a ha => by have := hn1 a ha; omega
  have hp1 := c1.lt
  clear C0 XC g1 hn1 hz0
  obtain ⟨v1, hv1, XB, B2, hz1⟩ := one_box w1 [.int .i64 R, .int .i64 C, .slice B m.length k] 25
  have HV := Lib.hid hv1
  clear hv1
  have c2 : Cr v1 (w.heap.size + 1) 2200 := c1.keep (below_grown (row := none) B2) (by simp)
  replace X0 := X0.new B2
  replace ho := ho.new B2
  replace B1 := B1.trans (B2.mono B1.size)
  clear c1 B2
  go_upto_region 3 with fail
  rewrite [show w1.alloc (.cells ([.int .i64 R, .int .i64 C, .slice B m.length k] : List Value).toArray 25) = v1 from HV.out]
  clear HV
  obtain ⟨b0, b1, b2⟩ := whole3 XB
  have hne : w.heap.size ≠ w1.heap.size := by omega
  have hv1s : w.heap.size < v1.heap.size := by omega
  go_region_held3 (fun w' => w'.cell? ⟨w1.heap.size, 0, none⟩ = some (.int .i64 R) ∧ w'.cell? ⟨w1.heap.size, 1, none⟩ = some (.int .i64 C) ∧ w'.cell? ⟨w1.heap.size, 2, none⟩ = some (.slice B m.length k))
    ((refine whole3 (t := 25) ?_; (repeat (with_reducible refine Whole.set_far ?_ _ _ (by exact hne))); (first | exact XB4.new (by (repeat' (first | (with_reducible exact Below.refl _ _) | (with_reducible assumption) | (with_reducible refine Below.alloc ?_ ?_ _) | (with_reducible refine Below.setCell ?_ ?_ _) | (with_reducible refine Below.drew ?_) | (with_reducible refine below_drewN ?_ _) | (with_reducible refine Below.trans ?_ (Below.mono (by assumption) ?_)) | go_size)) : Below w4.heap.size w4 _) | exact XB.new (by (repeat' (first | (with_reducible exact Below.refl _ _) | (with_reducible assumption) | (with_reducible refine Below.alloc ?_ ?_ _) | (with_reducible refine Below.setCell ?_ ?_ _) | (with_reducible refine Below.drew ?_) | (with_reducible refine below_drewN ?_ _) | (with_reducible refine Below.trans ?_ (Below.mono (by assumption) ?_)) | go_size)) : Below v1.heap.size v1 _) | fail)))
    (((go_at_call 31; (with_reducible refine (entries_any (w.heap.size + 1) 2200 R C B m.length k _ ?_ (by omega) (by omega)).mono ?_); (focus exact c2.keep (below_grown (row := none) (by (repeat' (first | (with_reducible exact Below.refl _ _) | (with_reducible assumption) | (with_reducible refine Below.alloc ?_ ?_ _) | (with_reducible refine Below.setCell ?_ ?_ _) | (with_reducible refine Below.drew ?_) | (with_reducible refine below_drewN ?_ _) | (with_reducible refine Below.trans ?_ (Below.mono (by assumption) ?_)) | go_size)) : Below v1.heap.size v1 _)) (by simp)); rintro e w4 ⟨A', k', cs, rfl, h61, hro, oc, nc, c4, g4⟩; have G4 := (below_grown (row := some (w.heap.size + 1)) (by (repeat' (first | (with_reducible exact Below.refl _ _) | (with_reducible assumption) | (with_reducible refine Below.alloc ?_ ?_ _) | (with_reducible refine Below.setCell ?_ ?_ _) | (with_reducible refine Below.drew ?_) | (with_reducible refine below_drewN ?_ _) | (with_reducible refine Below.trans ?_ (Below.mono (by assumption) ?_)) | go_size)) : Below v1.heap.size v1 _)).trans g4; have XB4 := XB.grownC G4 (by omega); have X04 := X0.grownC G4 (by omega); have s7 : v1.heap.size ≤ w4.heap.size := G4.size; clear g4; have f0 := X04.frozen 0; have f1 := X04.frozen 1; have f2 := X04.frozen 2; (obtain ⟨q0, q1, q2⟩ := whole3 (x := .int .i64 0) (y := .int .i64 0) (z := .slice none 0 0) X04))))
  all_goals (have B5 : Below w.heap.size w w4 := grown_old B1 G4 (by omega); have ho5 := ho.grownC G4 (fun a ha => by have := hBn a ha; omega); have hcn : ∀ a, A' = some a → w.heap.size < a.block := fun a ha => by (have h1 := nc a ha; first | omega | (simp at h1; omega)))
  all_goals go_wp2
  all_goals refine bodyPost_ret (v := .tuple #[.agg #[.int .i64 R, .int .i64 C, .slice B m.length k], .slice A' cs.length k']) ?_ rfl ?_; (focus (simp [results, Tryz.results4, go_sem, *]; done))
  all_goals exact ⟨R, C, B, k, m, A', k', cs, rfl, ⟨hR, hC, h90, at_farB ho5 (fun a ha => by have := hBn a ha; omega), fun a ha => by have := hBn a ha; omega⟩, ⟨h61, hro, own_farB oc hcn, fun a ha => by have := hcn a ha; omega⟩, below_three B5 (Nat.le_refl _)⟩
theorem DrawFallOf_any (A : Option Addr) (cap : Nat) (l : List Int) (w : World) (h : Bytes w A l) :
    Calls Tryz.prog 37 #[.slice A l.length cap] w fun e w' => ∃ (R C : Int) (B : Option Addr) (k : Nat) (m : List (Int × Int)) (j : Int), e = .returned (.tuple #[.agg #[.int .i64 R, .int .i64 C, .slice B m.length k], .int .i64 j]) ∧ (-1 ≤ j ∧ j ≤ 20) ∧ BoardOutW w w' R C B m ∧ Below w.heap.size w w' := by
  obtain ⟨v0, hv0, X0, XC, B0, hz0⟩ := two_boxes w [.int .i64 0, .int .i64 0, .slice none 0 0] 25 [.slice A l.length cap, .int .i64 0, .int .u64 0] 63
  have HV := Lib.hid hv0
  clear hv0
  have C0 := cur_new h B0 (by omega) XC
  go_enter Tryz.func37, Tryz.ntmps37
  go_wp2_with fail
  rewrite [show (w.alloc (.cells ([.int .i64 0, .int .i64 0, .slice none 0 0] : List Value).toArray 25)).alloc (.cells ([.slice A l.length cap, .int .i64 0, .int .u64 0] : List Value).toArray 63) = v0 from HV.out]
  clear HV
  refine (anyBoard_any _ 0 _ C0 (by omega)).mono ?_; rintro e w1 ⟨R, C, B, k, m, rfl, hR, hC, h90, hk, ho, hn1, c1, g1⟩
  replace X0 := X0.grownC g1 (by omega)
  have B1 : Below w.heap.size w w1 := grown_old B0 g1 (by omega)
  have hBn : ∀ a, B = some a → w.heap.size + 1 < a.block := fun a ha => by have := hn1 a ha; omega
  have hp1 := c1.lt
  clear C0 XC g1 hn1 hz0
  obtain ⟨v1, hv1, XB, B2, hz1⟩ := one_box w1 [.int .i64 R, .int .i64 C, .slice B m.length k] 25
  have HV := Lib.hid hv1
  clear hv1
  have c2 : Cr v1 (w.heap.size + 1) 2200 := c1.keep (below_grown (row := none) B2) (by simp)
  replace X0 := X0.new B2
  replace ho := ho.new B2
  replace B1 := B1.trans (B2.mono B1.size)
  clear c1 B2
  go_upto_region 3 with fail
  rewrite [show w1.alloc (.cells ([.int .i64 R, .int .i64 C, .slice B m.length k] : List Value).toArray 25) = v1 from HV.out]
  clear HV
  obtain ⟨b0, b1, b2⟩ := whole3 XB
  have hne : w.heap.size ≠ w1.heap.size := by omega
  have hv1s : w.heap.size < v1.heap.size := by omega
  go_region_held3 (fun w' => w'.cell? ⟨w1.heap.size, 0, none⟩ = some (.int .i64 R) ∧ w'.cell? ⟨w1.heap.size, 1, none⟩ = some (.int .i64 C) ∧ w'.cell? ⟨w1.heap.size, 2, none⟩ = some (.slice B m.length k))
    ((refine whole3 (t := 25) ?_; (repeat (with_reducible refine Whole.set_far ?_ _ _ (by exact hne))); (first | exact XB4.new (by (repeat' (first | (with_reducible exact Below.refl _ _) | (with_reducible assumption) | (with_reducible refine Below.alloc ?_ ?_ _) | (with_reducible refine Below.setCell ?_ ?_ _) | (with_reducible refine Below.drew ?_) | (with_reducible refine below_drewN ?_ _) | (with_reducible refine Below.trans ?_ (Below.mono (by assumption) ?_)) | go_size)) : Below w4.heap.size w4 _) | exact XB.new (by (repeat' (first | (with_reducible exact Below.refl _ _) | (with_reducible assumption) | (with_reducible refine Below.alloc ?_ ?_ _) | (with_reducible refine Below.setCell ?_ ?_ _) | (with_reducible refine Below.drew ?_) | (with_reducible refine below_drewN ?_ _) | (with_reducible refine Below.trans ?_ (Below.mono (by assumption) ?_)) | go_size)) : Below v1.heap.size v1 _) | fail)))
    (((go_at_call 62; (with_reducible refine (columnOf_any (w.heap.size + 1) 2200 R C B m.length k _ ?_ (by omega) (by omega) (by omega)).mono ?_); (focus exact c2.keep (below_grown (row := none) (by (repeat' (first | (with_reducible exact Below.refl _ _) | (with_reducible assumption) | (with_reducible refine Below.alloc ?_ ?_ _) | (with_reducible refine Below.setCell ?_ ?_ _) | (with_reducible refine Below.drew ?_) | (with_reducible refine below_drewN ?_ _) | (with_reducible refine Below.trans ?_ (Below.mono (by assumption) ?_)) | go_size)) : Below v1.heap.size v1 _)) (by simp)); rintro e w4 ⟨j, rfl, hj, c4, g4⟩; have G4 := (below_grown (row := some (w.heap.size + 1)) (by (repeat' (first | (with_reducible exact Below.refl _ _) | (with_reducible assumption) | (with_reducible refine Below.alloc ?_ ?_ _) | (with_reducible refine Below.setCell ?_ ?_ _) | (with_reducible refine Below.drew ?_) | (with_reducible refine below_drewN ?_ _) | (with_reducible refine Below.trans ?_ (Below.mono (by assumption) ?_)) | go_size)) : Below v1.heap.size v1 _)).trans g4; have XB4 := XB.grownC G4 (by omega); have X04 := X0.grownC G4 (by omega); have s7 : v1.heap.size ≤ w4.heap.size := G4.size; clear g4; have f0 := X04.frozen 0; have f1 := X04.frozen 1; have f2 := X04.frozen 2; (obtain ⟨q0, q1, q2⟩ := whole3 (x := .int .i64 0) (y := .int .i64 0) (z := .slice none 0 0) X04))))
  all_goals (have B5 : Below w.heap.size w w4 := grown_old B1 G4 (by omega); have ho5 := ho.grownC G4 (fun a ha => by have := hBn a ha; omega))
  all_goals go_wp2
  all_goals refine bodyPost_ret (v := .tuple #[.agg #[.int .i64 R, .int .i64 C, .slice B m.length k], .int .i64 j]) ?_ rfl ?_; (focus (simp [results, Tryz.results37, go_sem, *]; done))
  all_goals exact ⟨R, C, B, k, m, j, rfl, hj, ⟨hR, hC, h90, at_farB ho5 (fun a ha => by have := hBn a ha; omega), fun a ha => by have := hBn a ha; omega⟩, below_three B5 (Nat.le_refl _)⟩
theorem DrawColumnsTo_any (A : Option Addr) (cap : Nat) (l : List Int) (w : World) (h : Bytes w A l) :
    Calls Tryz.prog 9 #[.slice A l.length cap] w fun e w' => ∃ (R C : Int) (B : Option Addr) (k : Nat) (m : List (Int × Int)) (j : Int), e = .returned (.tuple #[.agg #[.int .i64 R, .int .i64 C, .slice B m.length k], .int .i64 j]) ∧ (-1 ≤ j ∧ j ≤ 20) ∧ BoardOutW w w' R C B m ∧ Below w.heap.size w w' := by
  obtain ⟨v0, hv0, X0, B0, hz0⟩ := one_box w [.int .i64 0, .int .i64 0, .slice none 0 0] 25
  have HV := Lib.hid hv0
  clear hv0
  have h2 : Bytes v0 A l := ⟨h.1, h.2.1, (h.2.2.below B0).mono B0.size⟩
  go_enter Tryz.func9, Tryz.ntmps9
  go_wp2_with fail
  rewrite [show w.alloc (.cells ([.int .i64 0, .int .i64 0, .slice none 0 0] : List Value).toArray 25) = v0 from HV.out]
  clear HV
  refine (DrawFallOf_any A cap l _ h2).mono ?_; rintro e w1 ⟨R, C, B, k, m, j, rfl, hj, bo, b1⟩
  replace X0 := X0.new b1
  replace B0 := B0.trans (b1.mono B0.size)
  have hBn : ∀ a, B = some a → w.heap.size < a.block := fun a ha => by have := bo.new a ha; omega
  have f0 := X0.frozen 0
  have f1 := X0.frozen 1
  have f2 := X0.frozen 2
  (obtain ⟨q0, q1, q2⟩ := whole3 (x := .int .i64 0) (y := .int .i64 0) (z := .slice none 0 0) X0)
  go_wp2
  refine bodyPost_ret (v := .tuple #[.agg #[.int .i64 R, .int .i64 C, .slice B m.length k], .int .i64 j]) ?_ rfl ?_; (focus (simp [results, Tryz.results9, go_sem, *]; done))
  exact ⟨R, C, B, k, m, j, rfl, hj, ⟨bo.rows, bo.cols, bo.few, at_farB bo.own hBn, fun a ha => by have := hBn a ha; omega⟩, below_three B0 (Nat.le_refl _)⟩
theorem DrawSameFalls_any (A : Option Addr) (cap : Nat) (l : List Int) (w : World) (h : Bytes w A l) :
    Calls Tryz.prog 14 #[.slice A l.length cap] w (TwoOutW w) := by
  obtain ⟨v0, hv0, X0, X1, XC, B0, hz0⟩ := three_boxes w [.int .i64 0, .int .i64 0, .slice none 0 0] 25 [.int .i64 0, .int .i64 0, .slice none 0 0] 25 [.slice A l.length cap, .int .i64 0, .int .u64 0] 63
  have HV := Lib.hid hv0
  clear hv0
  have C0 := cur_new h B0 (by omega) XC
  go_enter Tryz.func14, Tryz.ntmps14
  go_wp2_with fail
  rewrite [show ((w.alloc (.cells ([.int .i64 0, .int .i64 0, .slice none 0 0] : List Value).toArray 25)).alloc (.cells ([.int .i64 0, .int .i64 0, .slice none 0 0] : List Value).toArray 25)).alloc (.cells ([.slice A l.length cap, .int .i64 0, .int .u64 0] : List Value).toArray 63) = v0 from HV.out]
  clear HV
  refine (boardsTwo_any _ 0 _ C0 (by omega)).mono ?_; rintro e w1 ⟨R, C, B, k, m, R', C', B', k', m', rfl, bo, bo', c1, g1⟩
  replace X0 := X0.grownC g1 (by omega)
  replace X1 := X1.grownC g1 (by omega)
  have B1 : Below w.heap.size w w1 := grown_old B0 g1 (by omega)
  have hBn : ∀ a, B = some a → w.heap.size + 1 < a.block := fun a ha => by have := bo.new a ha; omega
  have hBn' : ∀ a, B' = some a → w.heap.size + 1 < a.block := fun a ha => by have := bo'.new a ha; omega
  clear C0 XC g1 hz0 B0
  have f0 := X0.frozen 0
  have f1 := X0.frozen 1
  have f2 := X0.frozen 2
  have f3 := X1.frozen 0
  have f4 := X1.frozen 1
  have f5 := X1.frozen 2
  (obtain ⟨q0, q1, q2⟩ := whole3 (x := .int .i64 0) (y := .int .i64 0) (z := .slice none 0 0) X0)
  (obtain ⟨q3, q4, q5⟩ := whole3 (x := .int .i64 0) (y := .int .i64 0) (z := .slice none 0 0) X1)
  go_wp2
  refine bodyPost_ret (v := .tuple #[.agg #[.int .i64 R, .int .i64 C, .slice B m.length k], .agg #[.int .i64 R', .int .i64 C', .slice B' m'.length k']]) ?_ rfl ?_; (focus (simp [results, Tryz.results14, go_sem, *]; done))
  exact ⟨R, C, B, k, m, R', C', B', k', m', rfl, ⟨bo.rows, bo.cols, bo.few, at_six bo.own hBn, fun a ha => by have := hBn a ha; omega⟩, ⟨bo'.rows, bo'.cols, bo'.few, at_six bo'.own hBn', fun a ha => by have := hBn' a ha; omega⟩, below_six B1⟩
end Go.Proofs.YtlnekfbhpfhcpaaGreat
namespace Go.Proofs.YtlnekfbhpfhcpaaGreat
open Go.ChangeShapes Go.WideShapes Go.ChangeAt Go.RowKit Go.Joins Go.Deep
set_option linter.unusedSimpArgs false
set_option linter.unusedVariables false
set_option maxRecDepth 100000
set_option maxHeartbeats 4000000
theorem own_six {w : World} {A : Option Addr} {xs : List Value} {g : Nat} {u0 u1 u2 u3 u4 u5 : Value} (h : Own w A 3 xs) (hn : ∀ a, A = some a → g + 1 < a.block) :
    Own ((((((w.setCell ⟨g, 0, none⟩ u0).setCell ⟨g, 1, none⟩ u1).setCell ⟨g, 2, none⟩ u2).setCell ⟨g + 1, 0, none⟩ u3).setCell ⟨g + 1, 1, none⟩ u4).setCell ⟨g + 1, 2, none⟩ u5) A 3 xs :=
  own_farB (own_farB h (fun a ha => by have := hn a ha; omega)) hn
theorem six_of {w : World} {g g' : Nat} {t : TypeId} {x y z x' y' z' : Value} (h : Whole w g t [x, y, z]) (h' : Whole w g' t [x', y', z']) :
    w.cell? ⟨g, 0, none⟩ = some x ∧ w.cell? ⟨g, 1, none⟩ = some y ∧ w.cell? ⟨g, 2, none⟩ = some z ∧ w.cell? ⟨g', 0, none⟩ = some x' ∧ w.cell? ⟨g', 1, none⟩ = some y' ∧ w.cell? ⟨g', 2, none⟩ = some z' :=
  ⟨(whole3 h).1, (whole3 h).2.1, (whole3 h).2.2, (whole3 h').1, (whole3 h').2.1, (whole3 h').2.2⟩
theorem DrawFirstDifferent_any (A : Option Addr) (cap : Nat) (l : List Int) (w : World) (h : Bytes w A l) :
    Calls Tryz.prog 17 #[.slice A l.length cap] w fun e w' => ∃ (R C : Int) (B : Option Addr) (k : Nat) (m : List (Int × Int)) (R' C' : Int) (B' : Option Addr) (k' : Nat) (m' : List (Int × Int)) (A' : Option Addr) (k2 : Nat) (cs : List Int), e = .returned (.tuple #[.agg #[.int .i64 R, .int .i64 C, .slice B m.length k], .agg #[.int .i64 R', .int .i64 C', .slice B' m'.length k'], .slice A' cs.length k2]) ∧ BoardOutW w w' R C B m ∧ BoardOutW w w' R' C' B' m' ∧ ColsOut w w' A' k2 cs ∧ Below w.heap.size w w' := by
  obtain ⟨v0, hv0, X0, X1, XC, B0, hz0⟩ := three_boxes w [.int .i64 0, .int .i64 0, .slice none 0 0] 25 [.int .i64 0, .int .i64 0, .slice none 0 0] 25 [.slice A l.length cap, .int .i64 0, .int .u64 0] 63
  have HV := Lib.hid hv0
  clear hv0
  have C0 := cur_new h B0 (by omega) XC
  go_enter Tryz.func17, Tryz.ntmps17
  go_wp2_with fail
  rewrite [show ((w.alloc (.cells ([.int .i64 0, .int .i64 0, .slice none 0 0] : List Value).toArray 25)).alloc (.cells ([.int .i64 0, .int .i64 0, .slice none 0 0] : List Value).toArray 25)).alloc (.cells ([.slice A l.length cap, .int .i64 0, .int .u64 0] : List Value).toArray 63) = v0 from HV.out]
  clear HV
  refine (boardsTwo_any _ 0 _ C0 (by omega)).mono ?_; rintro e w1 ⟨R, C, B, k, m, R', C', B', k', m', rfl, bo, bo', c1, g1⟩
  replace X0 := X0.grownC g1 (by omega)
  replace X1 := X1.grownC g1 (by omega)
  have B1 : Below w.heap.size w w1 := grown_old B0 g1 (by omega)
  have hBn : ∀ a, B = some a → w.heap.size + 1 + 1 < a.block := fun a ha => by have := bo.new a ha; omega
  have hBn' : ∀ a, B' = some a → w.heap.size + 1 + 1 < a.block := fun a ha => by have := bo'.new a ha; omega
  have ho := bo.own
  have ho' := bo'.own
  have hp1 := c1.lt
  obtain ⟨⟨hR1, hR2⟩, ⟨hC1, hC2⟩, h90⟩ : (0 ≤ R ∧ R ≤ 11) ∧ (0 ≤ C ∧ C ≤ 10) ∧ m.length ≤ 90 := ⟨bo.rows, bo.cols, bo.few⟩
  obtain ⟨⟨hR1', hR2'⟩, ⟨hC1', hC2'⟩, h90'⟩ : (0 ≤ R' ∧ R' ≤ 11) ∧ (0 ≤ C' ∧ C' ≤ 10) ∧ m'.length ≤ 90 := ⟨bo'.rows, bo'.cols, bo'.few⟩
  clear C0 XC g1 hz0 B0 bo bo'
  obtain ⟨v1, hv1, XB, XD, B2, hz1⟩ := two_boxes w1 [.int .i64 R, .int .i64 C, .slice B m.length k] 25 [.int .i64 R', .int .i64 C', .slice B' m'.length k'] 25
  have HV := Lib.hid hv1
  clear hv1
  have c2 : Cr v1 (w.heap.size + 1 + 1) 5000 := c1.keep (below_grown (row := none) B2) (by simp)
  replace X0 := X0.new B2
  replace X1 := X1.new B2
  replace ho := ho.new B2
  replace ho' := ho'.new B2
  replace B1 := B1.trans (B2.mono B1.size)
  clear c1 B2
  go_upto_region 3 with fail
  rewrite [show (w1.alloc (.cells ([.int .i64 R, .int .i64 C, .slice B m.length k] : List Value).toArray 25)).alloc (.cells ([.int .i64 R', .int .i64 C', .slice B' m'.length k'] : List Value).toArray 25) = v1 from HV.out]
  clear HV
  have hne : w.heap.size ≠ w1.heap.size := by omega
  have hne1 : w.heap.size + 1 ≠ w1.heap.size := by omega
  have hne2 : w.heap.size ≠ w1.heap.size + 1 := by omega
  have hne3 : w.heap.size + 1 ≠ w1.heap.size + 1 := by omega
  have hv1s : w.heap.size + 1 < v1.heap.size := by omega
  generalize hg6 : w1.heap.size = g6 at *
  obtain ⟨b0, b1, b2⟩ := whole3 XB
  obtain ⟨d0, d1, d2⟩ := whole3 XD
  go_region_held3 (fun w' => w'.cell? ⟨g6, 0, none⟩ = some (.int .i64 R) ∧ w'.cell? ⟨g6, 1, none⟩ = some (.int .i64 C) ∧ w'.cell? ⟨g6, 2, none⟩ = some (.slice B m.length k) ∧ w'.cell? ⟨g6 + 1, 0, none⟩ = some (.int .i64 R') ∧ w'.cell? ⟨g6 + 1, 1, none⟩ = some (.int .i64 C') ∧ w'.cell? ⟨g6 + 1, 2, none⟩ = some (.slice B' m'.length k'))
    ((refine six_of (t := 25) ?_ ?_; (repeat (with_reducible refine Whole.set_far ?_ _ _ (by first | exact hne | exact hne1))); (first | exact XB4.new (by (repeat' (first | (with_reducible exact Below.refl _ _) | (with_reducible assumption) | (with_reducible refine Below.alloc ?_ ?_ _) | (with_reducible refine Below.setCell ?_ ?_ _) | (with_reducible refine Below.drew ?_) | (with_reducible refine below_drewN ?_ _) | (with_reducible refine Below.trans ?_ (Below.mono (by assumption) ?_)) | go_size)) : Below w4.heap.size w4 _) | exact XB.new (by (repeat' (first | (with_reducible exact Below.refl _ _) | (with_reducible assumption) | (with_reducible refine Below.alloc ?_ ?_ _) | (with_reducible refine Below.setCell ?_ ?_ _) | (with_reducible refine Below.drew ?_) | (with_reducible refine below_drewN ?_ _) | (with_reducible refine Below.trans ?_ (Below.mono (by assumption) ?_)) | go_size)) : Below v1.heap.size v1 _) | fail); (repeat (with_reducible refine Whole.set_far ?_ _ _ (by first | exact hne2 | exact hne3))); (first | exact XD4.new (by (repeat' (first | (with_reducible exact Below.refl _ _) | (with_reducible assumption) | (with_reducible refine Below.alloc ?_ ?_ _) | (with_reducible refine Below.setCell ?_ ?_ _) | (with_reducible refine Below.drew ?_) | (with_reducible refine below_drewN ?_ _) | (with_reducible refine Below.trans ?_ (Below.mono (by assumption) ?_)) | go_size)) : Below w4.heap.size w4 _) | exact XD.new (by (repeat' (first | (with_reducible exact Below.refl _ _) | (with_reducible assumption) | (with_reducible refine Below.alloc ?_ ?_ _) | (with_reducible refine Below.setCell ?_ ?_ _) | (with_reducible refine Below.drew ?_) | (with_reducible refine below_drewN ?_ _) | (with_reducible refine Below.trans ?_ (Below.mono (by assumption) ?_)) | go_size)) : Below v1.heap.size v1 _) | fail)))
    (((go_at_call 31; (with_reducible refine (entries_any (w.heap.size + 1 + 1) 5000 R C B m.length k _ ?_ (by omega) (by omega)).mono ?_); (focus exact c2.keep (below_grown (row := none) (by (repeat' (first | (with_reducible exact Below.refl _ _) | (with_reducible assumption) | (with_reducible refine Below.alloc ?_ ?_ _) | (with_reducible refine Below.setCell ?_ ?_ _) | (with_reducible refine Below.drew ?_) | (with_reducible refine below_drewN ?_ _) | (with_reducible refine Below.trans ?_ (Below.mono (by assumption) ?_)) | go_size)) : Below v1.heap.size v1 _)) (by simp)); rintro e w4 ⟨A', k2, cs, rfl, h61, hro, oc, nc, c4, g4⟩; have G4 := (below_grown (row := some (w.heap.size + 1 + 1)) (by (repeat' (first | (with_reducible exact Below.refl _ _) | (with_reducible assumption) | (with_reducible refine Below.alloc ?_ ?_ _) | (with_reducible refine Below.setCell ?_ ?_ _) | (with_reducible refine Below.drew ?_) | (with_reducible refine below_drewN ?_ _) | (with_reducible refine Below.trans ?_ (Below.mono (by assumption) ?_)) | go_size)) : Below v1.heap.size v1 _)).trans g4; have XB4 := XB.grownC G4 (by omega); have XD4 := XD.grownC G4 (by omega); have X04 := X0.grownC G4 (by omega); have X14 := X1.grownC G4 (by omega); have s7 : v1.heap.size ≤ w4.heap.size := G4.size; clear g4; have f0 := X04.frozen 0; have f1 := X04.frozen 1; have f2 := X04.frozen 2; have f3 := X14.frozen 0; have f4 := X14.frozen 1; have f5 := X14.frozen 2; (obtain ⟨q0, q1, q2⟩ := whole3 (x := .int .i64 0) (y := .int .i64 0) (z := .slice none 0 0) X04); (obtain ⟨q3, q4, q5⟩ := whole3 (x := .int .i64 0) (y := .int .i64 0) (z := .slice none 0 0) X14))))
  all_goals (have B5 : Below w.heap.size w w4 := grown_old B1 G4 (by omega); have ho5 := ho.grownC G4 (fun a ha => by have := hBn a ha; omega); have ho5' := ho'.grownC G4 (fun a ha => by have := hBn' a ha; omega); have hcn : ∀ a, A' = some a → w.heap.size + 1 < a.block := fun a ha => by (have h1 := nc a ha; first | omega | (simp at h1; omega)))
  all_goals go_wp2
  all_goals refine bodyPost_ret (v := .tuple #[.agg #[.int .i64 R, .int .i64 C, .slice B m.length k], .agg #[.int .i64 R', .int .i64 C', .slice B' m'.length k'], .slice A' cs.length k2]) ?_ rfl ?_; (focus (simp [results, Tryz.results17, go_sem, *]; done))
  all_goals exact ⟨R, C, B, k, m, R', C', B', k', m', A', k2, cs, rfl, ⟨⟨hR1, hR2⟩, ⟨hC1, hC2⟩, h90, at_six ho5 (fun a ha => by have := hBn a ha; omega), fun a ha => by have := hBn a ha; omega⟩, ⟨⟨hR1', hR2'⟩, ⟨hC1', hC2'⟩, h90', at_six ho5' (fun a ha => by have := hBn' a ha; omega), fun a ha => by have := hBn' a ha; omega⟩, ⟨h61, hro, own_six oc hcn, fun a ha => by have := hcn a ha; omega⟩, below_six B5⟩
end Go.Proofs.YtlnekfbhpfhcpaaGreat
