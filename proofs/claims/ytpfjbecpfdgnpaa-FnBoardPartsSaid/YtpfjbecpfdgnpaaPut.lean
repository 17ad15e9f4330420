/- PutCell, program and model; clones. -/
import Derived.Test.YtpfjbecpfdgnpaaCellAt
import Derived.Deep.RegionHeld3
import Derived.Deep.AppendLies
import Derived.Lib.BufferMore
import Derived.Deep.DeepCutAuto
import Derived.Test.YtpfjbecpfdgnpaaRows2
namespace Go.Proofs.Ytpfjbecpfdgnpaa
open Go.ChangeShapes Go.WideShapes Go.ChangeAt Go.RowKit Go.Joins Go.Deep
set_option linter.unusedSimpArgs false
set_option linter.unusedVariables false
set_option maxRecDepth 100000
set_option maxHeartbeats 1000000
theorem row_empty (w : World) (e : TypeId) (size : Nat) : (w.alloc (.cells #[] e)).ownsRow w.heap.size e size (.slice (some ⟨w.heap.size, 0, none⟩) 0 0) 0 [] :=
  ⟨by simp, .inr ⟨w.heap.size, 0, #[], rfl, Nat.le_refl _, heap_alloc_new w _, Nat.le_refl _, Nat.zero_le _, by simp, by simp⟩⟩
theorem rd_news {w w' : World} {B b o : Nat} {xs : List Value} (hr : Rd w B (some ⟨b, o, none⟩) xs) (hb : Below B w w') : ∀ j u, xs[j]? = some u → w'.cell? ((⟨b, o, none⟩ : Addr).add j) = some u := by
  intro j u hj
  obtain ⟨b', o', e, hlt, hc⟩ := hr (by have := (List.getElem?_eq_some_iff.1 hj).1; omega)
  cases e
  rw [add_plain]
  exact (hb.cell (p := ⟨b, o + j, none⟩) hlt).trans (hc j u hj)
theorem Own.set_far {w : World} {A : Option Addr} {t : TypeId} {xs : List Value} (h : Own w A t xs) (p : Addr) (u : Value) (hne : ∀ a, A = some a → p.block ≠ a.block) : Own (w.setCell p u) A t xs := fun hx => by
  obtain ⟨g, rest, rfl, hw⟩ := h hx
  exact ⟨g, rest, rfl, hw.set_far p u (hne _ rfl)⟩
theorem Clone_any (b o cap : Nat) (l : List (Int × Int)) (w : World) (hn : l.length ≤ 1048576) (hr : Rd w w.heap.size (some ⟨b, o, none⟩) (flat l)) :
    Calls Try.prog 89 #[.slice (some ⟨b, o, none⟩) l.length cap] w (PostC w l) := by
  obtain ⟨i0, hi, hz0, hz1, hz2⟩ := info_parts cellInfo
  have hnil := fun (w : World) => Lib.run_eql_slice_some_nil (P := Try.prog) w (⟨b, o, none⟩ : Addr) l.length cap Try.underlying23
  go_enter Try.func89, Try.ntmps89
  go_wp2_with (first | (at_builtin; refine wpList_append_own _ rfl (.tmp 5) (.tmp 6) 23 rfl w.heap.size 27 i0 _ 2 16 Try.underlying23 hi hz0 hz1 hz2 rfl (by omega) _ 0 [] rfl (row_empty w _ _) ⟨b, o, none⟩ l.length cap (flat l) rfl (by rw [flat_length]; omega) (rd_news hr ((Below.refl _ _).alloc (Nat.le_refl _) _)) (flat_one l) (by unfold maxLen; omega) (by omega) (by simp) ?_; intro v1 w1 hown1 hg1 _) | fail)
  have hb1 : Below w.heap.size w w1 := row_below (row_empty w _ 2) ((Below.refl _ _).alloc (Nat.le_refl _) _) (by simp) hg1
  rw [Nat.zero_add, List.nil_append] at hown1
  obtain ⟨A', cap', rfl⟩ := slice_of_row hown1
  have ho := own_of_row hown1
  clear hg1 hown1
  go_wp2
  go_returns
  exact PostC.mk ho.1 ho.2 hb1
theorem spec_boOwn (R C : Int) (b o cap : Nat) (l : List (Int × Int)) (w : World) (hpos : 0 < l.length) (hn : l.length ≤ 1048576) (hr : Rd w w.heap.size (some ⟨b, o, none⟩) (flat l)) :
    Calls Try.prog 85 #[.agg #[.int .i64 R, .int .i64 C, .slice (some ⟨b, o, none⟩) l.length cap]] w (PostD w R C l) := by
  obtain ⟨i0, hi, hz0, hz1, hz2⟩ := info_parts cellInfo
  go_enter Try.func85, Try.ntmps85
  go_wp2_with fail
  have b0 : Below w.heap.size w ((w.alloc (.cells #[.int .i64 R, .int .i64 C, .slice (some ⟨b, o, none⟩) l.length cap] 25)).alloc (.cells #[.int .i64 0, .int .i64 0, .slice none 0 0] 25)) := by (repeat' (first | (with_reducible exact Below.refl _ _) | (with_reducible assumption) | (with_reducible refine Below.alloc ?_ ?_ _) | (with_reducible refine Below.setCell ?_ ?_ _) | (with_reducible refine Below.drew ?_) | (with_reducible refine below_drewN ?_ _) | (with_reducible refine Below.trans ?_ (Below.mono (by assumption) ?_)) | (with_reducible exact Nat.le_refl _) | (simp; done) | omega | (simp at *; omega)))
  have x0 : Whole ((w.alloc (.cells #[.int .i64 R, .int .i64 C, .slice (some ⟨b, o, none⟩) l.length cap] 25)).alloc (.cells #[.int .i64 0, .int .i64 0, .slice none 0 0] 25)) w.heap.size 25 [.int .i64 R, .int .i64 C, .slice (some ⟨b, o, none⟩) l.length cap] := Whole.alloc (heap_alloc_new w _) _
  have x1 : Whole ((w.alloc (.cells #[.int .i64 R, .int .i64 C, .slice (some ⟨b, o, none⟩) l.length cap] 25)).alloc (.cells #[.int .i64 0, .int .i64 0, .slice none 0 0] 25)) (w.heap.size + 1) 25 [.int .i64 0, .int .i64 0, .slice none 0 0] := by
    have h := heap_alloc_new (w.alloc (.cells #[.int .i64 R, .int .i64 C, .slice (some ⟨b, o, none⟩) l.length cap] 25)) (.cells #[.int .i64 0, .int .i64 0, .slice none 0 0] 25)
    rw [World.size_alloc] at h
    exact h
  have hz : w.heap.size + 1 < ((w.alloc (.cells #[.int .i64 R, .int .i64 C, .slice (some ⟨b, o, none⟩) l.length cap] 25)).alloc (.cells #[.int .i64 0, .int .i64 0, .slice none 0 0] 25)).heap.size := x1.lt
  have hb0 := b0.size
  generalize (w.alloc (.cells #[.int .i64 R, .int .i64 C, .slice (some ⟨b, o, none⟩) l.length cap] 25)).alloc (.cells #[.int .i64 0, .int .i64 0, .slice none 0 0] 25) = v0 at *
  have hz0' : w.heap.size < v0.heap.size := by omega
  have k0 : v0.cell? ⟨w.heap.size, 0, none⟩ = some (.int .i64 R) := (x0.cell 0).trans rfl
  have k1 : v0.cell? ⟨w.heap.size, 1, none⟩ = some (.int .i64 C) := (x0.cell 1).trans rfl
  have k2 : v0.cell? ⟨w.heap.size, 2, none⟩ = some (.slice (some ⟨b, o, none⟩) l.length cap) := (x0.cell 2).trans rfl
  have KS := Lib.hid (fun (w' : World) (h : Below (w.heap.size + 1) v0 w') => (⟨(h.cell (p := ⟨w.heap.size, 0, none⟩) (Nat.lt_succ_self _)).trans k0, (h.cell (p := ⟨w.heap.size, 1, none⟩) (Nat.lt_succ_self _)).trans k1, (h.cell (p := ⟨w.heap.size, 2, none⟩) (Nat.lt_succ_self _)).trans k2⟩ : w'.cell? ⟨w.heap.size, 0, none⟩ = some (.int .i64 R) ∧ w'.cell? ⟨w.heap.size, 1, none⟩ = some (.int .i64 C) ∧ w'.cell? ⟨w.heap.size, 2, none⟩ = some (.slice (some ⟨b, o, none⟩) l.length cap)))
  go_region_held3 (fun w' => w'.cell? ⟨w.heap.size, 0, none⟩ = some (.int .i64 R) ∧ w'.cell? ⟨w.heap.size, 1, none⟩ = some (.int .i64 C) ∧ w'.cell? ⟨w.heap.size, 2, none⟩ = some (.slice (some ⟨b, o, none⟩) l.length cap))
    (first | exact KS.out _ (by (repeat' (first | (with_reducible exact Below.refl _ _) | (with_reducible assumption) | (with_reducible refine Below.alloc ?_ ?_ _) | (with_reducible refine Below.setCell ?_ ?_ _) | (with_reducible refine Below.drew ?_) | (with_reducible refine below_drewN ?_ _) | (with_reducible refine Below.trans ?_ (Below.mono (by assumption) ?_)) | (with_reducible exact Nat.le_refl _) | (simp; done) | omega | (simp at *; omega)))))
    ((first | (refine step_append_lies _ (by rfl) _ _ _ (by rfl) v0.heap.size 27 i0 _ 2 16 Try.underlying23 hi hz0 hz1 hz2 rfl (by omega) _ 0 [] (by rfl) (row_empty v0.drew _ _) ⟨b, o, none⟩ l.length cap (flat l) (by rfl) (by rw [flat_length]; omega) (rd_news hr (by (repeat' (first | (with_reducible exact Below.refl _ _) | (with_reducible assumption) | (with_reducible refine Below.alloc ?_ ?_ _) | (with_reducible refine Below.setCell ?_ ?_ _) | (with_reducible refine Below.drew ?_) | (with_reducible refine below_drewN ?_ _) | (with_reducible refine Below.trans ?_ (Below.mono (by assumption) ?_)) | (with_reducible exact Nat.le_refl _) | (simp; done) | omega | (simp at *; omega))))) (flat_one l) hpos (by unfold maxLen; omega) (by omega) (by simp) (v0.heap.size + 1) (by simp) ?_; intro gg cap1 w1 hown1 hg1 hat1 hlt1; have hb1 : Below v0.heap.size v0 w1 := row_below (row_empty v0.drew _ 2) (((Below.refl _ _).drew).alloc (Nat.le_refl _) _) (by simp) hg1; have x2 := x1.below hb1 hz; have q0 : w1.cell? ⟨w.heap.size + 1, 0, none⟩ = some (.int .i64 0) := (x2.cell 0).trans rfl; have q1 : w1.cell? ⟨w.heap.size + 1, 1, none⟩ = some (.int .i64 0) := (x2.cell 1).trans rfl; have q2 : w1.cell? ⟨w.heap.size + 1, 2, none⟩ = some (.slice none 0 0) := (x2.cell 2).trans rfl; have qf0 := x2.frozen 0; have qf1 := x2.frozen 1; have qf2 := x2.frozen 2)))
  rw [Nat.zero_add, List.nil_append] at hown1
  have ho := own_of_row hown1
  have B1 : Below w.heap.size w w1 := b0.trans (hb1.mono hb0)
  clear hat1 hg1 hown1 hb1 x2 x1 x0 k0 k1 k2 KS
  go_wp2
  refine bodyPost_ret (v := .agg #[.int .i64 R, .int .i64 C, .slice (some ⟨gg, 0, none⟩) l.length cap1]) ?_ rfl ?_; (focus (simp [results, Try.results85, go_sem, *]; done))
  refine PostD.mk (((ho.1.set_far _ _ ?_).set_far _ _ ?_).set_far _ _ ?_) (fun a ha => by have := ho.2 a ha; omega) (by (repeat' (first | (with_reducible exact Below.refl _ _) | (with_reducible assumption) | (with_reducible refine Below.alloc ?_ ?_ _) | (with_reducible refine Below.setCell ?_ ?_ _) | (with_reducible refine Below.drew ?_) | (with_reducible refine below_drewN ?_ _) | (with_reducible refine Below.trans ?_ (Below.mono (by assumption) ?_)) | (with_reducible exact Nat.le_refl _) | (simp; done) | omega | (simp at *; omega))))
  all_goals (intro a ha; have h1 := ho.2 a ha; show w.heap.size + 1 ≠ a.block; omega)
theorem flat_set (l : List (Int × Int)) (n : Nat) (x y : Int) (h : n < l.length) (rest : List Value) : ((flat l ++ rest).set (n * 2) (.int .i64 x)).set (n * 2 + 1) (.int .i64 y) = flat (l.set n (x, y)) ++ rest := by
  have hl := flat_length l
  rw [List.set_append_left _ _ (by omega), List.set_append_left _ _ (by rw [List.length_set]; omega)]
  congr 1
  clear hl
  induction l generalizing n with
  | nil => simp at h
  | cons c l ih =>
    cases n with
    | zero => rfl
    | succ n =>
      have := ih n (by simpa using h)
      rw [show (n + 1) * 2 = n * 2 + 1 + 1 by omega]
      show ((Value.int .i64 c.1 :: Value.int .i64 c.2 :: flat l).set (n * 2 + 1 + 1) (Value.int .i64 x)).set (n * 2 + 1 + 1 + 1) (Value.int .i64 y) = Value.int .i64 c.1 :: Value.int .i64 c.2 :: flat (l.set n (x, y))
      rw [← this]
      rfl
theorem spec_boWith (R C : Int) (b o cap : Nat) (l : List (Int × Int)) (n : Nat) (x y : Int) (w : World) (hlt : n < l.length) (hn : l.length ≤ 90) (hr : Rd w w.heap.size (some ⟨b, o, none⟩) (flat l)) :
    Calls Try.prog 74 #[.agg #[.int .i64 R, .int .i64 C, .slice (some ⟨b, o, none⟩) l.length cap], .int .i64 (n : Int), .agg #[.int .i64 x, .int .i64 y]] w (PostD w R C (l.set n (x, y))) := by
  go_enter Try.func74, Try.ntmps74
  obtain ⟨v0, hv0, X0, X1, X2, B0, hz0⟩ := three_boxes w [.int .i64 R, .int .i64 C, .slice (some ⟨b, o, none⟩) l.length cap] 25 [.int .i64 x, .int .i64 y] 27 [.int .i64 0, .int .i64 0, .slice none 0 0] 25; have HV := Lib.hid hv0; have hx : w.heap.size + 1 + 1 < v0.heap.size := (by omega); have hz : w.heap.size + 1 < v0.heap.size := (by omega); have hy : w.heap.size < v0.heap.size := (by omega); have hb0 := B0.size; clear hv0 hz0; go_wp2_with fail; rewrite [show ((w.alloc (.cells ([.int .i64 R, .int .i64 C, .slice (some ⟨b, o, none⟩) l.length cap] : List Value).toArray 25)).alloc (.cells ([.int .i64 x, .int .i64 y] : List Value).toArray 27)).alloc (.cells ([.int .i64 0, .int .i64 0, .slice none 0 0] : List Value).toArray 25) = v0 from HV.out]; clear HV
  refine (spec_boOwn _ _ _ _ _ l _ (by omega) (by omega) ((hr.below B0).mono B0.size)).mono ?_; rintro e w1 ⟨A1, c1, rfl, o1, n1, b1⟩
  obtain ⟨g, rest, rfl, hw⟩ := o1 (by rw [flat_length]; omega)
  have X1 := X1.below b1 X1.lt
  have X2 := X2.below b1 X2.lt
  have hg : v0.heap.size ≤ g := n1 _ rfl
  have hgl := hw.lt
  have z0 : w.heap.size < w1.heap.size := by omega
  have z1 : w.heap.size + 1 < w1.heap.size := by omega
  have z2 : w.heap.size + 1 + 1 < w1.heap.size := by omega
  have k0 : w1.cell? ⟨w.heap.size + 1, 0, none⟩ = some (.int .i64 x) := (X1.cell 0).trans rfl
  have k1 : w1.cell? ⟨w.heap.size + 1, 1, none⟩ = some (.int .i64 y) := (X1.cell 1).trans rfl
  have q0 : w1.cell? ⟨w.heap.size + 1 + 1, 0, none⟩ = some (.int .i64 0) := (X2.cell 0).trans rfl
  have q1 : w1.cell? ⟨w.heap.size + 1 + 1, 1, none⟩ = some (.int .i64 0) := (X2.cell 1).trans rfl
  have q2 : w1.cell? ⟨w.heap.size + 1 + 1, 2, none⟩ = some (.slice none 0 0) := (X2.cell 2).trans rfl
  have qf0 := X2.frozen 0
  have qf1 := X2.frozen 1
  have qf2 := X2.frozen 2
  clear k0 k1 q0 q1 q2 qf0 qf1 qf2
  have B1 := B0.trans (b1.mono hb0)
  go_upto_region 2 with (fail)
  have b2 : Below w1.heap.size w1 (w1.alloc (.cells #[.int .i64 R, .int .i64 C, .slice (some ⟨g, 0, none⟩) l.length c1] 25)) := (Below.refl _ _).alloc (Nat.le_refl _) _
  have X3 : Whole (w1.alloc (.cells #[.int .i64 R, .int .i64 C, .slice (some ⟨g, 0, none⟩) l.length c1] 25)) w1.heap.size 25 [.int .i64 R, .int .i64 C, .slice (some ⟨g, 0, none⟩) l.length c1] := heap_alloc_new w1 _
  replace X1 := X1.below b2 X1.lt
  replace X2 := X2.below b2 X2.lt
  replace hw := hw.below b2 hgl
  replace B1 := B1.trans (b2.mono B1.size)
  have h3 := X3.lt
  clear b1 b2 o1 n1 X0
  generalize w1.alloc (.cells #[.int .i64 R, .int .i64 C, .slice (some ⟨g, 0, none⟩) l.length c1] 25) = v2 at *
  have k0 : v2.cell? ⟨w.heap.size + 1, 0, none⟩ = some (.int .i64 x) := (X1.cell 0).trans rfl
  have k1 : v2.cell? ⟨w.heap.size + 1, 1, none⟩ = some (.int .i64 y) := (X1.cell 1).trans rfl
  have k2 : v2.cell? ⟨w1.heap.size, 2, none⟩ = some (.slice (some ⟨g, 0, none⟩) l.length c1) := (X3.cell 2).trans rfl
  have hfl := flat_length l
  have e0 : n * 2 < (flat l).length := by omega
  have e1 : n * 2 + 1 < (flat l).length := by omega
  have u0 : v2.cell? ⟨g, n * 2, none⟩ = some (flat l)[n * 2] := by rw [hw.cell, List.getElem?_append_left e0, List.getElem?_eq_getElem e0]
  have u1 : v2.cell? ⟨g, n * 2 + 1, none⟩ = some (flat l)[n * 2 + 1] := by rw [hw.cell, List.getElem?_append_left e1, List.getElem?_eq_getElem e1]
  have f0 := hw.frozen (n * 2)
  have f1 := hw.frozen (n * 2 + 1)
  generalize (flat l)[n * 2] = p0 at *
  generalize (flat l)[n * 2 + 1] = p1 at *
  have HW := Lib.hid hw
  clear hw hfl e0 e1
  go_upto_region 3 with (fail)
  have HF := flat_set l n x y hlt rest
  have hw2 := (HW.out.set (n * 2) (.int .i64 x)).set (n * 2 + 1) (.int .i64 y)
  rw [HF] at hw2
  replace X2 := (X2.set_far ⟨g, n * 2, none⟩ (.int .i64 x) (by show g ≠ _; omega)).set_far ⟨g, n * 2 + 1, none⟩ (.int .i64 y) (by show g ≠ _; omega)
  replace X3 := (X3.set_far ⟨g, n * 2, none⟩ (.int .i64 x) (by show g ≠ _; omega)).set_far ⟨g, n * 2 + 1, none⟩ (.int .i64 y) (by show g ≠ _; omega)
  replace B1 : Below w.heap.size w ((v2.setCell ⟨g, n * 2, none⟩ (.int .i64 x)).setCell ⟨g, n * 2 + 1, none⟩ (.int .i64 y)) := (B1.setCell (p := ⟨g, n * 2, none⟩) (by show w.heap.size ≤ g; omega) _).setCell (p := ⟨g, n * 2 + 1, none⟩) (by show w.heap.size ≤ g; omega) _
  clear u0 u1 f0 f1 k0 k1 k2 HF HW X1
  generalize (v2.setCell ⟨g, n * 2, none⟩ (.int .i64 x)).setCell ⟨g, n * 2 + 1, none⟩ (.int .i64 y) = v3 at *
  have j0 : v3.cell? ⟨w1.heap.size, 0, none⟩ = some (.int .i64 R) := (X3.cell 0).trans rfl
  have j1 : v3.cell? ⟨w1.heap.size, 1, none⟩ = some (.int .i64 C) := (X3.cell 1).trans rfl
  have j2 : v3.cell? ⟨w1.heap.size, 2, none⟩ = some (.slice (some ⟨g, 0, none⟩) l.length c1) := (X3.cell 2).trans rfl
  have q0 : v3.cell? ⟨w.heap.size + 1 + 1, 0, none⟩ = some (.int .i64 0) := (X2.cell 0).trans rfl
  have q1 : v3.cell? ⟨w.heap.size + 1 + 1, 1, none⟩ = some (.int .i64 0) := (X2.cell 1).trans rfl
  have q2 : v3.cell? ⟨w.heap.size + 1 + 1, 2, none⟩ = some (.slice none 0 0) := (X2.cell 2).trans rfl
  have qf0 := X2.frozen 0
  have qf1 := X2.frozen 1
  have qf2 := X2.frozen 2
  go_wp2
  refine bodyPost_ret (v := .agg #[.int .i64 R, .int .i64 C, .slice (some ⟨g, 0, none⟩) l.length c1]) ?_ rfl ?_; (focus (simp [results, Try.results74, go_sem, *]; done))
  rw [show l.length = (l.set n (x, y)).length by rw [List.length_set]]
  refine PostD.mk (((Own.set_far ?_ _ _ ?_).set_far _ _ ?_).set_far _ _ ?_) (fun a ha => by cases ha; show w.heap.size ≤ g; omega) (by (repeat' (first | (with_reducible exact Below.refl _ _) | (with_reducible assumption) | (with_reducible refine Below.alloc ?_ ?_ _) | (with_reducible refine Below.setCell ?_ ?_ _) | (with_reducible refine Below.drew ?_) | (with_reducible refine below_drewN ?_ _) | (with_reducible refine Below.trans ?_ (Below.mono (by assumption) ?_)) | (with_reducible exact Nat.le_refl _) | (simp; done) | omega | (simp at *; omega))))
  · exact fun _ => ⟨g, rest, rfl, hw2⟩
  all_goals (intro a ha; cases ha; show w.heap.size + 1 + 1 ≠ g; omega)
def okPut (R C : Int) (l : List (Int × Int)) (i j x y : Int) : Bool := hasB R C l i j && good x y
def putL (R C : Int) (l : List (Int × Int)) (i j x y : Int) : List (Int × Int) := if okPut R C l i j x y then l.set (atI C i j) (x, y) else []
theorem putL_len (R C : Int) (l : List (Int × Int)) (i j x y : Int) (h : l.length ≤ 1048576) : (putL R C l i j x y).length ≤ 1048576 := by
  unfold putL
  split
  · rw [List.length_set]; exact h
  · simp
theorem spec_PutCell_has (R C : Int) (A : Option Addr) (cap : Nat) (l : List (Int × Int)) (i j x y : Int) (w : World) (hh : hasB R C l i j = false) (hn : l.length ≤ 1048576) (hr : Rd w w.heap.size A (flat l)) : Calls Try.prog 16 #[.agg #[.int .i64 R, .int .i64 C, .slice A l.length cap], .int .i64 i, .int .i64 j, .agg #[.int .i64 x, .int .i64 y]] w (PostB w 0 0 [] false) := by
  have HH := Lib.hid hh
  clear hh
  go_enter Try.func16, Try.ntmps16
  obtain ⟨v0, hv0, X0, X1, X2, B0, hz0⟩ := three_boxes w [.int .i64 R, .int .i64 C, .slice A l.length cap] 25 [.int .i64 x, .int .i64 y] 27 [.int .i64 0, .int .i64 0, .slice none 0 0] 25; have HV := Lib.hid hv0; have hx : w.heap.size + 1 + 1 < v0.heap.size := (by omega); have hz : w.heap.size + 1 < v0.heap.size := (by omega); have hy : w.heap.size < v0.heap.size := (by omega); have hb0 := B0.size; clear hv0 hz0; go_wp2_with fail; rewrite [show ((w.alloc (.cells ([.int .i64 R, .int .i64 C, .slice A l.length cap] : List Value).toArray 25)).alloc (.cells ([.int .i64 x, .int .i64 y] : List Value).toArray 27)).alloc (.cells ([.int .i64 0, .int .i64 0, .slice none 0 0] : List Value).toArray 25) = v0 from HV.out]; clear HV
  refine (spec_boHas _ _ _ _ l _ _ _ hn ((hr.below B0).mono B0.size)).mono ?_; rintro e w1 ⟨rfl, b1⟩
  rewrite [HH.out]
  replace X0 := X0.below b1 X0.lt; replace X1 := X1.below b1 X1.lt; replace X2 := X2.below b1 X2.lt; replace B0 := B0.trans (b1.mono B0.size); have hy := X0.lt; have hz := X1.lt; have hx := X2.lt; have hb0 := B0.size; clear b1
  have X2k0 : w1.cell? ⟨w.heap.size + 1 + 1, 0, none⟩ = some (.int .i64 0) := (X2.cell 0).trans rfl; have X2k1 : w1.cell? ⟨w.heap.size + 1 + 1, 1, none⟩ = some (.int .i64 0) := (X2.cell 1).trans rfl; have X2k2 : w1.cell? ⟨w.heap.size + 1 + 1, 2, none⟩ = some (.slice none 0 0) := (X2.cell 2).trans rfl
  have X2f0 := X2.frozen 0; have X2f1 := X2.frozen 1; have X2f2 := X2.frozen 2
  go_wp2
  refine bodyPost_ret (v := .tuple #[.agg #[.int .i64 0, .int .i64 0, .slice none 0 0], .bool false]) ?_ rfl ?_; (focus (simp [results, Try.results16, go_sem, *]; done))
  exact PostB.none_ (by (repeat' (first | (with_reducible exact Below.refl _ _) | (with_reducible assumption) | (with_reducible refine Below.alloc ?_ ?_ _) | (with_reducible refine Below.setCell ?_ ?_ _) | (with_reducible refine Below.drew ?_) | (with_reducible refine below_drewN ?_ _) | (with_reducible refine Below.trans ?_ (Below.mono (by assumption) ?_)) | (with_reducible exact Nat.le_refl _) | (simp; done) | omega | (simp at *; omega))))
theorem spec_PutCell_bad (R C : Int) (A : Option Addr) (cap : Nat) (l : List (Int × Int)) (i j x y : Int) (w : World) (hh : hasB R C l i j = true) (hg : good x y = false) (hn : l.length ≤ 1048576) (hr : Rd w w.heap.size A (flat l)) : Calls Try.prog 16 #[.agg #[.int .i64 R, .int .i64 C, .slice A l.length cap], .int .i64 i, .int .i64 j, .agg #[.int .i64 x, .int .i64 y]] w (PostB w 0 0 [] false) := by
  have HH := Lib.hid hh
  have HG := Lib.hid hg
  clear hh hg
  go_enter Try.func16, Try.ntmps16
  obtain ⟨v0, hv0, X0, X1, X2, B0, hz0⟩ := three_boxes w [.int .i64 R, .int .i64 C, .slice A l.length cap] 25 [.int .i64 x, .int .i64 y] 27 [.int .i64 0, .int .i64 0, .slice none 0 0] 25; have HV := Lib.hid hv0; have hx : w.heap.size + 1 + 1 < v0.heap.size := (by omega); have hz : w.heap.size + 1 < v0.heap.size := (by omega); have hy : w.heap.size < v0.heap.size := (by omega); have hb0 := B0.size; clear hv0 hz0; go_wp2_with fail; rewrite [show ((w.alloc (.cells ([.int .i64 R, .int .i64 C, .slice A l.length cap] : List Value).toArray 25)).alloc (.cells ([.int .i64 x, .int .i64 y] : List Value).toArray 27)).alloc (.cells ([.int .i64 0, .int .i64 0, .slice none 0 0] : List Value).toArray 25) = v0 from HV.out]; clear HV
  refine (spec_boHas _ _ _ _ l _ _ _ hn ((hr.below B0).mono B0.size)).mono ?_; rintro e w1 ⟨rfl, b1⟩
  rewrite [HH.out]
  replace X0 := X0.below b1 X0.lt; replace X1 := X1.below b1 X1.lt; replace X2 := X2.below b1 X2.lt; replace B0 := B0.trans (b1.mono B0.size); have hy := X0.lt; have hz := X1.lt; have hx := X2.lt; have hb0 := B0.size; clear b1
  have X1k0 : w1.cell? ⟨w.heap.size + 1, 0, none⟩ = some (.int .i64 x) := (X1.cell 0).trans rfl; have X1k1 : w1.cell? ⟨w.heap.size + 1, 1, none⟩ = some (.int .i64 y) := (X1.cell 1).trans rfl
  go_wp2_with fail
  refine (spec_paGood _ _ _).mono ?_; rintro e w2 ⟨rfl, b2⟩
  rewrite [HG.out]
  clear X1k0 X1k1
  replace X0 := X0.below b2 X0.lt; replace X1 := X1.below b2 X1.lt; replace X2 := X2.below b2 X2.lt; replace B0 := B0.trans (b2.mono B0.size); have hy := X0.lt; have hz := X1.lt; have hx := X2.lt; have hb0 := B0.size; clear b2
  have X2k0 : w2.cell? ⟨w.heap.size + 1 + 1, 0, none⟩ = some (.int .i64 0) := (X2.cell 0).trans rfl; have X2k1 : w2.cell? ⟨w.heap.size + 1 + 1, 1, none⟩ = some (.int .i64 0) := (X2.cell 1).trans rfl; have X2k2 : w2.cell? ⟨w.heap.size + 1 + 1, 2, none⟩ = some (.slice none 0 0) := (X2.cell 2).trans rfl
  have X2f0 := X2.frozen 0; have X2f1 := X2.frozen 1; have X2f2 := X2.frozen 2
  go_wp2
  refine bodyPost_ret (v := .tuple #[.agg #[.int .i64 0, .int .i64 0, .slice none 0 0], .bool false]) ?_ rfl ?_; (focus (simp [results, Try.results16, go_sem, *]; done))
  exact PostB.none_ (by (repeat' (first | (with_reducible exact Below.refl _ _) | (with_reducible assumption) | (with_reducible refine Below.alloc ?_ ?_ _) | (with_reducible refine Below.setCell ?_ ?_ _) | (with_reducible refine Below.drew ?_) | (with_reducible refine below_drewN ?_ _) | (with_reducible refine Below.trans ?_ (Below.mono (by assumption) ?_)) | (with_reducible exact Nat.le_refl _) | (simp; done) | omega | (simp at *; omega))))
theorem spec_PutCell_yes (R C : Int) (A : Option Addr) (cap : Nat) (l : List (Int × Int)) (i j x y : Int) (w : World) (hh : hasB R C l i j = true) (hg : good x y = true) (hn : l.length ≤ 1048576) (hr : Rd w w.heap.size A (flat l)) : Calls Try.prog 16 #[.agg #[.int .i64 R, .int .i64 C, .slice A l.length cap], .int .i64 i, .int .i64 j, .agg #[.int .i64 x, .int .i64 y]] w (PostB w R C (l.set (atI C i j) (x, y)) true) := by
  have HH := Lib.hid hh
  have HG := Lib.hid hg
  obtain ⟨hgb, hib⟩ := hasB_and hh
  obtain ⟨_, _, hlt, h90⟩ := at_bound hgb hib
  obtain ⟨m1, m2⟩ := wrap_at hgb hib
  obtain ⟨b, o, rfl, hbl, hc⟩ := hr (by rw [flat_length]; omega)
  have hr' : Rd w w.heap.size (some ⟨b, o, none⟩) (flat l) := fun _ => ⟨b, o, rfl, hbl, hc⟩
  clear hr hc hh hg hgb hib
  generalize atI C i j = n at *
  go_enter Try.func16, Try.ntmps16
  obtain ⟨v0, hv0, X0, X1, X2, B0, hz0⟩ := three_boxes w [.int .i64 R, .int .i64 C, .slice (some ⟨b, o, none⟩) l.length cap] 25 [.int .i64 x, .int .i64 y] 27 [.int .i64 0, .int .i64 0, .slice none 0 0] 25; have HV := Lib.hid hv0; have hx : w.heap.size + 1 + 1 < v0.heap.size := (by omega); have hz : w.heap.size + 1 < v0.heap.size := (by omega); have hy : w.heap.size < v0.heap.size := (by omega); have hb0 := B0.size; clear hv0 hz0; go_wp2_with fail; rewrite [show ((w.alloc (.cells ([.int .i64 R, .int .i64 C, .slice (some ⟨b, o, none⟩) l.length cap] : List Value).toArray 25)).alloc (.cells ([.int .i64 x, .int .i64 y] : List Value).toArray 27)).alloc (.cells ([.int .i64 0, .int .i64 0, .slice none 0 0] : List Value).toArray 25) = v0 from HV.out]; clear HV
  refine (spec_boHas _ _ _ _ l _ _ _ hn ((hr'.below B0).mono B0.size)).mono ?_; rintro e w1 ⟨rfl, b1⟩
  rewrite [HH.out]
  replace X0 := X0.below b1 X0.lt; replace X1 := X1.below b1 X1.lt; replace X2 := X2.below b1 X2.lt; replace B0 := B0.trans (b1.mono B0.size); have hy := X0.lt; have hz := X1.lt; have hx := X2.lt; have hb0 := B0.size; clear b1
  have X1k0 : w1.cell? ⟨w.heap.size + 1, 0, none⟩ = some (.int .i64 x) := (X1.cell 0).trans rfl; have X1k1 : w1.cell? ⟨w.heap.size + 1, 1, none⟩ = some (.int .i64 y) := (X1.cell 1).trans rfl
  go_wp2_with fail
  refine (spec_paGood _ _ _).mono ?_; rintro e w2 ⟨rfl, b2⟩
  rewrite [HG.out]
  clear X1k0 X1k1
  replace X0 := X0.below b2 X0.lt; replace X1 := X1.below b2 X1.lt; replace X2 := X2.below b2 X2.lt; replace B0 := B0.trans (b2.mono B0.size); have hy := X0.lt; have hz := X1.lt; have hx := X2.lt; have hb0 := B0.size; clear b2
  have X1k0 : w2.cell? ⟨w.heap.size + 1, 0, none⟩ = some (.int .i64 x) := (X1.cell 0).trans rfl; have X1k1 : w2.cell? ⟨w.heap.size + 1, 1, none⟩ = some (.int .i64 y) := (X1.cell 1).trans rfl
  have X0k0 : w2.cell? ⟨w.heap.size, 0, none⟩ = some (.int .i64 R) := (X0.cell 0).trans rfl; have X0k1 : w2.cell? ⟨w.heap.size, 1, none⟩ = some (.int .i64 C) := (X0.cell 1).trans rfl; have X0k2 : w2.cell? ⟨w.heap.size, 2, none⟩ = some (.slice (some ⟨b, o, none⟩) l.length cap) := (X0.cell 2).trans rfl
  go_wp2_with fail
  refine (spec_boWith _ _ _ _ _ l n _ _ _ hlt h90 ((hr'.below B0).mono B0.size)).mono ?_; rintro e w3 ⟨A3, c3, rfl, o3, n3, b3⟩
  clear X1k0 X1k1
  clear X0k0 X0k1 X0k2
  have ho := n3.mono hb0
  have hap : ∀ a, A3 = some a → w.heap.size + 1 + 1 ≠ a.block := fun a ha => by have h := n3 a ha; omega
  replace X0 := X0.below b3 X0.lt; replace X1 := X1.below b3 X1.lt; replace X2 := X2.below b3 X2.lt; replace B0 := B0.trans (b3.mono B0.size); have hy := X0.lt; have hz := X1.lt; have hx := X2.lt; have hb0 := B0.size; clear b3
  have X2k0 : w3.cell? ⟨w.heap.size + 1 + 1, 0, none⟩ = some (.int .i64 0) := (X2.cell 0).trans rfl; have X2k1 : w3.cell? ⟨w.heap.size + 1 + 1, 1, none⟩ = some (.int .i64 0) := (X2.cell 1).trans rfl; have X2k2 : w3.cell? ⟨w.heap.size + 1 + 1, 2, none⟩ = some (.slice none 0 0) := (X2.cell 2).trans rfl
  have X2f0 := X2.frozen 0; have X2f1 := X2.frozen 1; have X2f2 := X2.frozen 2
  go_wp2
  refine bodyPost_ret (v := .tuple #[.agg #[.int .i64 R, .int .i64 C, .slice A3 (l.set n (x, y)).length c3], .bool true]) ?_ rfl ?_; (focus (simp [results, Try.results16, go_sem, *]; done))
  exact PostB.mk (((o3.set_far _ _ hap).set_far _ _ hap).set_far _ _ hap) ho (by (repeat' (first | (with_reducible exact Below.refl _ _) | (with_reducible assumption) | (with_reducible refine Below.alloc ?_ ?_ _) | (with_reducible refine Below.setCell ?_ ?_ _) | (with_reducible refine Below.drew ?_) | (with_reducible refine below_drewN ?_ _) | (with_reducible refine Below.trans ?_ (Below.mono (by assumption) ?_)) | (with_reducible exact Nat.le_refl _) | (simp; done) | omega | (simp at *; omega))))
theorem putB_post {w w' : World} {R C : Int} {l : List (Int × Int)} {i j x y : Int} {e : Ending} {ok : Bool} (h : okPut R C l i j x y = ok) (hp : if ok then PostB w R C (l.set (atI C i j) (x, y)) true e w' else PostB w 0 0 [] false e w') :
    PostB w (selI (okPut R C l i j x y) R) (selI (okPut R C l i j x y) C) (putL R C l i j x y) (okPut R C l i j x y) e w' := by
  unfold putL
  rw [h]
  cases ok
  · exact hp
  · exact hp
theorem spec_PutCell (R C : Int) (A : Option Addr) (cap : Nat) (l : List (Int × Int)) (i j x y : Int) (w : World) (hn : l.length ≤ 1048576) (hr : Rd w w.heap.size A (flat l)) :
    Calls Try.prog 16 #[.agg #[.int .i64 R, .int .i64 C, .slice A l.length cap], .int .i64 i, .int .i64 j, .agg #[.int .i64 x, .int .i64 y]] w (PostB w (selI (okPut R C l i j x y) R) (selI (okPut R C l i j x y) C) (putL R C l i j x y) (okPut R C l i j x y)) := by
  rcases Bool.eq_false_or_eq_true (hasB R C l i j) with hh | hh
  · rcases Bool.eq_false_or_eq_true (good x y) with hg | hg
    · exact (spec_PutCell_yes R C A cap l i j x y w hh hg hn hr).mono fun e w' h => putB_post (ok := true) (by unfold okPut; rw [hh, hg]; rfl) h
    · exact (spec_PutCell_bad R C A cap l i j x y w hh hg hn hr).mono fun e w' h => putB_post (ok := false) (by unfold okPut; rw [hg, Bool.and_false]) h
  · exact (spec_PutCell_has R C A cap l i j x y w hh hn hr).mono fun e w' h => putB_post (ok := false) (by unfold okPut; rw [hh]; rfl) h
end Go.Proofs.Ytpfjbecpfdgnpaa
