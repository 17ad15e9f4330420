/- StackBoards of the program hands back cells with room for all of them. -/
import Derived.Test.YtpfjbecpfdgnpaaStack
namespace Go.Proofs.Ytpfjbecpfdgnpaa
open Go.ChangeShapes Go.WideShapes Go.ChangeAt Go.RowKit Go.Joins Go.Deep
set_option linter.unusedSimpArgs false
set_option linter.unusedVariables false
set_option maxRecDepth 100000
set_option maxHeartbeats 4000000
theorem room_of_row {w : World} {base : Nat} {e : TypeId} {size n cap : Nat} {A : Option Addr} {xs : List Value} (h : w.ownsRow base e size (.slice A n cap) n xs) : n ≤ cap := by
  rcases h.2 with ⟨h1, h2⟩ | ⟨g, cap', cur, h1, h2, h3, h4, h5, h6, h7⟩
  · cases h1; exact Nat.le_refl _
  · cases h1
    exact h4
def PostCR (w : World) (l : List (Int × Int)) (e : Ending) (w' : World) : Prop :=
  ∃ A' cap', e = .returned (.slice A' l.length cap') ∧ l.length ≤ cap' ∧ Own w' A' 27 (flat l) ∧ New w A' ∧ Below w.heap.size w w'
def PostBR (w : World) (R C : Int) (l : List (Int × Int)) (ok : Bool) (e : Ending) (w' : World) : Prop :=
  ∃ A' cap', e = .returned (.tuple #[.agg #[.int .i64 R, .int .i64 C, .slice A' l.length cap'], .bool ok]) ∧ l.length ≤ cap' ∧ Own w' A' 27 (flat l) ∧ New w A' ∧ Below w.heap.size w w'
theorem PostBR.mk {w w' : World} {R C : Int} {l : List (Int × Int)} {ok : Bool} {A' : Option Addr} {cap' : Nat} (hc : l.length ≤ cap') (o : Own w' A' 27 (flat l)) (n : New w A') (b : Below w.heap.size w w') : PostBR w R C l ok (.returned (.tuple #[.agg #[.int .i64 R, .int .i64 C, .slice A' l.length cap'], .bool ok])) w' :=
  ⟨A', cap', rfl, hc, o, n, b⟩
theorem PostB.room0 {w : World} {R C : Int} {ok : Bool} {e : Ending} {w' : World} (h : PostB w R C [] ok e w') : PostBR w R C [] ok e w' := by
  obtain ⟨A, c, h1, h2, h3, h4⟩ := h
  exact ⟨A, c, h1, Nat.zero_le _, h2, h3, h4⟩
theorem Concat_twoR (sb sc b o cap b' o' cap' : Nat) (l m : List (Int × Int)) (w : World) (hl : 0 < l.length) (hm : 0 < m.length) (hnl : l.length ≤ 90) (hnm : m.length ≤ 90)
    (hs : Whole w sb 23 [.slice (some ⟨b, o, none⟩) l.length cap, .slice (some ⟨b', o', none⟩) m.length cap'])
    (hr : Rd w w.heap.size (some ⟨b, o, none⟩) (flat l)) (hr' : Rd w w.heap.size (some ⟨b', o', none⟩) (flat m)) :
    Calls Try.prog 80 #[.slice (some ⟨sb, 0, none⟩) 2 sc] w (PostCR w (l ++ m)) := by
  obtain ⟨i0, hi, hz0, hz1, hz2⟩ := info_parts cellInfo
  have k0 : w.cell? ⟨sb, 0, none⟩ = some (.slice (some ⟨b, o, none⟩) l.length cap) := (hs.cell 0).trans rfl
  have k1 : w.cell? ⟨sb, 1, none⟩ = some (.slice (some ⟨b', o', none⟩) m.length cap') := (hs.cell 1).trans rfl
  go_enter Try.func80, Try.ntmps80
  go_wp2
  refine wp_loop_rounds 3 ?_
  rw [rounds_succ]
  go_wp2
  rw [rounds_succ]
  go_wp2
  rw [rounds_succ]
  go_wp2_with fail
  have hgr := Grow_nil (l.length + m.length) w (by omega) (by omega)
  rw [Int.natCast_add] at hgr
  refine hgr.mono ?_; rintro e w1 ⟨g1, c1, rfl, hown1, b1⟩
  clear hgr
  have hs1 := hs.below b1 hs.lt
  have k2 : w1.cell? ⟨sb, 0, none⟩ = some (.slice (some ⟨b, o, none⟩) l.length cap) := (hs1.cell 0).trans rfl
  have z1 := b1.size
  clear k0 k1
  go_wp2
  refine wp_loop_rounds 3 ?_
  rw [rounds_succ]
  go_wp2_with (first | (at_builtin; refine wpList_append_own _ rfl (.tmp 31) (.tmp 32) 23 rfl w.heap.size 27 i0 _ 2 16 Try.underlying23 hi hz0 hz1 hz2 rfl (by omega) _ 0 [] rfl hown1 ⟨b, o, none⟩ l.length cap (flat l) rfl (by rw [flat_length]; omega) (rd_news hr b1) (flat_one l) (by unfold maxLen; omega) (by omega) (by omega) ?_; intro v2 w2 hown2 hg2 _) | fail)
  have b2 : Below w.heap.size w w2 := row_below hown1 b1 z1 hg2
  have hs2 := hs1.grown hg2 (row_apart hown1 hs1 (by decide))
  rw [Nat.zero_add, List.nil_append] at hown2
  have k3 : w2.cell? ⟨sb, 1, none⟩ = some (.slice (some ⟨b', o', none⟩) m.length cap') := (hs2.cell 1).trans rfl
  have z2 := b2.size
  clear k2 hg2 hown1 hs1
  rw [rounds_succ]
  go_wp2_with (first | (at_builtin; refine wpList_append_own _ rfl (.tmp 31) (.tmp 32) 23 rfl w.heap.size 27 i0 _ 2 16 Try.underlying23 hi hz0 hz1 hz2 rfl (by omega) _ l.length (flat l) rfl hown2 ⟨b', o', none⟩ m.length cap' (flat m) rfl (by rw [flat_length]; omega) (rd_news hr' b2) (flat_one m) (by unfold maxLen; omega) (by omega) (by omega) ?_; intro v3 w3 hown3 hg3 _) | fail)
  have b3 : Below w.heap.size w w3 := row_below hown2 b2 z2 hg3
  rw [← flat_append] at hown3
  obtain ⟨A3, c3, rfl⟩ := slice_of_row hown3
  have ho := own_of_row hown3
  have hro := room_of_row hown3
  have hlen : l.length + m.length = (l ++ m).length := by rw [List.length_append]
  rw [hlen] at hro ⊢
  clear hg3 hown2 k3 hown3
  rw [rounds_succ]
  go_wp2
  go_returns
  exact ⟨_, _, rfl, hro, ho.1, ho.2, b3⟩
theorem impl_StackBoards_yesR (R C : Int) (A : Option Addr) (cap : Nat) (l : List (Int × Int)) (R' C' : Int) (A' : Option Addr) (cap' : Nat) (m : List (Int × Int)) (w : World) (hg : goodB R C l = true) (hg' : goodB R' C m = true) (hc : R + R' ≤ 10) (hn : l.length ≤ 1048576) (hr : Rd w w.heap.size A (flat l)) (hm : m.length ≤ 1048576) (hr' : Rd w w.heap.size A' (flat m)) : Calls Try.prog 18 #[.agg #[.int .i64 R, .int .i64 C, .slice A l.length cap], .agg #[.int .i64 R', .int .i64 C, .slice A' m.length cap']] w (PostBR w (R + R') C (l ++ m) true) := by
  obtain ⟨s1, s2, s3, s4⟩ := sizeB_iff.1 (goodB_iff.1 hg).1
  obtain ⟨t1, t2, _, _⟩ := sizeB_iff.1 (goodB_iff.1 hg').1
  obtain ⟨_, hl90, hlp⟩ := goodB_parts hg
  obtain ⟨_, hm90, hmp⟩ := goodB_parts hg'
  obtain ⟨b, o, rfl, hbl, hcc⟩ := hr (by rw [flat_length]; omega)
  obtain ⟨b', o', rfl, hbl', hcc'⟩ := hr' (by rw [flat_length]; omega)
  have hra : Rd w w.heap.size (some ⟨b, o, none⟩) (flat l) := fun _ => ⟨b, o, rfl, hbl, hcc⟩
  have hrb : Rd w w.heap.size (some ⟨b', o', none⟩) (flat m) := fun _ => ⟨b', o', rfl, hbl', hcc'⟩
  clear hr hr' hcc hcc'
  have m3 : IntKind.i64.wrap (R + R') = R + R' := IntWalk.i64_in (R + R') (by omega)
  have hcb : ¬ 10 < R + R' := by omega
  have HG := Lib.hid hg; have HG' := Lib.hid hg'; clear hg hg'
  go_enter Try.func18, Try.ntmps18
  obtain ⟨v0, hv0, X0, X1, X2, B0, hz0⟩ := three_boxes w [.int .i64 R, .int .i64 C, .slice (some ⟨b, o, none⟩) l.length cap] 25 [.int .i64 R', .int .i64 C, .slice (some ⟨b', o', none⟩) m.length cap'] 25 [.int .i64 0, .int .i64 0, .slice none 0 0] 25; have HV := Lib.hid hv0; have hx : w.heap.size + 1 + 1 < v0.heap.size := (by omega); have hz : w.heap.size + 1 < v0.heap.size := (by omega); have hy : w.heap.size < v0.heap.size := (by omega); have hb0 := B0.size; clear hv0 hz0; go_wp2_with fail; rewrite [show ((w.alloc (.cells ([.int .i64 R, .int .i64 C, .slice (some ⟨b, o, none⟩) l.length cap] : List Value).toArray 25)).alloc (.cells ([.int .i64 R', .int .i64 C, .slice (some ⟨b', o', none⟩) m.length cap'] : List Value).toArray 25)).alloc (.cells ([.int .i64 0, .int .i64 0, .slice none 0 0] : List Value).toArray 25) = v0 from HV.out]; clear HV
  refine (impl_IsBoard _ _ _ _ l _ hn ((hra.below B0).mono B0.size)).mono ?_; rintro e w1 ⟨rfl, b1⟩; rewrite [HG.out]; replace X0 := X0.below b1 X0.lt; replace X1 := X1.below b1 X1.lt; replace X2 := X2.below b1 X2.lt; replace B0 := B0.trans (b1.mono B0.size); have hy := X0.lt; have hz := X1.lt; have hx := X2.lt; have hb0 := B0.size; clear b1; have X1k0 : w1.cell? ⟨w.heap.size + 1, 0, none⟩ = some (.int .i64 R') := (X1.cell 0).trans rfl; have X1k1 : w1.cell? ⟨w.heap.size + 1, 1, none⟩ = some (.int .i64 C) := (X1.cell 1).trans rfl; have X1k2 : w1.cell? ⟨w.heap.size + 1, 2, none⟩ = some (.slice (some ⟨b', o', none⟩) m.length cap') := (X1.cell 2).trans rfl; go_wp2_with fail; refine (impl_IsBoard _ _ _ _ m _ hm ((hrb.below B0).mono B0.size)).mono ?_; rintro e w2 ⟨rfl, b2⟩; rewrite [HG'.out]; clear X1k0 X1k1 X1k2; replace X0 := X0.below b2 X0.lt; replace X1 := X1.below b2 X1.lt; replace X2 := X2.below b2 X2.lt; replace B0 := B0.trans (b2.mono B0.size); have hy := X0.lt; have hz := X1.lt; have hx := X2.lt; have hb0 := B0.size; clear b2; have X1k0 : w2.cell? ⟨w.heap.size + 1, 0, none⟩ = some (.int .i64 R') := (X1.cell 0).trans rfl; have X1k1 : w2.cell? ⟨w.heap.size + 1, 1, none⟩ = some (.int .i64 C) := (X1.cell 1).trans rfl; have X1k2 : w2.cell? ⟨w.heap.size + 1, 2, none⟩ = some (.slice (some ⟨b', o', none⟩) m.length cap') := (X1.cell 2).trans rfl; have X0k0 : w2.cell? ⟨w.heap.size, 0, none⟩ = some (.int .i64 R) := (X0.cell 0).trans rfl; have X0k1 : w2.cell? ⟨w.heap.size, 1, none⟩ = some (.int .i64 C) := (X0.cell 1).trans rfl; have X0k2 : w2.cell? ⟨w.heap.size, 2, none⟩ = some (.slice (some ⟨b, o, none⟩) l.length cap) := (X0.cell 2).trans rfl
  go_wp2_with fail
  have hl1 : w.heap.size < w.heap.size + 1 + 1 := (by omega); have hl2 : w.heap.size + 1 < w.heap.size + 1 + 1 := (by omega); have KS := Lib.hid (fun (w' : World) (h : Below (w.heap.size + 1 + 1) w2 w') => (⟨(h.cell (p := ⟨w.heap.size, 0, none⟩) hl1).trans X0k0, (h.cell (p := ⟨w.heap.size, 1, none⟩) hl1).trans X0k1, (h.cell (p := ⟨w.heap.size, 2, none⟩) hl1).trans X0k2, (h.cell (p := ⟨w.heap.size + 1, 0, none⟩) hl2).trans X1k0, (h.cell (p := ⟨w.heap.size + 1, 1, none⟩) hl2).trans X1k1, (h.cell (p := ⟨w.heap.size + 1, 2, none⟩) hl2).trans X1k2⟩ : w'.cell? ⟨w.heap.size, 0, none⟩ = some (.int .i64 R) ∧ w'.cell? ⟨w.heap.size, 1, none⟩ = some (.int .i64 C) ∧ w'.cell? ⟨w.heap.size, 2, none⟩ = some (.slice (some ⟨b, o, none⟩) l.length cap) ∧ w'.cell? ⟨w.heap.size + 1, 0, none⟩ = some (.int .i64 R') ∧ w'.cell? ⟨w.heap.size + 1, 1, none⟩ = some (.int .i64 C) ∧ w'.cell? ⟨w.heap.size + 1, 2, none⟩ = some (.slice (some ⟨b', o', none⟩) m.length cap')))
  go_region_held3 (fun w' => w'.cell? ⟨w.heap.size, 0, none⟩ = some (.int .i64 R) ∧ w'.cell? ⟨w.heap.size, 1, none⟩ = some (.int .i64 C) ∧ w'.cell? ⟨w.heap.size, 2, none⟩ = some (.slice (some ⟨b, o, none⟩) l.length cap) ∧ w'.cell? ⟨w.heap.size + 1, 0, none⟩ = some (.int .i64 R') ∧ w'.cell? ⟨w.heap.size + 1, 1, none⟩ = some (.int .i64 C) ∧ w'.cell? ⟨w.heap.size + 1, 2, none⟩ = some (.slice (some ⟨b', o', none⟩) m.length cap')) (first | exact KS.out _ (by (repeat' (first | (with_reducible exact Below.refl _ _) | (with_reducible assumption) | (with_reducible refine Below.alloc ?_ ?_ _) | (with_reducible refine Below.setCell ?_ ?_ _) | (with_reducible refine Below.drew ?_) | (with_reducible refine below_drewN ?_ _) | (with_reducible refine Below.trans ?_ (Below.mono (by assumption) ?_)) | (with_reducible exact Nat.le_refl _) | (simp; done) | omega | (simp at *; omega)))))
    ((first
      | (go_at_call 80; have hcl := Concat_twoR w2.heap.size 2 b o cap b' o' cap' l m (w2.drew.alloc (.cells #[.slice (some ⟨b, o, none⟩) l.length cap, .slice (some ⟨b', o', none⟩) m.length cap'] 23)) hlp hmp hl90 hm90 (heap_alloc_new w2.drew _) ((hra.below (B0.trans ((((Below.refl _ _).drew).alloc (Nat.le_refl _) _).mono hb0))).mono (Nat.le_trans hb0 (by go_size))) ((hrb.below (B0.trans ((((Below.refl _ _).drew).alloc (Nat.le_refl _) _).mono hb0))).mono (Nat.le_trans hb0 (by go_size))); refine hcl.mono ?_; rintro e w5 ⟨A5, c5, rfl, hro5, o5, n5, b5⟩; have b5' : Below w2.heap.size w2 w5 := (((Below.refl _ _).drew).alloc (Nat.le_refl _) _).trans (b5.mono (by go_size)); have n5' : New w2 A5 := n5.mono (by go_size); have X2 := X2.below b5' hx; have s5' := b5'.size; have X2k0 : w5.cell? ⟨w.heap.size + 1 + 1, 0, none⟩ = some (.int .i64 0) := (X2.cell 0).trans rfl; have X2k1 : w5.cell? ⟨w.heap.size + 1 + 1, 1, none⟩ = some (.int .i64 0) := (X2.cell 1).trans rfl; have X2k2 : w5.cell? ⟨w.heap.size + 1 + 1, 2, none⟩ = some (.slice none 0 0) := (X2.cell 2).trans rfl; have X2f0 := X2.frozen 0; have X2f1 := X2.frozen 1; have X2f2 := X2.frozen 2; clear hcl b5 n5)
      | fail))
  have B5 : Below w.heap.size w w5 := B0.trans (b5'.mono hb0)
  have hap : ∀ a : Addr, A5 = some a → w.heap.size + 1 + 1 ≠ a.block := fun a ha => by have h := n5' a ha; omega
  go_wp2
  refine bodyPost_ret (v := .tuple #[.agg #[.int .i64 (R + R'), .int .i64 C, .slice A5 (l ++ m).length c5], .bool true]) ?_ rfl ?_; (focus (simp [results, Try.results18, go_sem, *]; done))
  exact PostBR.mk hro5 (((o5.set_far _ _ hap).set_far _ _ hap).set_far _ _ hap) (n5'.mono hb0) (by (repeat' (first | (with_reducible exact Below.refl _ _) | (with_reducible assumption) | (with_reducible refine Below.alloc ?_ ?_ _) | (with_reducible refine Below.setCell ?_ ?_ _) | (with_reducible refine Below.drew ?_) | (with_reducible refine below_drewN ?_ _) | (with_reducible refine Below.trans ?_ (Below.mono (by assumption) ?_)) | (with_reducible exact Nat.le_refl _) | (simp; done) | omega | (simp at *; omega))))
theorem stackB_postR {w w' : World} {R C R' C' : Int} {l m : List (Int × Int)} {e : Ending} {ok : Bool} (h : okStack R C l R' C' m = ok) (hp : if ok then PostBR w (R + R') C (l ++ m) true e w' else PostB w 0 0 [] false e w') :
    PostBR w (selI (okStack R C l R' C' m) (R + R')) (selI (okStack R C l R' C' m) C) (stackL R C l R' C' m) (okStack R C l R' C' m) e w' := by
  unfold stackL
  rw [h]
  cases ok
  · exact PostB.room0 hp
  · exact hp
theorem impl_StackBoardsR (R C : Int) (A : Option Addr) (cap : Nat) (l : List (Int × Int)) (R' C' : Int) (A' : Option Addr) (cap' : Nat) (m : List (Int × Int)) (w : World) (hn : l.length ≤ 1048576) (hr : Rd w w.heap.size A (flat l)) (hm : m.length ≤ 1048576) (hr' : Rd w w.heap.size A' (flat m)) :
    Calls Try.prog 18 #[.agg #[.int .i64 R, .int .i64 C, .slice A l.length cap], .agg #[.int .i64 R', .int .i64 C', .slice A' m.length cap']] w (PostBR w (selI (okStack R C l R' C' m) (R + R')) (selI (okStack R C l R' C' m) C) (stackL R C l R' C' m) (okStack R C l R' C' m)) := by
  rcases Bool.eq_false_or_eq_true (goodB R C l) with hg | hg
  · rcases Bool.eq_false_or_eq_true (goodB R' C' m) with hg' | hg'
    · by_cases hc : C = C'
      · subst hc
        by_cases hs : R + R' ≤ 10
        · exact (impl_StackBoards_yesR R C A cap l R' C A' cap' m w hg hg' hs hn hr hm hr').mono fun e w' h => stackB_postR (ok := true) (by unfold okStack; rw [hg, hg']; simp [hs]) h
        · exact (impl_StackBoards_tall R C A cap l R' C A' cap' m w hg hg' hs hn hr hm hr').mono fun e w' h => stackB_postR (ok := false) (by unfold okStack; rw [hg, hg']; simp; omega) h
      · exact (impl_StackBoards_cols R C A cap l R' C' A' cap' m w hg hg' hc hn hr hm hr').mono fun e w' h => stackB_postR (ok := false) (by unfold okStack; rw [hg, hg']; simp [hc]) h
    · exact (impl_StackBoards_bad2 R C A cap l R' C' A' cap' m w hg hg' hn hr hm hr').mono fun e w' h => stackB_postR (ok := false) (by unfold okStack; rw [hg', Bool.and_false]; rfl) h
  · exact (impl_StackBoards_bad1 R C A cap l R' C' A' cap' m w hg hn hr hm hr').mono fun e w' h => stackB_postR (ok := false) (by unfold okStack; rw [hg]; rfl) h
end Go.Proofs.Ytpfjbecpfdgnpaa
