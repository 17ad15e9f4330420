/- AlignGears, the program's. -/
import Derived.Test.YtdpgbgniejlilaaCloneB
import Derived.Test.YtdpgbgniejlilaaAlign
namespace Go.Proofs.Ytdpgbgniejlilaa
open Go.ChangeShapes Go.WideShapes Go.ChangeAt Go.RowKit Go.Joins Go.Deep
set_option linter.unusedSimpArgs false
set_option linter.unusedVariables false
set_option maxRecDepth 100000
set_option maxHeartbeats 8000000
theorem gs_eq {r c t : Nat} {l : List (Int × Int)} (hG : Geo r c l.length) (ht : t < (srtG c l).length) : ((srtG c l)[t]).filter (gearK l) = (List.range l.length).filter fun y => gearK l y && decide (nmb (c : Int) l y = (t : Int)) := by
  have hA := groups_all hG
  have ht' : t < (GG (c : Int) l).length := by unfold srtG at ht; rwa [List.length_map] at ht
  have e : (srtG c l)[t] = sortN l.length (GG (c : Int) l)[t] := by simp only [srtG, List.getElem_map]
  rw [e]
  unfold sortN
  rw [List.filter_filter]
  refine List.filter_congr fun y _ => ?_
  congr 1
  rw [Bool.eq_iff_iff, List.contains_iff_mem, decide_eq_true_eq]
  have h := num_is (j := y) _ 0 t hA.apart (List.getElem?_eq_getElem ht')
  rw [Nat.zero_add] at h
  exact h.symm
theorem alV_eq {r c t : Nat} {l : List (Int × Int)} (hG : Geo r c l.length) (ht : t < (srtG c l).length) {j : Nat} (hj : j < (((srtG c l)[t]).filter (gearK l)).length) :
    ((((srtG c l)[t]).filter (gearK l))[j] < l.length) ∧ ((((srtG c l)[t]).filter (gearK l)).getD 0 0 < l.length) ∧ (l.getD ((((srtG c l)[t]).filter (gearK l)).getD 0 0) (0, 0)).1 = 6 ∧
      alV (c : Int) l (((srtG c l)[t]).filter (gearK l))[j] = ((6 : Int), (l.getD ((((srtG c l)[t]).filter (gearK l)).getD 0 0) (0, 0)).2) := by
  have hpos : 0 < (((srtG c l)[t]).filter (gearK l)).length := by omega
  have hm := List.getElem_mem hj
  have h0 := List.getElem_mem hpos
  have e := gs_eq hG ht
  have hd : (((srtG c l)[t]).filter (gearK l)).getD 0 0 = (((srtG c l)[t]).filter (gearK l))[0] := by rw [List.getD_eq_getElem?_getD, List.getElem?_eq_getElem hpos]; rfl
  have hh : fstG (c : Int) l (t : Int) l.length = some (((srtG c l)[t]).filter (gearK l))[0] := by
    unfold fstG
    rw [← e, List.head?_eq_getElem?, List.getElem?_eq_getElem hpos]
  rw [hd]
  generalize (((srtG c l)[t]).filter (gearK l))[0] = y0 at *
  generalize (((srtG c l)[t]).filter (gearK l))[j] = y at *
  rw [e, List.mem_filter, List.mem_range, Bool.and_eq_true, decide_eq_true_eq] at hm h0
  have k0 : (l.getD y0 (0, 0)).1 = 6 := by have := h0.2.1; unfold gearK at this; simpa using this
  have k1 : (l.getD y (0, 0)).1 = 6 := by have := hm.2.1; unfold gearK at this; simpa using this
  refine ⟨hm.1, h0.1, k0, ?_⟩
  unfold alV stAt
  rw [hm.2.2, hh, k1]
def doneG (c : Nat) (l : List (Int × Int)) (t : Nat) (x : Nat) : Bool := gearK l x && ((srtG c l).take t).flatten.contains x
def doneJ (c : Nat) (l : List (Int × Int)) (t j : Nat) (gs : List Nat) (x : Nat) : Bool := doneG c l t x || (gs.take j).contains x
theorem done_start {c t : Nat} {l : List (Int × Int)} {gs : List Nat} {v : Nat → Int × Int} : mixS l v (doneJ c l t 0 gs) = mixS l v (doneG c l t) :=
  mixS_congr fun x _ => by simp [doneJ]
theorem done_step {c t j : Nat} {l : List (Int × Int)} {gs : List Nat} {v : Nat → Int × Int} (hj : j < gs.length) (hx : gs[j] < l.length) : (mixS l v (doneJ c l t j gs)).set gs[j] (v gs[j]) = mixS l v (doneJ c l t (j + 1) gs) := by
  refine mixS_set hx fun x _ => ?_
  unfold doneJ
  rw [List.take_succ_eq_append_getElem hj, List.contains_eq_any_beq, List.contains_eq_any_beq, List.any_append, Bool.or_assoc]
  simp [eq_comm]
theorem done_all {c t : Nat} {l : List (Int × Int)} {v : Nat → Int × Int} (ht : t < (srtG c l).length) : mixS l v (doneJ c l t (((srtG c l)[t]).filter (gearK l)).length (((srtG c l)[t]).filter (gearK l))) = mixS l v (doneG c l (t + 1)) := by
  refine mixS_congr fun x _ => ?_
  unfold doneJ doneG
  rw [List.take_length, List.take_succ_eq_append_getElem ht, flatten_snoc, Bool.eq_iff_iff]
  simp only [Bool.or_eq_true, Bool.and_eq_true, List.contains_iff_mem, List.mem_append, List.mem_filter]
  constructor
  · rintro (⟨a, b⟩ | ⟨a, b⟩)
    · exact ⟨a, .inl b⟩
    · exact ⟨b, .inr a⟩
  · rintro ⟨a, b | b⟩
    · exact .inl ⟨a, b⟩
    · exact .inr ⟨b, a⟩
theorem done_end {r c : Nat} {l : List (Int × Int)} {v : Nat → Int × Int} (hG : Geo r c l.length) : mixS l v (doneG c l (srtG c l).length) = mixS l v (gearK l) := by
  refine mixS_congr fun x hx => ?_
  unfold doneG
  rw [List.take_length, Bool.eq_iff_iff, Bool.and_eq_true, List.contains_iff_mem]
  refine ⟨fun h => h.1, fun h => ⟨h, ?_⟩⟩
  have hA := groups_all hG
  have hJ : J l x = true := by
    unfold gearK at h
    rw [decide_eq_true_eq] at h
    unfold J
    rw [h]
    rfl
  obtain ⟨g, hg, hxg⟩ := List.mem_flatten.1 (hA.all x hx hJ)
  exact List.mem_flatten.2 ⟨sortN l.length g, List.mem_map.2 ⟨g, hg, rfl⟩, mem_sortN.2 ⟨hx, hxg⟩⟩
theorem doneG_zero {c : Nat} {l : List (Int × Int)} {v : Nat → Int × Int} : mixS l v (doneG c l 0) = l := by
  rw [show mixS l v (doneG c l 0) = mixS l v (fun _ => false) from mixS_congr fun x _ => by simp [doneG]]
  exact mixS_none
theorem LRow.setTwo {w : World} {base g j j' : Nat} {v u u' : Value} {L : List (List Nat)} (h : LRow w base v L) (hg : g < base) : LRow ((w.setCell ⟨g, j, none⟩ u).setCell ⟨g, j', none⟩ u') base v L := (h.setCell hg).setCell hg
theorem alB_post {w w' : World} {R C : Int} {l : List (Int × Int)} {e : Ending} {ok : Bool} (h : goodB R C l = ok) (hp : if ok then PostB w R C (alignL C l) true e w' else PostB w 0 0 [] false e w') :
    PostB w (selI (goodB R C l) R) (selI (goodB R C l) C) (alignB R C l) (goodB R C l) e w' := by
  unfold alignB
  rw [h]
  cases ok
  · exact hp
  · exact hp
theorem impl_AlignGears_yes (r c : Nat) (A : Option Addr) (cap : Nat) (l : List (Int × Int)) (w : World) (hG : Geo r c l.length) (hg : goodB (r : Int) (c : Int) l = true) (hn : l.length ≤ 1048576) (hr : Rd w w.heap.size A (flat l)) :
    Calls Try.prog 18 #[.agg #[.int .i64 (r : Int), .int .i64 (c : Int), .slice A l.length cap]] w (PostB w (r : Int) (c : Int) (alignL (c : Int) l) true) := by
  have hpos := (goodB_parts hg).2.2
  have HG := Lib.hid hg
  have n90 := hG.n90
  obtain ⟨b, o, rfl, hbl, hc⟩ := hr (by rw [flat_length]; omega)
  have hr' : Rd w w.heap.size (some ⟨b, o, none⟩) (flat l) := fun _ => ⟨b, o, rfl, hbl, hc⟩
  have hLn := srtG_len c l
  have HAl := Lib.hid (fun t (ht : t < (srtG c l).length) j (hj : j < (((srtG c l)[t]).filter (gearK l)).length) => alV_eq hG ht hj)
  have HLt := Lib.hid (fun t (ht : t < (srtG c l).length) => (⟨srtG_cell c l t ht, fun x hx => by
    have e : (srtG c l)[t] = sortN l.length ((GG (c : Int) l)[t]'(by unfold srtG at ht; rwa [List.length_map] at ht)) := by simp only [srtG, List.getElem_map]
    rw [e, mem_sortN] at hx
    exact hx.1⟩ : (srtG c l)[t].length ≤ l.length ∧ ∀ x ∈ (srtG c l)[t], x < l.length))
  unfold alignL
  rw [← done_end (c := c) hG]
  clear hg hr
  go_enter Try.func18, Try.ntmps18
  obtain ⟨v0, hv0, X0, X1, B0, hz0⟩ := two_boxes w [.int .i64 (r : Int), .int .i64 (c : Int), .slice (some ⟨b, o, none⟩) l.length cap] 30 [.int .i64 0, .int .i64 0, .slice none 0 0] 30; have HV := Lib.hid hv0; have hz : w.heap.size + 1 < v0.heap.size := (by omega); have hy : w.heap.size < v0.heap.size := (by omega); have hb0 := B0.size; clear hv0 hz0; go_wp2_with fail; rewrite [show (w.alloc (.cells ([.int .i64 (r : Int), .int .i64 (c : Int), .slice (some ⟨b, o, none⟩) l.length cap] : List Value).toArray 30)).alloc (.cells ([.int .i64 0, .int .i64 0, .slice none 0 0] : List Value).toArray 30) = v0 from HV.out]; clear HV
  refine (impl_IsBoard _ _ _ _ l _ hn ((hr'.below B0).mono B0.size)).mono ?_; rintro e w1 ⟨rfl, b1⟩
  rewrite [HG.out]
  replace X0 := X0.below b1 X0.lt; replace X1 := X1.below b1 X1.lt; replace B0 := B0.trans (b1.mono B0.size); have hy := X0.lt; have hz := X1.lt; have hb0 := B0.size; clear b1
  have X0k0 : w1.cell? ⟨w.heap.size, 0, none⟩ = some (.int .i64 (r : Int)) := (X0.cell 0).trans rfl; have X0k1 : w1.cell? ⟨w.heap.size, 1, none⟩ = some (.int .i64 (c : Int)) := (X0.cell 1).trans rfl; have X0k2 : w1.cell? ⟨w.heap.size, 2, none⟩ = some (.slice (some ⟨b, o, none⟩) l.length cap) := (X0.cell 2).trans rfl
  go_wp2_with fail
  refine (impl_cloneBoard (r : Int) (c : Int) b o cap l _ hn ((hr'.below B0).mono B0.size)).mono ?_
  rintro e w2 ⟨A5, c5, rfl, o5, n5, b2⟩
  clear X0k0 X0k1 X0k2
  obtain ⟨g5, rest5, rfl, X7⟩ := o5 (by rw [flat_length]; omega)
  have h5 : w.heap.size + 1 < g5 := Nat.lt_of_lt_of_le hz (n5 _ rfl)
  clear n5 o5
  replace X0 := X0.below b2 X0.lt; replace X1 := X1.below b2 X1.lt; replace B0 := B0.trans (b2.mono B0.size); have hy := X0.lt; have hz := X1.lt; have hb0 := B0.size; clear b2
  go_upto_region 4 with (fail)
  obtain ⟨v4, hv4⟩ : ∃ v4, v4 = w2.alloc (.cells #[.int .i64 (r : Int), .int .i64 (c : Int), .slice (some ⟨g5, 0, none⟩) l.length c5] 30) := ⟨_, rfl⟩
  have X8 : Whole v4 w2.heap.size 30 [.int .i64 (r : Int), .int .i64 (c : Int), .slice (some ⟨g5, 0, none⟩) l.length c5] := by rw [hv4]; exact heap_alloc_new _ _
  have b4 : Below w2.heap.size w2 v4 := by rw [hv4]; exact (Below.refl _ _).alloc (Nat.le_refl _) _
  rewrite [← hv4]
  clear hv4
  have h8w : w.heap.size + 1 < w2.heap.size := hz
  have h58 : g5 < w2.heap.size := X7.lt
  replace X7 := X7.below b4 X7.lt
  replace X0 := X0.below b4 X0.lt; replace X1 := X1.below b4 X1.lt; replace B0 := B0.trans (b4.mono B0.size); have hy := X0.lt; have hz := X1.lt; have hb0 := B0.size; clear b4
  have h8l := X8.lt
  generalize w2.heap.size = g8 at *
  have h58n : g8 ≠ g5 := by omega
  have X0k0 : v4.cell? ⟨w.heap.size, 0, none⟩ = some (.int .i64 (r : Int)) := (X0.cell 0).trans rfl; have X0k1 : v4.cell? ⟨w.heap.size, 1, none⟩ = some (.int .i64 (c : Int)) := (X0.cell 1).trans rfl; have X0k2 : v4.cell? ⟨w.heap.size, 2, none⟩ = some (.slice (some ⟨b, o, none⟩) l.length cap) := (X0.cell 2).trans rfl
  go_wp2_with fail
  refine (impl_groupsOf r c _ cap l _ hG ((hr'.below B0).mono B0.size)).mono ?_
  rintro e w3 ⟨v, rfl, hL0, b3⟩
  have hL : LRow w3 v4.heap.size v (srtG c l) := hL0
  clear hL0
  have h5' : g5 < v4.heap.size := X7.lt
  have h8' : g8 < v4.heap.size := X8.lt
  replace X7 := X7.below b3 X7.lt
  replace X8 := X8.below b3 X8.lt
  clear X0k0 X0k1 X0k2
  replace X0 := X0.below b3 X0.lt; replace X1 := X1.below b3 X1.lt; replace B0 := B0.trans (b3.mono B0.size); have hy := X0.lt; have hz := X1.lt; have hb0 := B0.size; clear b3
  obtain ⟨A3, c3, rfl⟩ := hL.shape
  rw [← doneG_zero (c := c) (l := l) (v := alV (c : Int) l)] at X7
  generalize v4.heap.size = base at *
  go_wp2_with fail
  go_loopw [19] (fun t wr => ∃ k : Nat, t = .int .i64 k ∧ k ≤ (srtG c l).length ∧ Whole wr w.heap.size 30 [.int .i64 (r : Int), .int .i64 (c : Int), .slice (some ⟨b, o, none⟩) l.length cap] ∧ Whole wr (w.heap.size + 1) 30 [.int .i64 0, .int .i64 0, .slice none 0 0] ∧ Whole wr g8 30 [.int .i64 (r : Int), .int .i64 (c : Int), .slice (some ⟨g5, 0, none⟩) l.length c5] ∧ Whole wr g5 34 (flat (mixS l (alV (c : Int) l) (doneG c l k)) ++ rest5) ∧ LRow wr base (.slice A3 (srtG c l).length c3) (srtG c l) ∧ Below w.heap.size w wr) (fun t _ => (srtG c l).length - (intOf t).toNat)
  case atStart => exact ⟨0, rfl, Nat.zero_le _, X0, X1, X8, X7, hL, B0⟩
  case round =>
    clear X0 X1 X8 X7 hL B0 hy hz hb0
    obtain ⟨k, rfl, hk, X0, X1, X8, X7, hL, hb⟩ := hrel
    by_cases hlt : k < (srtG c l).length
    · obtain ⟨go, cap0, A4, c4, e4, hh, ho4, hb4, hgo⟩ := hL.at_ hlt
      have eA : A3 = some ⟨go, 0, none⟩ := by injection e4
      subst eA
      clear e4
      obtain ⟨hqn, hqx⟩ := HLt.out k hlt
      have hs := hb.size
      have X0k0 : wr.cell? ⟨w.heap.size, 0, none⟩ = some (.int .i64 (r : Int)) := (X0.cell 0).trans rfl; have X0k1 : wr.cell? ⟨w.heap.size, 1, none⟩ = some (.int .i64 (c : Int)) := (X0.cell 1).trans rfl; have X0k2 : wr.cell? ⟨w.heap.size, 2, none⟩ = some (.slice (some ⟨b, o, none⟩) l.length cap) := (X0.cell 2).trans rfl
      go_wp2_with fail
      refine (impl_gearsAmongN (r : Int) (c : Int) _ cap l A4 c4 (srtG c l)[k] _ ((hr'.below hb).mono hs) (by omega) hqx ho4.rd).mono ?_
      rintro e w4 ⟨A6, c6, rfl, o6, n6, b4⟩
      clear X0k0 X0k1 X0k2
      have n6' : ∀ a, A6 = some a → wr.heap.size ≤ a.block := n6
      have h7 := X7.lt
      replace X0 := X0.below b4 X0.lt
      replace X1 := X1.below b4 X1.lt
      replace X8 := X8.below b4 X8.lt
      replace X7 := X7.below b4 X7.lt
      replace hL := hL.keep b4
      replace hb := hb.trans (b4.mono hs)
      clear b4 hh ho4 hb4 hgo n6 hs
      have hgl : (((srtG c l)[k]).filter (gearK l)).length ≤ 1048576 := by have := List.length_filter_le (gearK l) (srtG c l)[k]; omega
      have HA1 := Lib.hid (fun j hj => HAl.out k hlt j hj)
      have HS1 := Lib.hid (fun j (hj : j < (((srtG c l)[k]).filter (gearK l)).length) (hx : (((srtG c l)[k]).filter (gearK l))[j] < l.length) => done_step (c := c) (t := k) (v := alV (c : Int) l) hj hx)
      have HD := Lib.hid (done_all (v := alV (c : Int) l) hlt)
      rw [← done_start (c := c) (t := k) (gs := ((srtG c l)[k]).filter (gearK l))] at X7
      generalize ((srtG c l)[k]).filter (gearK l) = gs at *
      have htop : g5 < wr.heap.size := h7
      generalize wr.heap.size = top at *
      go_wp2_with fail
      go_loopw [28] (fun t wr => ∃ j : Nat, t = .int .i64 j ∧ j ≤ gs.length ∧ Whole wr w.heap.size 30 [.int .i64 (r : Int), .int .i64 (c : Int), .slice (some ⟨b, o, none⟩) l.length cap] ∧ Whole wr (w.heap.size + 1) 30 [.int .i64 0, .int .i64 0, .slice none 0 0] ∧ Whole wr g8 30 [.int .i64 (r : Int), .int .i64 (c : Int), .slice (some ⟨g5, 0, none⟩) l.length c5] ∧ Whole wr g5 34 (flat (mixS l (alV (c : Int) l) (doneJ c l k j gs)) ++ rest5) ∧ Own wr A6 3 (ints (nI gs)) ∧ LRow wr base (.slice (some ⟨go, 0, none⟩) (srtG c l).length c3) (srtG c l) ∧ Below w.heap.size w wr) (fun t _ => gs.length - (intOf t).toNat)
      case atStart => exact ⟨0, rfl, Nat.zero_le _, X0, X1, X8, X7, o6, hL, hb⟩
      case round =>
        clear X0 X1 X8 X7 hL hb o6
        obtain ⟨j, rfl, hj, X0, X1, X8, X7, o6, hL, hb⟩ := hrel
        by_cases hjl : j < gs.length
        · obtain ⟨hyl, hy0, hk6, hal⟩ := HA1.out j hjl
          have hg0 : gs.getD 0 0 = gs[0] := by rw [List.getD_eq_getElem?_getD, List.getElem?_eq_getElem (show 0 < gs.length by omega)]; rfl
          rw [hg0] at hy0 hk6 hal
          clear hg0
          obtain ⟨g4, rest4, rfl, X4⟩ := o6 (by rw [ints_length, nI_length]; omega)
          have h4 : top ≤ g4 := n6' _ rfl
          have hcj := row_num X4 hjl
          have hc0' := row_num X4 (show 0 < gs.length by omega)
          have hstep := HS1.out j hjl hyl
          rw [hal] at hstep
          have hTl : gs[j] < (mixS l (alV (c : Int) l) (doneJ c l k j gs)).length := by rw [mixS_len]; exact hyl
          have hget : l.getD gs[0] (0, 0) = l[gs[0]] := by rw [List.getD_eq_getElem?_getD, List.getElem?_eq_getElem hy0]; rfl
          rw [hget] at hk6 hstep
          have HSet := flat_set (mixS l (alV (c : Int) l) (doneJ c l k j gs)) gs[j] 6 l[gs[0]].2 hTl rest5
          rw [hstep] at HSet
          have HSet' := Lib.hid HSet
          obtain ⟨hd0, hd1⟩ := cell_at2 hb hbl hc hy0
          rw [hk6] at hd0
          have q0 : ∃ u, wr.cell? ⟨g5, gs[j] * 2, none⟩ = some u := ⟨_, by rw [X7.cell, List.getElem?_append_left (by rw [flat_length]; omega)]; exact (flat_at _ gs[j] hTl).1⟩
          have q1 : ∃ u, wr.cell? ⟨g5, gs[j] * 2 + 1, none⟩ = some u := ⟨_, by rw [X7.cell, List.getElem?_append_left (by rw [flat_length]; omega)]; exact (flat_at _ gs[j] hTl).2⟩
          obtain ⟨u0, q0⟩ := q0
          obtain ⟨u1, q1⟩ := q1
          have f0 := X7.frozen (gs[j] * 2)
          have f1 := X7.frozen (gs[j] * 2 + 1)
          have k82 : wr.cell? ⟨g8, 2, none⟩ = some (.slice (some ⟨g5, 0, none⟩) l.length c5) := (X8.cell 2).trans rfl
          have k2 : wr.cell? ⟨w.heap.size, 2, none⟩ = some (.slice (some ⟨b, o, none⟩) l.length cap) := (X0.cell 2).trans rfl
          clear hal hstep hTl hget hk6 HSet
          generalize l[gs[0]].2 = st at *
          generalize gs[0] = y0 at *
          generalize gs[j] = y at *
          clear HA1 HS1 HD HAl HLt
          generalize hng : gs.length = ng at *
          clear hng
          have hgb : b ≠ g5 := by omega
          have KS := Lib.hid (fun (w' : World) (h : Below wr.heap.size wr w') => (⟨(h.cell (p := ⟨w.heap.size, 2, none⟩) X0.lt).trans k2, (h.cell (p := ⟨g4, 0, none⟩) X4.lt).trans hc0', (h.cell (p := ⟨b, o + y0 * 2, none⟩) (Nat.lt_of_lt_of_le hbl hb.size)).trans hd0, (h.cell (p := ⟨b, o + y0 * 2 + 1, none⟩) (Nat.lt_of_lt_of_le hbl hb.size)).trans hd1, (h.cell (p := ⟨g8, 2, none⟩) X8.lt).trans k82⟩ : w'.cell? ⟨w.heap.size, 2, none⟩ = some (.slice (some ⟨b, o, none⟩) l.length cap) ∧ w'.cell? ⟨g4, 0, none⟩ = some (.int .i64 (y0 : Int)) ∧ w'.cell? ⟨b, o + y0 * 2, none⟩ = some (.int .i64 6) ∧ w'.cell? ⟨b, o + y0 * 2 + 1, none⟩ = some (.int .i64 st) ∧ w'.cell? ⟨g8, 2, none⟩ = some (.slice (some ⟨g5, 0, none⟩) l.length c5)))
          have KS2 := Lib.hid (fun (w' : World) (u u' : Value) (h : Below wr.heap.size wr w') => (⟨(cell_two_far (j := y * 2) (j' := y * 2 + 1) (u := u) (u' := u') (show w.heap.size ≠ g5 by omega)).trans (KS.out w' h).1, (cell_two_far (j := y * 2) (j' := y * 2 + 1) (u := u) (u' := u') (show g4 ≠ g5 by omega)).trans (KS.out w' h).2.1, (cell_two_far (j := y * 2) (j' := y * 2 + 1) (u := u) (u' := u') (show b ≠ g5 by omega)).trans (KS.out w' h).2.2.1, (cell_two_far (j := y * 2) (j' := y * 2 + 1) (u := u) (u' := u') (show b ≠ g5 by omega)).trans (KS.out w' h).2.2.2.1, (cell_two_far (j := y * 2) (j' := y * 2 + 1) (u := u) (u' := u') (show g8 ≠ g5 by omega)).trans (KS.out w' h).2.2.2.2⟩ : ((w'.setCell ⟨g5, y * 2, none⟩ u).setCell ⟨g5, y * 2 + 1, none⟩ u').cell? ⟨w.heap.size, 2, none⟩ = some (.slice (some ⟨b, o, none⟩) l.length cap) ∧ ((w'.setCell ⟨g5, y * 2, none⟩ u).setCell ⟨g5, y * 2 + 1, none⟩ u').cell? ⟨g4, 0, none⟩ = some (.int .i64 (y0 : Int)) ∧ ((w'.setCell ⟨g5, y * 2, none⟩ u).setCell ⟨g5, y * 2 + 1, none⟩ u').cell? ⟨b, o + y0 * 2, none⟩ = some (.int .i64 6) ∧ ((w'.setCell ⟨g5, y * 2, none⟩ u).setCell ⟨g5, y * 2 + 1, none⟩ u').cell? ⟨b, o + y0 * 2 + 1, none⟩ = some (.int .i64 st) ∧ ((w'.setCell ⟨g5, y * 2, none⟩ u).setCell ⟨g5, y * 2 + 1, none⟩ u').cell? ⟨g8, 2, none⟩ = some (.slice (some ⟨g5, 0, none⟩) l.length c5)))
          have X0' := X0.two_far (u := .int .i64 6) (u' := .int .i64 st) (j := y * 2) (j' := y * 2 + 1) (show w.heap.size ≠ g5 by omega)
          have X1' := X1.two_far (u := .int .i64 6) (u' := .int .i64 st) (j := y * 2) (j' := y * 2 + 1) (show w.heap.size + 1 ≠ g5 by omega)
          have X8' := X8.two_far (u := .int .i64 6) (u' := .int .i64 st) (j := y * 2) (j' := y * 2 + 1) (show g8 ≠ g5 by omega)
          have X4' := X4.two_far (u := .int .i64 6) (u' := .int .i64 st) (j := y * 2) (j' := y * 2 + 1) (show g4 ≠ g5 by omega)
          have X7' := (X7.set (y * 2) (.int .i64 6)).set (y * 2 + 1) (.int .i64 st)
          rw [HSet'.out] at X7'
          have hL' := hL.setTwo (j := y * 2) (j' := y * 2 + 1) (u := .int .i64 6) (u' := .int .i64 st) h5'
          have hb' := (hb.setCell (p := ⟨g5, y * 2, none⟩) (by show w.heap.size ≤ g5; omega) (.int .i64 6)).setCell (p := ⟨g5, y * 2 + 1, none⟩) (by show w.heap.size ≤ g5; omega) (.int .i64 st)
          have HX := Lib.hid (⟨X0', X1', X8', X7', X4', hL', hb'⟩ : _ ∧ _ ∧ _ ∧ _ ∧ _ ∧ _ ∧ _)
          clear X0' X1' X8' X7' X4' hL' hb'
          have hy1 : (0 : Int) ≤ (y : Int) := by omega
          have hy2 : (y : Int) < (l.length : Int) := by omega
          have hy3 : (0 : Int) ≤ (y0 : Int) := by omega
          have hy4 : (y0 : Int) < (l.length : Int) := by omega
          have hgp : 0 < ng := by omega
          go_upto_region 11 with (fail)
          clear k2 k82 hc0' hd0 hd1 hcj
          go_region_held3 (fun w' => w'.cell? ⟨w.heap.size, 2, none⟩ = some (.slice (some ⟨b, o, none⟩) l.length cap) ∧ w'.cell? ⟨g4, 0, none⟩ = some (.int .i64 (y0 : Int)) ∧ w'.cell? ⟨b, o + y0 * 2, none⟩ = some (.int .i64 6) ∧ w'.cell? ⟨b, o + y0 * 2 + 1, none⟩ = some (.int .i64 st) ∧ w'.cell? ⟨g8, 2, none⟩ = some (.slice (some ⟨g5, 0, none⟩) l.length c5))
            (first | exact KS2.out wr _ _ (Below.refl _ _) | exact KS.out _ (by (repeat' (first | (with_reducible exact Below.refl _ _) | (with_reducible assumption) | (with_reducible refine Below.alloc ?_ ?_ _) | (with_reducible refine Below.setCell ?_ ?_ _) | (with_reducible refine Below.drew ?_) | (with_reducible refine below_drewN ?_ _) | (with_reducible refine Below.trans ?_ (Below.mono (by assumption) ?_)) | go_size))) | fail)
            (fail)
          obtain ⟨X0', X1', X8', X7', X4', hL', hb'⟩ := HX.out
          clear KS KS2 X0 X1 X8 X4 X7 hb hL q0 q1 f0 f1 HX
          go_wp2
          go_roundw
          case rel => exact ⟨j + 1, by go_num, by omega, X0', X1', X8', X7', fun _ => ⟨g4, rest4, rfl, X4'⟩, hL', hb'.drew⟩
          case measure => simp [intOf]; omega
        · obtain rfl : j = gs.length := by omega
          rw [HD.out] at X7
          go_wp2
          go_roundw
          case rel => exact ⟨k + 1, by go_num, by omega, X0, X1, X8, X7, hL, hb⟩
          case measure => simp [intOf]; omega
    · obtain rfl : k = (srtG c l).length := by omega
      have hl := mixS_len l (alV (c : Int) l) (doneG c l (srtG c l).length)
      have X8k0 : wr.cell? ⟨g8, 0, none⟩ = some (.int .i64 (r : Int)) := (X8.cell 0).trans rfl; have X8k1 : wr.cell? ⟨g8, 1, none⟩ = some (.int .i64 (c : Int)) := (X8.cell 1).trans rfl; have X8k2 : wr.cell? ⟨g8, 2, none⟩ = some (.slice (some ⟨g5, 0, none⟩) l.length c5) := (X8.cell 2).trans rfl
      have X1k0 : wr.cell? ⟨w.heap.size + 1, 0, none⟩ = some (.int .i64 0) := (X1.cell 0).trans rfl; have X1k1 : wr.cell? ⟨w.heap.size + 1, 1, none⟩ = some (.int .i64 0) := (X1.cell 1).trans rfl; have X1k2 : wr.cell? ⟨w.heap.size + 1, 2, none⟩ = some (.slice none 0 0) := (X1.cell 2).trans rfl
      have X1f0 := X1.frozen 0; have X1f1 := X1.frozen 1; have X1f2 := X1.frozen 2
      have hap : ∀ a, some (⟨g5, 0, none⟩ : Addr) = some a → w.heap.size + 1 ≠ a.block := fun a ha => by cases ha; show w.heap.size + 1 ≠ g5; omega
      have hnw : New w (some ⟨g5, 0, none⟩) := fun a ha => by cases ha; show w.heap.size ≤ g5; omega
      have ho : Own wr (some ⟨g5, 0, none⟩) 34 (flat (mixS l (alV (c : Int) l) (doneG c l (srtG c l).length))) := fun _ => ⟨g5, rest5, rfl, X7⟩
      go_wp2
      refine bodyPost_ret (v := .tuple #[.agg #[.int .i64 (r : Int), .int .i64 (c : Int), .slice (some ⟨g5, 0, none⟩) l.length c5], .bool true]) ?_ rfl ?_; (focus (simp [results, Try.results18, go_sem, *]; done))
      rw [← hl]
      exact PostB.mk (((ho.set_far _ _ hap).set_far _ _ hap).set_far _ _ hap) hnw (by (repeat' (first | (with_reducible exact Below.refl _ _) | (with_reducible assumption) | (with_reducible refine Below.alloc ?_ ?_ _) | (with_reducible refine Below.setCell ?_ ?_ _) | (with_reducible refine Below.drew ?_) | (with_reducible refine below_drewN ?_ _) | (with_reducible refine Below.trans ?_ (Below.mono (by assumption) ?_)) | (with_reducible exact Nat.le_refl _) | (simp; done) | omega | (simp at *; omega))))
end Go.Proofs.Ytdpgbgniejlilaa
