/- MixedGroups: does a group have gears in both states. -/
import Derived.Test.YtgecihedocifjaaSortNil
import Derived.Test.YtgecihedocifjaaLargest
namespace Go.Proofs.Ytgecihedocifjaa
open Go.ChangeShapes Go.WideShapes Go.ChangeAt Go.RowKit Go.Joins Go.Deep
set_option linter.unusedSimpArgs false
set_option linter.unusedVariables false
set_option maxRecDepth 100000
set_option maxHeartbeats 2000000
theorem mxHeldCell : Try.prog.stoodInHeld 65 = false := by kernel_rfl
theorem mxGuardCell : Try.prog.eqGuardType Try.prog.depth 65 = false := by kernel_rfl
theorem impl_isOther (R C : Int) (p q b o cap n c6 g6 y y0 : Nat) (l : List (Int × Int)) (w : World) (hy : y < l.length) (hy0 : y0 < l.length) (hl : l.length ≤ 90) (hn : 0 < n)
    (h1 : w.cell? ⟨p, 2, none⟩ = some (.slice (some ⟨b, o, none⟩) l.length cap)) (h2 : w.cell? ⟨q, 0, none⟩ = some (.slice (some ⟨g6, 0, none⟩) n c6)) (h3 : w.cell? ⟨g6, 0, none⟩ = some (.int .i64 (y0 : Int)))
    (ha : w.cell? ⟨b, o + y * 2, none⟩ = some (.int .i64 l[y].1)) (hb : w.cell? ⟨b, o + y * 2 + 1, none⟩ = some (.int .i64 l[y].2)) (hc : w.cell? ⟨b, o + y0 * 2, none⟩ = some (.int .i64 l[y0].1)) (hd : w.cell? ⟨b, o + y0 * 2 + 1, none⟩ = some (.int .i64 l[y0].2)) :
    Calls Try.prog 76 #[.int .i64 (y : Int), .pointer (some ⟨p, 0, none⟩), .pointer (some ⟨q, 0, none⟩)] w fun e w' => e = .returned (.bool (decide (¬ (l[y].1 = l[y0].1 ∧ l[y].2 = l[y0].2)))) ∧ Below w.heap.size w w' := by
  have hhc := mxHeldCell
  have hgc := mxGuardCell
  generalize l[y].1 = k1 at *
  generalize l[y].2 = s1 at *
  generalize l[y0].1 = k0 at *
  generalize l[y0].2 = s0 at *
  have e1 : (0 : Int) ≤ (y : Int) := by omega
  have e2 : (y : Int) < (l.length : Int) := by omega
  have e3 : (0 : Int) ≤ (y0 : Int) := by omega
  have e4 : (y0 : Int) < (l.length : Int) := by omega
  have e5 : (0 : Int) < (n : Int) := by omega
  by_cases hx : k1 = k0
  · subst hx
    by_cases hs : s1 = s0
    · subst hs
      (go_enter Try.func76, Try.ntmps76; go_upto_region 1 with (fail); go_quiet (fail); go_wp2; go_returns; exact ⟨ret_bool (by simp_all), below_drewN (Below.refl _ _) _⟩)
    · (go_enter Try.func76, Try.ntmps76; go_upto_region 1 with (fail); go_quiet (fail); go_wp2; go_returns; exact ⟨ret_bool (by simp_all), below_drewN (Below.refl _ _) _⟩)
  · (go_enter Try.func76, Try.ntmps76; go_upto_region 1 with (fail); go_quiet (fail); go_wp2; go_returns; exact ⟨ret_bool (by simp_all), below_drewN (Below.refl _ _) _⟩)
theorem impl_IndexOther (A6 : Option Addr) (c6 : Nat) (gs : List Nat) (p q : Nat) (T : Nat → Bool) (w : World) (hn : gs.length ≤ 90) (ho : Own w A6 3 (ints (nI gs)))
    (hf : ∀ y, y ∈ gs → ∀ w', Below w.heap.size w w' → Calls Try.prog 76 #[.int .i64 (y : Int), .pointer (some ⟨p, 0, none⟩), .pointer (some ⟨q, 0, none⟩)] w' fun e w'' => e = .returned (.bool (T y)) ∧ Below w'.heap.size w' w'') :
    Calls Try.prog 100 #[.slice A6 gs.length c6, .func (.func 76) #[] #[.pointer (some ⟨p, 0, none⟩), .pointer (some ⟨q, 0, none⟩)]] w fun e w' => ∃ ix : Int, e = .returned (.int .i64 ix) ∧ decide (0 ≤ ix) = gs.any T ∧ Below w.heap.size w w' := by
  go_enter Try.func100, Try.ntmps100
  go_wp2
  go_loopw [8] (fun j wr => ∃ k : Nat, j = .int .i64 k ∧ k ≤ gs.length ∧ (gs.take k).any T = false ∧ Below w.heap.size w wr) (fun j _ => gs.length - (intOf j).toNat)
  case atStart => exact ⟨0, rfl, Nat.zero_le _, rfl, Below.refl _ _⟩
  case round =>
    obtain ⟨k, rfl, hk, hT, hb⟩ := hrel
    by_cases hlt : k < gs.length
    · obtain ⟨g6, rest6, rfl, X6⟩ := ho (by rw [ints_length, nI_length]; omega)
      have hc6 := row_num (X6.below hb X6.lt) hlt
      have HF := Lib.hid (hf gs[k] (List.getElem_mem hlt) wr hb)
      have HT := Lib.hid (show (gs.take (k + 1)).any T = T gs[k] by rw [List.take_succ_eq_append_getElem hlt, List.any_append, hT]; simp)
      have HA := Lib.hid (fun (h : T gs[k] = true) => (show gs.any T = true from List.any_eq_true.2 ⟨gs[k], List.getElem_mem hlt, h⟩))
      clear hf hT
      generalize gs[k] = y at *
      go_wp2_with fail
      refine HF.out.mono ?_; rintro e w1 ⟨rfl, b1⟩
      have hb1 := hb.trans (b1.mono hb.size)
      rcases Bool.eq_false_or_eq_true (T y) with ht | ht
      · rewrite [ht]
        have HA' := Lib.hid (HA.out ht)
        clear HA HT HF
        go_wp2
        go_returns
        exact ⟨(k : Int), rfl, by rw [HA'.out, decide_eq_true_eq]; omega, hb1⟩
      · rewrite [ht]
        have HT' := Lib.hid (HT.out.trans ht)
        clear HA HT HF
        go_wp2
        go_roundw
        case rel => exact ⟨k + 1, by go_num, by omega, HT'.out, hb1⟩
        case measure => simp [intOf]; omega
    · obtain rfl : k = gs.length := by omega
      rw [List.take_length] at hT
      have HT := Lib.hid hT
      clear hf hT
      go_wp2
      go_returns
      exact ⟨-1, rfl, by rw [HT.out]; rfl, hb⟩
theorem impl_ContainsOther (A6 : Option Addr) (c6 : Nat) (gs : List Nat) (p q : Nat) (T : Nat → Bool) (w : World) (hn : gs.length ≤ 90) (ho : Own w A6 3 (ints (nI gs)))
    (hf : ∀ y, y ∈ gs → ∀ w', Below w.heap.size w w' → Calls Try.prog 76 #[.int .i64 (y : Int), .pointer (some ⟨p, 0, none⟩), .pointer (some ⟨q, 0, none⟩)] w' fun e w'' => e = .returned (.bool (T y)) ∧ Below w'.heap.size w' w'') :
    Calls Try.prog 77 #[.slice A6 gs.length c6, .func (.func 76) #[] #[.pointer (some ⟨p, 0, none⟩), .pointer (some ⟨q, 0, none⟩)]] w fun e w' => e = .returned (.bool (gs.any T)) ∧ Below w.heap.size w w' := by
  go_enter Try.func77, Try.ntmps77
  go_wp2_with fail
  refine (impl_IndexOther A6 c6 gs p q T w hn ho hf).mono ?_
  rintro e w1 ⟨ix, rfl, hix, hb⟩
  have HI := Lib.hid hix
  clear hix hf
  go_wp2
  go_returns
  exact ⟨ret_bool (by rw [← HI.out]), hb⟩
def oth (l : List (Int × Int)) (y0 y : Nat) : Bool := decide (¬ ((l.getD y (0, 0)).1 = (l.getD y0 (0, 0)).1 ∧ (l.getD y (0, 0)).2 = (l.getD y0 (0, 0)).2))
def mixG (C : Int) (l : List (Int × Int)) (m : Nat) : Bool := decide (0 < gcn C l l.length (m : Int) 0) && decide (0 < gcn C l l.length (m : Int) 1)
def mixTo (C : Int) (l : List (Int × Int)) (k : Nat) : List Nat := (List.range k).filter (mixG C l)
def mixB (R C : Int) (l : List (Int × Int)) : List Int := if goodB R C l then nI (mixTo C l (GG C l).length) else []
theorem mixTo_le (C : Int) (l : List (Int × Int)) (k : Nat) : (mixTo C l k).length ≤ k := by
  unfold mixTo
  have := List.length_filter_le (mixG C l) (List.range k)
  rw [List.length_range] at this
  exact this
theorem mixB_len (R C : Int) (l : List (Int × Int)) (h : l.length ≤ 1048576) : (mixB R C l).length ≤ 1048576 := by
  unfold mixB
  rcases Bool.eq_false_or_eq_true (goodB R C l) with hg | hg
  · obtain ⟨r, c, rfl, rfl, hG⟩ := geo_of hg
    rw [hg, if_pos rfl, nI_length]
    have h1 := mixTo_le (c : Int) l (GG (c : Int) l).length
    have h2 := GG_len c l
    omega
  · rw [hg]; simp
theorem mixTo_yes {C : Int} {l : List (Int × Int)} {k : Nat} (h : mixG C l k = true) : mixTo C l (k + 1) = mixTo C l k ++ [k] := by
  unfold mixTo
  rw [List.range_succ, List.filter_append]
  simp only [List.filter_cons, h, if_true]
  rfl
theorem mixTo_no {C : Int} {l : List (Int × Int)} {k : Nat} (h : mixG C l k = false) : mixTo C l (k + 1) = mixTo C l k := by
  unfold mixTo
  rw [List.range_succ, List.filter_append]
  simp only [List.filter_cons, h]
  simp
theorem gcn_pos {C : Int} {l : List (Int × Int)} {m : Nat} {s : Int} : 0 < gcn C l l.length (m : Int) s ↔ ∃ x, x ∈ (List.range l.length).filter (fun y => gearK l y && decide (nmb C l y = (m : Int))) ∧ (l.getD x (0, 0)).2 = s := by
  unfold gcn
  rw [List.length_pos_iff_exists_mem]
  constructor
  · rintro ⟨x, hx⟩
    rw [List.mem_filter, List.mem_range, Bool.and_eq_true, decide_eq_true_eq] at hx
    exact ⟨x, List.mem_filter.2 ⟨List.mem_range.2 hx.1, hx.2.1⟩, hx.2.2⟩
  · rintro ⟨x, hx, hs⟩
    rw [List.mem_filter, List.mem_range] at hx
    exact ⟨x, List.mem_filter.2 ⟨List.mem_range.2 hx.1, by rw [Bool.and_eq_true, decide_eq_true_eq]; exact ⟨hx.2, hs⟩⟩⟩
theorem mix_any {r c : Nat} {l : List (Int × Int)} (hG : Geo r c l.length) (hg : goodB (r : Int) (c : Int) l = true) {t : Nat} (ht : t < (srtG c l).length) :
    (((srtG c l)[t]).filter (gearK l)).any (oth l ((((srtG c l)[t]).filter (gearK l)).getD 0 0)) = mixG (c : Int) l t := by
  have hst := good_state hg
  rw [gs_eq hG ht]
  unfold mixG
  rw [Bool.eq_iff_iff, List.any_eq_true, Bool.and_eq_true, decide_eq_true_eq, decide_eq_true_eq, gcn_pos, gcn_pos]
  have hk : ∀ x, x ∈ (List.range l.length).filter (fun y => gearK l y && decide (nmb (c : Int) l y = (t : Int))) → x < l.length ∧ (l.getD x (0, 0)).1 = 6 := fun x hx => by
    rw [List.mem_filter, List.mem_range, Bool.and_eq_true] at hx
    have h6 := hx.2.1
    unfold gearK at h6
    exact ⟨hx.1, by simpa using h6⟩
  generalize (List.range l.length).filter (fun y => gearK l y && decide (nmb (c : Int) l y = (t : Int))) = gs at *
  have h0 : ∀ x, x ∈ gs → gs.getD 0 0 ∈ gs := fun x hx => by
    cases gs with
    | nil => cases hx
    | cons a gs => exact List.mem_cons_self ..
  constructor
  · rintro ⟨y, hy, ho⟩
    have hy0 := h0 y hy
    unfold oth at ho
    rw [decide_eq_true_eq, (hk _ hy).2, (hk _ hy0).2] at ho
    have hne : ¬ (l.getD y (0, 0)).2 = (l.getD (gs.getD 0 0) (0, 0)).2 := fun e => ho ⟨rfl, e⟩
    have a1 := hst _ (hk _ hy).1
    have a2 := hst _ (hk _ hy0).1
    generalize gs.getD 0 0 = y0 at *
    rcases a1 with a1 | a1
    · rcases a2 with a2 | a2
      · exact absurd (a1.trans a2.symm) hne
      · exact ⟨⟨y, hy, a1⟩, ⟨y0, hy0, a2⟩⟩
    · rcases a2 with a2 | a2
      · exact ⟨⟨y0, hy0, a2⟩, ⟨y, hy, a1⟩⟩
      · exact absurd (a1.trans a2.symm) hne
  · rintro ⟨⟨x, hx, hxs⟩, ⟨y, hy, hys⟩⟩
    have hy0 := h0 y hy
    generalize gs.getD 0 0 = y0 at *
    have a2 := hst _ (hk _ hy0).1
    rcases a2 with a2 | a2
    · refine ⟨y, hy, ?_⟩
      unfold oth
      rw [decide_eq_true_eq, hys, a2]
      rintro ⟨_, e⟩
      cases e
    · refine ⟨x, hx, ?_⟩
      unfold oth
      rw [decide_eq_true_eq, hxs, a2]
      rintro ⟨_, e⟩
      cases e
theorem GRow.lt' {w : World} {P n : Nat} {f : Nat → List Int} (h : GRow w P n f) : P + 1 + n ≤ w.heap.size := by
  cases n with
  | zero => have := h.1.lt; omega
  | succ n => have := (h.2 n (by omega)).lt; omega
end Go.Proofs.Ytgecihedocifjaa
