/- LeastCogs, the program's. -/
import Derived.Test.YtkgbbondafcjpaaJoined
import Derived.Test.YtkgbbondafcjpaaSpread2W
namespace Go.Proofs.Ytkgbbondafcjpaa
open Go.ChangeShapes Go.WideShapes Go.ChangeAt Go.RowKit Go.Joins Go.Deep
set_option linter.unusedSimpArgs false
set_option linter.unusedVariables false
set_option maxRecDepth 100000
set_option maxHeartbeats 4000000
theorem impl_isOpen (a b : Int) (w : World) : Calls Try.prog 68 #[.agg #[.int .i64 a, .int .i64 b]] w fun e w' => e = .returned (.bool (joins a || decide (a = 0))) ∧ Below w.heap.size w w' := by
  go_enter Try.func68, Try.ntmps68
  go_wp2_with fail
  refine (impl_isJoining _ _ _).mono ?_; rintro e w1 ⟨rfl, b1⟩
  obtain ⟨hc0, _⟩ := bcell b1
  rcases Bool.eq_false_or_eq_true (joins a) with hj | hj
  · have HJ := Lib.hid hj
    rw [hj]
    clear hj
    go_wp2
    go_returns
    exact ⟨ret_bool (by rw [HJ.out]; rfl), by (repeat' (first | (with_reducible exact Below.refl _ _) | (with_reducible assumption) | (with_reducible refine Below.alloc ?_ ?_ _) | (with_reducible refine Below.setCell ?_ ?_ _) | (with_reducible refine Below.drew ?_) | (with_reducible refine below_drewN ?_ _) | (with_reducible refine Below.trans ?_ (Below.mono (by assumption) ?_)) | (with_reducible exact Nat.le_refl _) | (simp; done) | omega | (simp at *; omega)))⟩
  · have HJ := Lib.hid hj
    rw [hj]
    clear hj
    go_wp2
    all_goals go_returns
    all_goals exact ⟨ret_bool (by rw [HJ.out, Bool.false_or]; rw [Bool.eq_iff_iff]; simp), by (repeat' (first | (with_reducible exact Below.refl _ _) | (with_reducible assumption) | (with_reducible refine Below.alloc ?_ ?_ _) | (with_reducible refine Below.setCell ?_ ?_ _) | (with_reducible refine Below.drew ?_) | (with_reducible refine below_drewN ?_ _) | (with_reducible refine Below.trans ?_ (Below.mono (by assumption) ?_)) | (with_reducible exact Nat.le_refl _) | (simp; done) | omega | (simp at *; omega)))⟩
theorem impl_openCells2 (R C : Int) (A : Option Addr) (cap : Nat) (l : List (Int × Int)) (w : World) (hn : l.length ≤ 1048576) (hr : Rd w w.heap.size A (flat l)) :
    Calls Try.prog 67 #[.agg #[.int .i64 R, .int .i64 C, .slice A l.length cap], .func (.func 68) #[] #[]] w
      fun e w' => ∃ B, e = .returned (.map (some B)) ∧ w.heap.size ≤ B ∧ Keys w' B l.length (opE l) ∧ Below w.heap.size w w' := by
  have hmm := @run_makeMap Try.prog
  go_enter Try.func67, Try.ntmps67
  go_wp2
  go_loopw [12] (fun i wr => ∃ k : Nat, k ≤ l.length ∧ i = .int .i64 k ∧ Keys wr (w.heap.size + 1) k (fun j => opE l j && decide (j < k)) ∧ Below w.heap.size w wr) (fun i _ => l.length - (intOf i).toNat)
  case atStart =>
    have h0 := Keys.made (w.alloc (.cells #[.int .i64 R, .int .i64 C, .slice A l.length cap] 31))
    rw [World.size_alloc] at h0
    exact ⟨0, Nat.zero_le _, rfl, h0.congr (fun i _ => by simp), by (repeat' (first | (with_reducible exact Below.refl _ _) | (with_reducible assumption) | (with_reducible refine Below.alloc ?_ ?_ _) | (with_reducible refine Below.setCell ?_ ?_ _) | (with_reducible refine Below.drew ?_) | (with_reducible refine below_drewN ?_ _) | (with_reducible refine Below.trans ?_ (Below.mono (by assumption) ?_)) | (with_reducible exact Nat.le_refl _) | (simp; done) | omega | (simp at *; omega)))⟩
  case round =>
    obtain ⟨k, hk, rfl, hK, hb⟩ := hrel
    by_cases hlt : k < l.length
    · obtain ⟨b, o, rfl, hbl, hc⟩ := hr (by rw [flat_length]; omega)
      obtain ⟨hc0, hc1⟩ := cell_at2 hb hbl hc hlt
      have hJ : opE l k = (joins l[k].1 || decide (l[k].1 = 0)) := by unfold opE; rw [J_at hlt, emp_at hlt]
      have hs := hb.size
      have hB := hK.lt
      clear hr hc
      generalize l[k].1 = x at *
      generalize l[k].2 = y at *
      go_wp2_with fail
      rcases Bool.eq_false_or_eq_true (joins x || decide (x = 0)) with hj | hj
      · refine (impl_isOpen _ _ _).mono ?_; rintro e w1 ⟨rfl, b1⟩
        rewrite [hj]
        rewrite [hj] at hJ
        have hK1 := (hK.alloc (.cells #[.int .i64 x, .int .i64 y] 65)).below b1
        have hb1 : Below w.heap.size w w1 := (hb.alloc hs _).trans (b1.mono (by simp; omega))
        clear hK hb b1 hc0 hc1 hB hs hj
        go_wp2_with (first | (at_mapUpdate; refine wpList_put_keys rfl _ _ _ rfl (w.heap.size + 1) k _ rfl hK1 (by unfold maxLen; omega) k rfl rfl (by omega) ?_; intro w2 hK2 g2) | fail)
        have hs1 := hb1.size
        have hb2 : Below w.heap.size w w2 := hb1.grown g2 hs1 (fun j hj => by cases hj; omega)
        clear g2 hK1 hb1
        go_roundw
        case rel =>
          refine ⟨k + 1, by omega, by go_num, hK2.congr (fun i _ => ?_), hb2⟩
          by_cases e : i = k
          · subst e; simp [hJ]
          · have e1 : decide (i < k + 1) = decide (i < k) := by rw [decide_eq_decide]; omega
            simp [e, e1]
        case measure => simp [intOf]; omega
      · refine (impl_isOpen _ _ _).mono ?_; rintro e w1 ⟨rfl, b1⟩
        rewrite [hj]
        rewrite [hj] at hJ
        have hK1 := (hK.alloc (.cells #[.int .i64 x, .int .i64 y] 65)).below b1
        have hb1 : Below w.heap.size w w1 := (hb.alloc hs _).trans (b1.mono (by simp; omega))
        clear hK hb b1 hc0 hc1 hB hs hj
        go_wp2
        go_roundw
        case rel =>
          refine ⟨k + 1, by omega, by go_num, (hK1.mono (Nat.le_succ k)).congr (fun i _ => ?_), hb1⟩
          by_cases e : i = k
          · subst e; simp [hJ]
          · have e1 : decide (i < k + 1) = decide (i < k) := by rw [decide_eq_decide]; omega
            rw [e1]
        case measure => simp [intOf]; omega
    · obtain rfl : k = l.length := by omega
      go_wp2
      go_returns
      refine ⟨w.heap.size + 1, rfl, by omega, hK.congr (fun i _ => ?_), hb⟩
      by_cases e : i < l.length
      · simp [e]
      · have : opE l i = false := by
          rcases Bool.eq_false_or_eq_true (opE l i) with h | h
          · unfold opE at h
            rw [Bool.or_eq_true] at h
            exact absurd (h.elim J_lt emp_lt) e
          · exact h
        rw [this]; rfl
/-! ### the levels, and which cells are still open ahead of each -/
def lsk (c : Nat) (l : List (Int × Int)) (src k : Nat) : List Nat × List Nat := lst (J l) (emp l) (nearL c l.length) l.length src k
def lo (c : Nat) (l : List (Int × Int)) (src : Nat) : Nat → Nat → Bool
  | 0 => opE l
  | k + 1 => opn (opE l) (lsk c l src k).1 (lvQ (J l) (nearL c l.length) l.length (lsk c l src k) ++ lvD (J l) (emp l) (nearL c l.length) l.length (lsk c l src k))
theorem lo_ok (c : Nat) (l : List (Int × Int)) (src : Nat) : ∀ k y, (lo c l src k y && !(lsk c l src k).2.contains y) = opn (opE l) (lsk c l src k).1 (lsk c l src k).2 y
  | 0, y => by
    show (opE l y && !([src] : List Nat).contains y) = opn (opE l) [] [src] y
    unfold opn
    simp
  | k + 1, y => by
    show (opn (opE l) (lsk c l src k).1 (lvQ (J l) (nearL c l.length) l.length (lsk c l src k) ++ lvD (J l) (emp l) (nearL c l.length) l.length (lsk c l src k)) y && !(lvD (J l) (emp l) (nearL c l.length) l.length (lsk c l src k)).contains y) = opn (opE l) ((lsk c l src k).1 ++ lvQ (J l) (nearL c l.length) l.length (lsk c l src k)) (lvD (J l) (emp l) (nearL c l.length) l.length (lsk c l src k)) y
    rw [Bool.eq_iff_iff, Bool.and_eq_true, opn_iff, opn_iff, List.mem_append, List.mem_append]
    simp
    constructor
    · rintro ⟨⟨h1, h2, h3, h4⟩, _⟩; exact ⟨h1, ⟨h2, h3⟩, h4⟩
    · rintro ⟨h1, ⟨h2, h3⟩, h4⟩; exact ⟨⟨h1, h2, h3, h4⟩, h4⟩
theorem lsk_inv {r c : Nat} {l : List (Int × Int)} (hG : Geo r c l.length) {src : Nat} (h : src < l.length) (k : Nat) : (lsk c l src k).2.Nodup ∧ (∀ x ∈ (lsk c l src k).2, x < l.length) ∧ (lsk c l src k).1.length + (lsk c l src k).2.length ≤ l.length ∧ (lvQ (J l) (nearL c l.length) l.length (lsk c l src k)).length ≤ l.length ∧ (∀ x ∈ lvQ (J l) (nearL c l.length) l.length (lsk c l src k), x < l.length) := by
  have H := lev_of hG h
  have hi := lst_inv H k
  obtain ⟨q1, q2, q3⟩ := hi.q H
  have hf := few_len (few_of (J := J l) (v := []) hi.nd hi.lt)
  rw [List.length_append] at hf
  exact ⟨(List.nodup_append.1 hi.nd).2.1, fun x hx => hi.lt x (List.mem_append.2 (.inr hx)), hf, q3, fun x hx => q2 x (List.mem_append.2 (.inr hx))⟩
def lcF (C : Int) (l : List (Int × Int)) (a b : Nat) : Int := (rit (J l) (emp l) (nearL C.toNat l.length) l.length a l.length).getD b 0
def okC (R C : Int) (l : List (Int × Int)) (i j i2 j2 : Int) : Bool := okJJ R C l i j i2 j2 && decide (0 ≤ lcF C l (atI C i j) (atI C i2 j2))
def lcV (R C : Int) (l : List (Int × Int)) (i j i2 j2 : Int) : Int := selI (okC R C l i j i2 j2) (lcF C l (atI C i j) (atI C i2 j2))
theorem lcF_in {r c a b k : Nat} {l : List (Int × Int)} (hG : Geo r c l.length) (ha : a < l.length) (h : b ∈ LQ (J l) (emp l) (nearL c l.length) l.length a k) : lcF (c : Int) l a b = (k : Int) := by
  unfold lcF
  rw [Int.toNat_natCast]
  exact rit_in (lev_of hG ha) h
theorem lcF_out {r c a b : Nat} {l : List (Int × Int)} (hG : Geo r c l.length) (ha : a < l.length) (hb : b < l.length) (h : ∀ k, b ∉ LQ (J l) (emp l) (nearL c l.length) l.length a k) : lcF (c : Int) l a b < 0 := by
  unfold lcF
  rw [Int.toNat_natCast]
  exact rit_out (lev_of hG ha) hb h
theorem nI_has {q : List Nat} {m : Nat} : ((nI q).take (nI q).length).contains (m : Int) = q.contains m := by
  rw [List.take_length, Bool.eq_iff_iff, List.contains_iff_mem, List.contains_iff_mem]
  unfold nI
  rw [List.mem_map]
  constructor
  · rintro ⟨x, hx, e⟩
    have : x = m := by omega
    subst this
    exact hx
  · intro h
    exact ⟨m, h, rfl⟩
end Go.Proofs.Ytkgbbondafcjpaa
