/-
  WHAT A CALL HANDS BACK IN A NEW SLICE: words and how they last; 'make([]int, n)'; valid lists of cells.
-/
import Derived.Test.YtlambflmabecfaaList3
namespace Go.Proofs.Ytlambflmabecfaa
open Go.ChangeShapes Go.WideShapes Go.ChangeAt Go.RowKit Go.Joins Go.Deep
set_option linter.unusedSimpArgs false
set_option linter.unusedVariables false
set_option maxRecDepth 100000
set_option maxHeartbeats 400000
theorem Own.rd {w : World} {A : Option Addr} {t : TypeId} {xs : List Value} (h : Own w A t xs) : Rd w w.heap.size A xs := fun hx => by
  obtain ⟨g, rest, e, hw⟩ := h hx
  refine ⟨g, 0, e, hw.lt, fun j u hu => ?_⟩
  rw [Nat.zero_add, hw.cell, List.getElem?_append_left (by have := (List.getElem?_eq_some_iff.1 hu).1; exact this)]
  exact hu
theorem Own.keep {w w' : World} {A : Option Addr} {t : TypeId} {xs : List Value} (h : Own w A t xs) (hb : Below w.heap.size w w') : Own w' A t xs := fun hx => by
  obtain ⟨g, rest, e, hw⟩ := h hx
  exact ⟨g, rest, e, hw.below hb hw.lt⟩
theorem Own.only {w w' : World} {A A' : Option Addr} {t : TypeId} {xs : List Value} (h : Own w A t xs) (ho : Only w w' A') (hne : 0 < xs.length → ∀ a a', A = some a → A' = some a' → a.block ≠ a'.block) : Own w' A t xs := fun hx => by
  obtain ⟨g, rest, rfl, hw⟩ := h hx
  refine ⟨g, rest, rfl, ?_⟩
  refine (ho.block g hw.lt ?_).trans hw
  cases hA : A' with
  | none => simp
  | some a' => simpa using hne hx _ _ rfl hA
theorem Own.lt {w : World} {A : Option Addr} {t : TypeId} {xs : List Value} (h : Own w A t xs) (hx : 0 < xs.length) {a : Addr} (ha : A = some a) : a.block < w.heap.size := by
  obtain ⟨g, rest, e, hw⟩ := h hx
  rw [e] at ha
  cases ha
  exact hw.lt
theorem Whole.own {w : World} {g : Nat} {t : TypeId} {xs : List Value} (h : Whole w g t xs) : Own w (some ⟨g, 0, none⟩) t xs := fun _ => ⟨g, [], rfl, by rw [List.append_nil]; exact h⟩
theorem Own.none_ {w : World} {A : Option Addr} {t : TypeId} : Own w A t [] := fun h => absurd h (by simp)
theorem Only.below {w w' : World} {A : Option Addr} {B : Nat} (h : Only w w' A) (hB : B ≤ w.heap.size) (hge : ∀ a, A = some a → B ≤ a.block) : Below B w w' :=
  (Below.refl B w).grown h hB (fun k hk => by
    cases hA : A with
    | none => rw [hA] at hk; cases hk
    | some a => rw [hA] at hk; cases hk; exact hge _ hA)
/-- The slice at A is new: it does not lie in the old heap. -/
def New (w : World) (A : Option Addr) : Prop := ∀ a, A = some a → w.heap.size ≤ a.block
theorem New.none_ {w : World} : New w none := fun _ h => by cases h
theorem New.mono {w w' : World} {A : Option Addr} (h : New w' A) (hs : w.heap.size ≤ w'.heap.size) : New w A := fun a ha => Nat.le_trans hs (h a ha)
theorem New.ge {w : World} {A : Option Addr} {B : Nat} (h : New w A) (hB : B ≤ w.heap.size) : ∀ a, A = some a → B ≤ a.block := fun a ha => Nat.le_trans hB (h a ha)
theorem intInfo : (Try.prog.info? 3).map (fun i => (i.zero, i.size, i.bytes)) = some (some (.int .i64 0), 1, 8) := by kernel_rfl
theorem made_ints (n : Nat) : madeCells (Value.int .i64 0).cells (n * 1) = (zrow n).toArray := by
  apply Array.ext
  · simp [madeCells, zrow]
  · intro i h1 h2
    simp [madeCells, zrow, Value.cells, Nat.mod_one]
theorem run_make_ints (n : Nat) (hn : n ≤ 1048576) (w : World) :
    (Instr.makeSlice 47 (.int .i64 (n : Int)) (.int .i64 (n : Int))).run Try.prog w = .ok (.slice (some ⟨w.heap.size, 0, none⟩) n n) (w.alloc (.cells (zrow n).toArray 3)) := by
  obtain ⟨i0, hi, hz0, hz1, hz2⟩ := info_parts intInfo
  have h := run_make (P := Try.prog) w 47 3 i0 _ Try.underlying47 hi hz0 .i64 .i64 (n : Int) (n : Int) (by omega) (by omega) (by rw [hz2]; omega) (by omega)
  rw [hz1] at h
  simp only [Int.toNat_natCast] at h
  rw [h, made_ints]
/-- A valid list of cells. -/
def goodL (l : List (Int × Int)) : Bool := decide (l.length ≤ 90) && l.all fun c => good c.1 c.2
theorem all_take {l : List (Int × Int)} {k : Nat} (h : k < l.length) (hk : ((l.take k).all fun c => good c.1 c.2) = true) (hg : good l[k].1 l[k].2 = true) : ((l.take (k + 1)).all fun c => good c.1 c.2) = true := by
  rw [List.take_succ_eq_append_getElem h, List.all_append, hk]
  simp [hg]
theorem all_not {l : List (Int × Int)} {k : Nat} (h : k < l.length) (hg : good l[k].1 l[k].2 = false) : (l.all fun c => good c.1 c.2) = false := by
  rw [List.all_eq_false]
  exact ⟨l[k], List.getElem_mem h, by rw [hg]; simp⟩
theorem impl_areCells (A : Option Addr) (cap : Nat) (l : List (Int × Int)) (w : World) (hn : l.length ≤ 1048576) (hr : Rd w w.heap.size A (flat l)) :
    Calls Try.prog 84 #[.slice A l.length cap] w fun e w' => e = .returned (.bool (goodL l)) ∧ Below w.heap.size w w' := by
  by_cases h90 : l.length ≤ 90
  · go_enter Try.func84, Try.ntmps84
    go_wp2
    go_loopw [10] (fun i wr => ∃ k : Nat, k ≤ l.length ∧ i = .int .i64 k ∧ ((l.take k).all fun c => good c.1 c.2) = true ∧ Below w.heap.size w wr) (fun i _ => l.length - (intOf i).toNat)
    case atStart => exact ⟨0, Nat.zero_le _, rfl, rfl, by (repeat' (first | (with_reducible exact Below.refl _ _) | (with_reducible assumption) | (with_reducible refine Below.alloc ?_ ?_ _) | (with_reducible refine Below.setCell ?_ ?_ _) | (with_reducible refine Below.drew ?_) | (with_reducible refine below_drewN ?_ _) | (with_reducible refine Below.trans ?_ (Below.mono (by assumption) ?_)) | (with_reducible exact Nat.le_refl _) | (simp; done) | omega | (simp at *; omega)))⟩
    case round =>
      obtain ⟨k, hk, rfl, hall, hb⟩ := hrel
      by_cases hlt : k < l.length
      · obtain ⟨b, o, rfl, hbl, hc⟩ := hr (by rw [flat_length]; omega)
        have hc0 : wr.cell? ⟨b, o + k * 2, none⟩ = some (.int .i64 l[k].1) := (hb.cell (p := ⟨b, _, none⟩) hbl).trans (hc _ _ (flat_at l k hlt).1)
        have hc1 : wr.cell? ⟨b, o + k * 2 + 1, none⟩ = some (.int .i64 l[k].2) := (hb.cell (p := ⟨b, _, none⟩) hbl).trans (hc _ _ (flat_at l k hlt).2)
        have HT := Lib.hid (all_take hlt hall)
        have HN := Lib.hid (all_not hlt)
        have hs := hb.size
        clear hr hc hall
        generalize l[k].1 = x at *
        generalize l[k].2 = y at *
        rcases Bool.eq_false_or_eq_true (good x y) with hg | hg
        · have HG := Lib.hid hg
          go_wp2_with fail
          refine (impl_IsCell _ _ _).mono ?_; rintro e w1 ⟨rfl, b1⟩
          rw [hg]
          clear hg hc0 hc1
          go_wp2
          go_roundw
          case rel => exact ⟨k + 1, by omega, by go_num, HT.out HG.out, by (repeat' (first | (with_reducible exact Below.refl _ _) | (with_reducible assumption) | (with_reducible refine Below.alloc ?_ ?_ _) | (with_reducible refine Below.setCell ?_ ?_ _) | (with_reducible refine Below.drew ?_) | (with_reducible refine below_drewN ?_ _) | (with_reducible refine Below.trans ?_ (Below.mono (by assumption) ?_)) | (with_reducible exact Nat.le_refl _) | (simp; done) | omega | (simp at *; omega)))⟩
          case measure => simp [intOf]; omega
        · have HG := Lib.hid hg
          go_wp2_with fail
          refine (impl_IsCell _ _ _).mono ?_; rintro e w1 ⟨rfl, b1⟩
          rw [hg]
          clear hg hc0 hc1
          go_wp2
          go_returns
          exact ⟨ret_bool (by unfold goodL; rw [HN.out HG.out, Bool.and_false]), by (repeat' (first | (with_reducible exact Below.refl _ _) | (with_reducible assumption) | (with_reducible refine Below.alloc ?_ ?_ _) | (with_reducible refine Below.setCell ?_ ?_ _) | (with_reducible refine Below.drew ?_) | (with_reducible refine below_drewN ?_ _) | (with_reducible refine Below.trans ?_ (Below.mono (by assumption) ?_)) | (with_reducible exact Nat.le_refl _) | (simp; done) | omega | (simp at *; omega)))⟩
      · obtain rfl : k = l.length := by omega
        rw [List.take_length] at hall
        have HQ := Lib.hid hall
        clear hall
        go_wp2
        go_returns
        exact ⟨ret_bool (by unfold goodL; rw [HQ.out, Bool.and_true]; (first | rfl | (refine Bool.eq_iff_iff.2 ?_; simp only [Bool.and_eq_true, Bool.or_eq_true, Bool.not_eq_true', decide_eq_true_eq, decide_eq_false_iff_not, beq_iff_eq, bne_iff_ne, ne_eq, true_iff, iff_true, false_iff, iff_false, Bool.false_eq_true, Bool.true_eq_false] <;> omega) | (simp; omega))), hb⟩
  · have hlb : (90 : Int) < (l.length : Int) := by omega
    go_enter Try.func84, Try.ntmps84
    go_wp2
    go_returns
    exact ⟨ret_bool (by unfold goodL; simp [h90]), by (repeat' (first | (with_reducible exact Below.refl _ _) | (with_reducible assumption) | (with_reducible refine Below.alloc ?_ ?_ _) | (with_reducible refine Below.setCell ?_ ?_ _) | (with_reducible refine Below.drew ?_) | (with_reducible refine below_drewN ?_ _) | (with_reducible refine Below.trans ?_ (Below.mono (by assumption) ?_)) | (with_reducible exact Nat.le_refl _) | (simp; done) | omega | (simp at *; omega)))⟩
end Go.Proofs.Ytlambflmabecfaa
