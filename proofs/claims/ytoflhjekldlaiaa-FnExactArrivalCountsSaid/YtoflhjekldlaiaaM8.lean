/- Contracts of the program and of the model, walked, part 8 of 9. No condition but what each says. -/
import Derived.StillTailTactics
import Derived.Test.YtoflhjekldlaiaaM3
import Derived.Test.YtoflhjekldlaiaaM1
import Derived.Deep.RegionLaw
import Derived.Deep.AppendLies
import Derived.Test.YtoflhjekldlaiaaM7
import Derived.Test.YtoflhjekldlaiaaM5
import Derived.ChangeSlices
import Derived.Test.YtoflhjekldlaiaaM6
namespace Go.Proofs.Ytoflhjekldlaiaa
open Go.ChangeShapes Go.WideShapes Go.ChangeAt Go.RowKit Go.Joins Go.Deep
set_option linter.unusedSimpArgs false
set_option linter.unusedVariables false
set_option maxRecDepth 100000
set_option maxHeartbeats 2000000
def seqI : Int → Nat → List Int
  | _, 0 => []
  | k, n + 1 => k :: seqI (k + 1) n
theorem ints_seqI : ∀ (k : Int) (n : Nat), ints (seqI k n) = marks k n
  | _, 0 => rfl
  | k, n + 1 => by
    show .int .i64 k :: ints (seqI (k + 1) n) = marks k (n + 1)
    rw [ints_seqI (k + 1) n]
    rfl
theorem seqI_len : ∀ (k : Int) (n : Nat), (seqI k n).length = n
  | _, 0 => rfl
  | k, n + 1 => by simp [seqI, seqI_len]
def tot : List (List Int) → Nat
  | [] => 0
  | l :: L => l.length + tot L
def seqLL : Int → List (List Int) → List (List Int)
  | _, [] => []
  | k, l :: L => seqI k l.length :: seqLL (k + l.length) L
theorem seqLL_len : ∀ (k : Int) (L : List (List Int)), (seqLL k L).length = L.length
  | _, [] => rfl
  | k, l :: L => by simp [seqLL, seqLL_len]
theorem tot_app : ∀ (a b : List (List Int)), tot (a ++ b) = tot a + tot b
  | [], b => by simp [tot]
  | l :: a, b => by
    show l.length + tot (a ++ b) = l.length + tot a + tot b
    rw [tot_app a b]
    omega
theorem seqLL_app : ∀ (k : Int) (a b : List (List Int)), seqLL k (a ++ b) = seqLL k a ++ seqLL (k + tot a) b
  | k, [], b => by simp [seqLL, tot]
  | k, l :: a, b => by
    show seqI k l.length :: seqLL (k + l.length) (a ++ b) = seqI k l.length :: (seqLL (k + l.length) a ++ seqLL (k + tot (l :: a)) b)
    rw [seqLL_app (k + l.length) a b, show k + (tot (l :: a) : Int) = k + l.length + tot a by show k + ((l.length + tot a : Nat) : Int) = _; omega]
theorem tot_take {L : List (List Int)} {j : Nat} (h : j < L.length) : tot (L.take (j + 1)) = tot (L.take j) + (L.getD j []).length := by
  rw [List.take_succ_eq_append_getElem h, tot_app, List.getD_eq_getElem?_getD, List.getElem?_eq_getElem h]
  rfl
theorem tot_le (L : List (List Int)) (j : Nat) : tot (L.take j) ≤ tot L := by
  have h := tot_app (L.take j) (L.drop j)
  rw [List.take_append_drop] at h
  omega
theorem seqLL_getD {k : Int} {L : List (List Int)} {j : Nat} (h : j < L.length) : (seqLL k L).getD j [] = seqI (k + tot (L.take j)) (L.getD j []).length := by
  have e : L = L.take j ++ (L.getD j [] :: L.drop (j + 1)) := by
    have h2 := List.take_append_drop j L
    rw [List.drop_eq_getElem_cons h] at h2
    rw [List.getD_eq_getElem?_getD, List.getElem?_eq_getElem h]
    exact h2.symm
  have e2 : (seqLL k L).getD j [] = (seqLL k (L.take j ++ (L.getD j [] :: L.drop (j + 1)))).getD j [] := congrArg (fun x => (seqLL k x).getD j []) e
  rw [e2, seqLL_app, List.getD_eq_getElem?_getD, List.getElem?_append_right (by rw [seqLL_len, List.length_take]; omega), seqLL_len, List.length_take, show j - min j L.length = 0 by omega]
  rfl
/-- What a marking run has written behind j rounds. -/
def semi (k : Int) (L : List (List Int)) (j : Nat) : List (List Int) := seqLL k (L.take j) ++ L.drop j
theorem semi_len (k : Int) (L : List (List Int)) (j : Nat) : (semi k L j).length = L.length := by
  unfold semi
  rw [List.length_append, seqLL_len, ← List.length_append, List.take_append_drop]
theorem semi_zero (k : Int) (L : List (List Int)) : semi k L 0 = L := rfl
theorem semi_all (k : Int) (L : List (List Int)) : semi k L L.length = seqLL k L := by
  unfold semi
  rw [List.take_length, List.drop_length, List.append_nil]
theorem semi_getD {k : Int} {L : List (List Int)} {j : Nat} (h : j < L.length) : (semi k L j).getD j [] = L.getD j [] := by
  unfold semi
  rw [List.getD_eq_getElem?_getD, List.getElem?_append_right (by rw [seqLL_len, List.length_take]; omega), seqLL_len, List.length_take, show j - min j L.length = 0 by omega, List.getElem?_drop, Nat.add_zero, List.getD_eq_getElem?_getD]
theorem semi_step {k : Int} {L : List (List Int)} {j : Nat} (h : j < L.length) : (semi k L j).set j (seqI (k + tot (L.take j)) (L.getD j []).length) = semi k L (j + 1) := by
  have hl : (seqLL k (L.take j)).length = j := by rw [seqLL_len, List.length_take]; omega
  unfold semi
  rw [List.set_append_right _ _ (by omega), hl, Nat.sub_self, List.drop_eq_getElem_cons h, List.set_cons_zero, List.take_succ_eq_append_getElem h, seqLL_app, List.append_assoc, List.getD_eq_getElem?_getD, List.getElem?_eq_getElem h]
  rfl
/-- The words of the outer row. -/
def rowsV (As : Nat → Option Addr) (cs : Nat → Nat) (L : List (List Int)) : List Value := (List.range L.length).map fun i => .slice (As i) (L.getD i []).length (cs i)
theorem rowsV_len (As : Nat → Option Addr) (cs : Nat → Nat) (L : List (List Int)) : (rowsV As cs L).length = L.length := by simp [rowsV]
theorem rowsV_at {As : Nat → Option Addr} {cs : Nat → Nat} {L : List (List Int)} {i : Nat} (h : i < L.length) : (rowsV As cs L)[i]? = some (.slice (As i) (L.getD i []).length (cs i)) := by
  unfold rowsV
  rw [List.getElem?_map, List.getElem?_range h]
  rfl
theorem rowsV_congr {As : Nat → Option Addr} {cs : Nat → Nat} {L M : List (List Int)} (hl : L.length = M.length) (h : ∀ i, i < L.length → (L.getD i []).length = (M.getD i []).length) : rowsV As cs L = rowsV As cs M := by
  unfold rowsV
  rw [← hl]
  refine List.map_congr_left fun i hi => ?_
  rw [h i (List.mem_range.1 hi)]
structure SSr (w : World) (base : Nat) (A : Option Addr) (As : Nat → Option Addr) (cs : Nat → Nat) (L : List (List Int)) : Prop where
  outer : Own w A 45 (rowsV As cs L)
  inner : ∀ i, i < L.length → Own w (As i) 3 (ints (L.getD i []))
  lo : ∀ a, A = some a → base ≤ a.block
  los : ∀ i, i < L.length → ∀ a, As i = some a → base ≤ a.block
  apart : ∀ i j, i < L.length → j < L.length → i ≠ j → ∀ a a', As i = some a → As j = some a' → 0 < (L.getD i []).length → 0 < (L.getD j []).length → a.block ≠ a'.block
/-- The list of lists at A reads so. -/
def RdSS (w : World) (A : Option Addr) (L : List (List Int)) : Prop :=
  ∃ (As : Nat → Option Addr) (cs : Nat → Nat), Rd w w.heap.size A (rowsV As cs L) ∧ ∀ i, i < L.length → Rd w w.heap.size (As i) (ints (L.getD i []))
variable {w w' : World} {base : Nat} {A : Option Addr} {As : Nat → Option Addr} {cs : Nat → Nat} {L : List (List Int)}
theorem SSr.rd (h : SSr w base A As cs L) : RdSS w A L := ⟨As, cs, h.outer.rd, fun i hi => (h.inner i hi).rd⟩
theorem SSr.keep (h : SSr w base A As cs L) (hb : Below w.heap.size w w') : SSr w' base A As cs L :=
  ⟨h.outer.keep hb, fun i hi => (h.inner i hi).keep hb, h.lo, h.los, h.apart⟩
theorem RdSS.keep (h : RdSS w A L) (hb : Below w.heap.size w w') : RdSS w' A L := by
  obtain ⟨As, cs, h1, h2⟩ := h
  exact ⟨As, cs, (h1.below hb).mono hb.size, fun i hi => ((h2 i hi).below hb).mono hb.size⟩
/-- Another block turns, below base. -/
theorem SSr.fx {A' : Option Addr} {n : Nat} (h : SSr w base A As cs L) (hf : Fx w w' A' n) (hlo : 0 < n → ∀ a, A' = some a → a.block < base) : SSr w' base A As cs L :=
  ⟨h.outer.fx hf (fun hn _ a a' ha ha' => by have h1 := h.lo a ha; have h2 := hlo hn a' ha'; omega), fun i hi => (h.inner i hi).fx hf (fun hn _ a a' ha ha' => by have h1 := h.los i hi a ha; have h2 := hlo hn a' ha'; omega), h.lo, h.los, h.apart⟩
theorem set_lens {L : List (List Int)} {i : Nat} {new : List Int} (hi : i < L.length) (hlen : new.length = (L.getD i []).length) (j : Nat) : ((L.set i new).getD j []).length = (L.getD j []).length := by
  rw [List.getD_eq_getElem?_getD, List.getElem?_set]
  by_cases e : i = j
  · subst e
    rw [if_pos rfl, if_pos hi]
    exact hlen
  · rw [if_neg e, List.getD_eq_getElem?_getD]
theorem SSr.mark {i : Nat} {new : List Int} (h : SSr w base A As cs L) (hi : i < L.length) (hlen : new.length = (L.getD i []).length) (ho : Own w' (As i) 3 (ints new)) (hf : Fx w w' (As i) new.length) : SSr w' base A As cs (L.set i new) := by
  have hl : (L.set i new).length = L.length := List.length_set ..
  have hr : rowsV As cs (L.set i new) = rowsV As cs L := rowsV_congr hl (fun j _ => set_lens hi hlen j)
  refine ⟨?_, fun j hj => ?_, h.lo, fun j hj => h.los j (by rw [← hl]; exact hj), fun j j' hj hj' hne a a' ha ha' h1 h2 => ?_⟩
  · rw [hr]
    refine h.outer.fx hf (fun hn hx a a' ha ha' => ?_)
    obtain ⟨g, rest, e, hw⟩ := h.inner i hi (by rw [ints_length]; omega)
    rw [e] at ha'
    cases ha'
    exact own_apart h.outer hw (by decide) hx ha
  · rw [hl] at hj
    by_cases e : i = j
    · subst e
      rw [List.getD_eq_getElem?_getD, List.getElem?_set, if_pos rfl, if_pos hi]
      exact ho
    · have e2 : (L.set i new).getD j [] = L.getD j [] := by rw [List.getD_eq_getElem?_getD, List.getElem?_set, if_neg e, List.getD_eq_getElem?_getD]
      rw [e2]
      exact (h.inner j hj).fx hf (fun hn hx a a' ha ha' => h.apart j i hj hi (fun h => e h.symm) a a' ha ha' (by rw [ints_length] at hx; exact hx) (by omega))
  · rw [hl] at hj hj'
    rw [set_lens hi hlen] at h1 h2
    exact h.apart j j' hj hj' hne a a' ha ha' h1 h2
theorem takeL_step {l m : List (List Int)} {k : Nat} (h1 : k < l.length) (h2 : k < m.length) (h : l.take k = m.take k) : l.getD k [] = m.getD k [] → l.take (k + 1) = m.take (k + 1) := fun a => by
  rw [List.getD_eq_getElem?_getD, List.getElem?_eq_getElem h1, List.getD_eq_getElem?_getD, List.getElem?_eq_getElem h2] at a
  rw [List.take_succ_eq_append_getElem h1, List.take_succ_eq_append_getElem h2, h, show l[k] = m[k] from a]
theorem len_of_tot {L : List (List Int)} (j : Nat) (h : j < L.length) : (L.getD j []).length ≤ tot L := by
  have h1 := tot_take h
  have h2 := tot_le L (j + 1)
  omega
set_option maxRecDepth 100000 in
theorem eqIntSS_any (A A' : Option Addr) (cap cap' : Nat) (l m : List (List Int)) (w : World) (hn : l.length ≤ 1048576) (hm : m.length ≤ 1048576) (ht : tot l ≤ 1048576) (ht' : tot m ≤ 1048576) (hr : RdSS w A l) (hr' : RdSS w A' m) :
    Calls Try.prog 25 #[.slice A l.length cap, .slice A' m.length cap'] w fun e w' => e = .returned (.bool (decide (l = m))) ∧ Below w.heap.size w w' := by
  by_cases hlm : l.length = m.length
  · have hlb : ((l.length : Int) != (m.length : Int)) = false := by simp [hlm]
    rw [← hlm] at hlb ⊢
    have HL := Lib.hid hlm
    obtain ⟨As, cs, hr1, hr2⟩ := hr
    obtain ⟨As', cs', hs1, hs2⟩ := hr'
    clear hlm
    go_enter Try.func25, Try.ntmps25
    go_wp2
    go_loopw [5] (fun i wr => ∃ k : Nat, k ≤ l.length ∧ i = .int .i64 k ∧ l.take k = m.take k ∧ Below w.heap.size w wr) (fun i _ => l.length - (intOf i).toNat)
    case atStart => exact ⟨0, Nat.zero_le _, rfl, rfl, by (repeat' (first | (with_reducible exact Below.refl _ _) | (with_reducible assumption) | (with_reducible refine Below.alloc ?_ ?_ _) | (with_reducible refine Below.setCell ?_ ?_ _) | (with_reducible refine Below.drew ?_) | (with_reducible refine below_drewN ?_ _) | (with_reducible refine Below.trans ?_ (Below.mono (by assumption) ?_)) | (with_reducible exact Nat.le_refl _) | (simp; done) | omega | (simp at *; omega)))⟩
    case round =>
      obtain ⟨k, hk, rfl, heq, hb⟩ := hrel
      by_cases hlt : k < l.length
      · have hltm : k < m.length := by have := HL.out; omega
        obtain ⟨b, o, rfl, hbl, hc⟩ := hr1 (by rw [rowsV_len]; omega)
        obtain ⟨b', o', rfl, hbl', hc'⟩ := hs1 (by rw [rowsV_len]; omega)
        have hc0 : wr.cell? ⟨b, o + k, none⟩ = some (.slice (As k) (l.getD k []).length (cs k)) := (hb.cell (p := ⟨b, _, none⟩) hbl).trans (hc _ _ (rowsV_at hlt))
        have hd0 : wr.cell? ⟨b', o' + k, none⟩ = some (.slice (As' k) (m.getD k []).length (cs' k)) := (hb.cell (p := ⟨b', _, none⟩) hbl').trans (hc' _ _ (rowsV_at hltm))
        have hs : w.heap.size ≤ wr.heap.size := hb.size
        have HR := Lib.hid (hr2 k hlt)
        have HR' := Lib.hid (hs2 k hltm)
        have HT := Lib.hid (takeL_step hlt hltm heq)
        have HN := Lib.hid (fun (h : l = m) => (show l.getD k [] = m.getD k [] by rw [h]))
        have hx1 := len_of_tot k hlt
        have hx2 := len_of_tot k hltm
        clear hr2 hs2 hc hc' heq
        generalize l.getD k [] = x at *
        generalize m.getD k [] = x' at *
        generalize As k = Ak at *
        generalize As' k = Ak' at *
        generalize cs k = ck at *
        generalize cs' k = ck' at *
        go_wp2_with fail
        go_still_tail 8, (by kernel_rfl)
        change wpList _ _ _ _ _ wr.drew
        have hb2 : Below w.heap.size w wr.drew := hb.drew
        have hs2 : w.heap.size ≤ wr.drew.heap.size := hs
        generalize wr.drew = w2 at *
        clear hc0 hd0 hb
        go_wp2_with fail
        by_cases hxy : x = x'
        · refine (eqIntS_any _ _ _ _ x x' _ (by omega) (by omega) ((HR.out.below hb2).mono hs2) ((HR'.out.below hb2).mono hs2)).mono ?_; rintro e w3 ⟨rfl, b3⟩
          rw [decide_eq_true hxy]
          have HX := Lib.hid hxy
          clear hxy
          go_wp2
          go_roundw
          case rel => exact ⟨k + 1, by omega, by go_num, HT.out HX.out, by (repeat' (first | (with_reducible exact Below.refl _ _) | (with_reducible assumption) | (with_reducible refine Below.alloc ?_ ?_ _) | (with_reducible refine Below.setCell ?_ ?_ _) | (with_reducible refine Below.drew ?_) | (with_reducible refine below_drewN ?_ _) | (with_reducible refine Below.trans ?_ (Below.mono (by assumption) ?_)) | (with_reducible exact Nat.le_refl _) | (simp; done) | omega | (simp at *; omega)))⟩
          case measure => simp [intOf]; omega
        · refine (eqIntS_any _ _ _ _ x x' _ (by omega) (by omega) ((HR.out.below hb2).mono hs2) ((HR'.out.below hb2).mono hs2)).mono ?_; rintro e w3 ⟨rfl, b3⟩
          rw [decide_eq_false hxy]
          have HX := Lib.hid hxy
          clear hxy
          go_wp2
          go_returns
          exact ⟨ret_bool (decide_eq_false (fun h => HX.out (HN.out h))).symm, by (repeat' (first | (with_reducible exact Below.refl _ _) | (with_reducible assumption) | (with_reducible refine Below.alloc ?_ ?_ _) | (with_reducible refine Below.setCell ?_ ?_ _) | (with_reducible refine Below.drew ?_) | (with_reducible refine below_drewN ?_ _) | (with_reducible refine Below.trans ?_ (Below.mono (by assumption) ?_)) | (with_reducible exact Nat.le_refl _) | (simp; done) | omega | (simp at *; omega)))⟩
      · obtain rfl : k = l.length := by omega
        rw [List.take_length, HL.out, List.take_length] at heq
        have HQ := Lib.hid heq
        clear heq
        go_wp2
        go_returns
        exact ⟨ret_bool (decide_eq_true HQ.out).symm, hb⟩
  · have hlb : ((l.length : Int) != (m.length : Int)) = true := by simp; omega
    go_enter Try.func25, Try.ntmps25
    go_wp2
    go_returns
    exact ⟨ret_bool (by simp; intro h; exact hlm (by rw [h])), by (repeat' (first | (with_reducible exact Below.refl _ _) | (with_reducible assumption) | (with_reducible refine Below.alloc ?_ ?_ _) | (with_reducible refine Below.setCell ?_ ?_ _) | (with_reducible refine Below.drew ?_) | (with_reducible refine below_drewN ?_ _) | (with_reducible refine Below.trans ?_ (Below.mono (by assumption) ?_)) | (with_reducible exact Nat.le_refl _) | (simp; done) | omega | (simp at *; omega)))⟩
theorem markIntSS_any (A : Option Addr) (As : Nat → Option Addr) (cs : Nat → Nat) (cap : Nat) (L : List (List Int)) (k : Int) (base : Nat) (w : World) (hn : L.length ≤ 1048576) (ht : tot L ≤ 1048576) (h0 : 0 ≤ k) (h1 : k ≤ 8388608) (hbase : base ≤ w.heap.size) (ho : SSr w base A As cs L) :
    Calls Try.prog 26 #[.slice A L.length cap, .int .i64 k] w fun e w' => e = .returned (.int .i64 (k + tot L)) ∧ SSr w' base A As cs (seqLL k L) ∧ Below base w w' := by
  go_enter Try.func26, Try.ntmps26
  go_wp2
  go_loopw [1, 5] (fun q i wr => ∃ j : Nat, j ≤ L.length ∧ i = .int .i64 j ∧ q = .int .i64 (k + tot (L.take j)) ∧ SSr wr base A As cs (semi k L j) ∧ Below base w wr) (fun _ i _ => L.length - (intOf i).toNat)
  case atStart => exact ⟨0, Nat.zero_le _, rfl, by simp [tot], by rw [semi_zero]; exact ho, Below.refl _ _⟩
  case round =>
    obtain ⟨j, hj, rfl, rfl, hS, hb⟩ := hrel
    by_cases hlt : j < L.length
    · have hjl : j < (semi k L j).length := by rw [semi_len]; exact hlt
      obtain ⟨g, rest, hA, hw⟩ := hS.outer (by rw [rowsV_len]; omega)
      have hc0 : wr.cell? ⟨g, j, none⟩ = some (.slice (As j) (L.getD j []).length (cs j)) := by
        rw [hw.cell, List.getElem?_append_left (by rw [rowsV_len]; exact hjl), rowsV_at hjl, semi_getD hlt]
      subst hA
      have hin := hS.inner j hjl
      rw [semi_getD hlt] at hin
      have h2 := tot_le L j
      have h3 := len_of_tot j hlt
      have HT := Lib.hid (tot_take hlt)
      have HS := Lib.hid hS
      have HSt := Lib.hid (semi_step (k := k) hlt)
      have HLo := Lib.hid (hS.los j hjl)
      have hs := hb.size
      have HG := Lib.hid (semi_getD (k := k) hlt)
      have HJl := Lib.hid hjl
      clear hS hw hjl
      generalize hnl : L.getD j [] = x at *
      generalize hAk : As j = Ak at *
      generalize cs j = ck at *
      generalize htk : tot (L.take j) = tk at *
      have HA := Lib.hid hAk
      clear hAk hnl htk
      go_wp2_with fail
      refine (markIntS_n _ _ x.length (ints x) _ _ (ints_length x) (by omega) (by omega) (by omega) hin).mono ?_; rintro e w2 ⟨rfl, o, b⟩
      clear hc0
      have HS2 : SSr w2 base (some ⟨g, 0, none⟩) As cs (semi k L (j + 1)) := by
        rw [← HSt.out]
        refine HS.out.mark HJl.out (by rw [seqI_len, HG.out]) ?_ ?_
        · rw [ints_seqI, HA.out]; exact o
        · rw [seqI_len, HA.out]; exact b
      have hb2 : Below base wr w2 := b.below (by omega) HLo.out
      have hb3 := hb.trans hb2
      clear b hb2 hb o hin
      go_wp2
      go_roundw
      case rel => exact ⟨j + 1, by omega, by go_num, by rw [HT.out]; go_num, HS2, hb3⟩
      case measure => simp [intOf]; omega
    · obtain rfl : j = L.length := by omega
      rw [semi_all] at hS
      rw [List.take_length]
      go_wp2
      go_returns
      exact ⟨rfl, hS, hb⟩
theorem heldIntSS_any (A : Option Addr) (As : Nat → Option Addr) (cs : Nat → Nat) (cap : Nat) (L : List (List Int)) (k : Int) (base : Nat) (w : World) (hn : L.length ≤ 1048576) (ht : tot L ≤ 1048576) (h0 : 0 ≤ k) (h1 : k ≤ 8388608) (ho : SSr w base A As cs (seqLL k L)) :
    Calls Try.prog 27 #[.slice A L.length cap, .int .i64 k] w fun e w' => e = .returned (.int .i64 (k + tot L)) ∧ w = w' := by
  have hl := seqLL_len k L
  have HO := Lib.hid ho
  clear ho
  go_enter Try.func27, Try.ntmps27
  go_wp2
  go_loop [1, 5] (fun q i => ∃ j : Nat, j ≤ L.length ∧ i = .int .i64 j ∧ q = .int .i64 (k + tot (L.take j))) (fun _ i => L.length - (intOf i).toNat)
  case atStart => exact ⟨0, Nat.zero_le _, rfl, by simp [tot]⟩
  case round =>
    obtain ⟨j, hj, rfl, rfl⟩ := hrel
    by_cases hlt : j < L.length
    · have hjl : j < (seqLL k L).length := by rw [hl]; exact hlt
      obtain ⟨g, rest, hA, hw⟩ := HO.out.outer (by rw [rowsV_len]; omega)
      have hc0 : w.cell? ⟨g, j, none⟩ = some (.slice (As j) (L.getD j []).length (cs j)) := by
        rw [hw.cell, List.getElem?_append_left (by rw [rowsV_len]; exact hjl), rowsV_at hjl, seqLL_getD hlt, seqI_len]
      have hin := HO.out.inner j hjl
      rw [seqLL_getD hlt, ints_seqI] at hin
      have h2 := tot_le L j
      have h3 := len_of_tot j hlt
      have HT := Lib.hid (tot_take hlt)
      subst hA
      clear hw hjl
      generalize L.getD j [] = x at *
      generalize As j = Ak at *
      generalize cs j = ck at *
      generalize tot (L.take j) = tk at *
      go_wp2_with fail
      refine (heldIntS_any _ _ x.length _ _ (by omega) (by omega) (by omega) hin).mono ?_; rintro e w2 ⟨rfl, rfl⟩
      go_wp2
      go_round
      case rel => exact ⟨j + 1, by omega, by go_num, by rw [HT.out]; go_num⟩
      case measure => simp [intOf]; omega
    · obtain rfl : j = L.length := by omega
      rw [List.take_length]
      go_wp2
      go_returns
      exact ⟨rfl, rfl⟩
end Go.Proofs.Ytoflhjekldlaiaa
namespace Go.Proofs.Ytoflhjekldlaiaa
open Go.ChangeShapes Go.WideShapes Go.ChangeAt Go.RowKit Go.Joins Go.Deep
set_option linter.unusedSimpArgs false
set_option linter.unusedVariables false
set_option maxRecDepth 100000
set_option maxHeartbeats 4000000
def rowVals (gs : List Nat) : List Value := gs.map fun g => .slice (some ⟨g, 0, none⟩) 2 2
theorem zlistsInfo : (Try.prog.info? 45).map (fun i => (i.zero, i.size, i.bytes)) = some (some (.slice none 0 0), 1, 24) := by kernel_rfl
def zlst (n : Nat) : List Value := List.replicate n (.slice none 0 0)
theorem run_make_lists0 (n : Nat) (hn : n ≤ 1048576) (w : World) :
    (Instr.makeSlice 40 (.int .i64 0) (.int .i64 (n : Int))).run Try.prog w = .ok (.slice (some ⟨w.heap.size, 0, none⟩) 0 n) (w.alloc (.cells (zlst n).toArray 45)) := by
  obtain ⟨i0, hi, hz0, hz1, hz2⟩ := info_parts zlistsInfo
  have h := run_make (P := Try.prog) w 40 45 i0 _ Try.underlying40 hi hz0 .i64 .i64 0 (n : Int) (by omega) (by omega) (by rw [hz2]; omega) (by omega)
  rw [hz1] at h
  simp only [Int.toNat_natCast] at h
  have e : madeCells (Value.slice none 0 0).cells (n * 1) = (zlst n).toArray := by
    apply Array.ext
    · simp [madeCells, zlst]
    · intro i h1 h2
      simp [madeCells, zlst, Value.cells, Nat.mod_one]
  rw [h, e]
  rfl
theorem div_pair {a b c : Nat} (hb : b < c) : ((a * c + b : Nat) : Int).tdiv (c : Int) = (a : Int) ∧ ((a * c + b : Nat) : Int).tmod (c : Int) = (b : Int) := by
  have h1 : (a * c + b) / c = a := by rw [Nat.add_comm, Nat.add_mul_div_right _ _ (by omega), Nat.div_eq_of_lt hb, Nat.zero_add]
  have h2 : (a * c + b) % c = b := by rw [Nat.add_comm, Nat.add_mul_mod_self_right, Nat.mod_eq_of_lt hb]
  constructor
  · rw [← Int.ofNat_tdiv, h1]
  · rw [← Int.ofNat_tmod, h2]
/-- Lists of two numbers each, all the call's own and apart, and whether it succeeds. -/
def PostW (w : World) (L : List (List Int)) (ok : Bool) (e : Ending) (w' : World) : Prop :=
  ∃ A cp As cs, e = .returned (.tuple #[.slice A L.length cp, .bool ok]) ∧ SSr w' w.heap.size A As cs L ∧ Below w.heap.size w w'
theorem nIs_getD {wy : List (List Nat)} {i : Nat} (h : i < wy.length) : (wy.map nI).getD i [] = nI wy[i] := by
  rw [List.getD_eq_getElem?_getD, List.getElem?_map, List.getElem?_eq_getElem h]
  rfl
theorem PostW.of_rows {w w' : World} {r c n : Nat} {wy : List (List Nat)} {gs : List Nat} {v : Value} (hn : wy.length = n) (hgl : gs.length = n) (hW : wayOK r c wy) (hown : w'.ownsRow w.heap.size 45 1 v n (rowVals gs))
    (hrow : ∀ j (h : j < wy.length), j < n → Whole w' (gs.getD j 0) 3 (ints (nI wy[j]))) (hpw : gs.Pairwise (· < ·)) (hgb : ∀ g ∈ gs, w.heap.size ≤ g ∧ g < w'.heap.size) (hb : Below w.heap.size w w') :
    PostW w (wy.map nI) true (.returned (.tuple #[v, .bool true])) w' := by
  subst hn
  obtain ⟨A, cp, rfl⟩ := slice_of_row hown
  have ho := own_of_row hown
  have hm : ∀ i, i < wy.length → gs.getD i 0 ∈ gs := fun i hi => by
    rw [List.getD_eq_getElem?_getD, List.getElem?_eq_getElem (show i < gs.length by omega)]
    exact List.getElem_mem _
  have hrv : rowsV (fun i => some ⟨gs.getD i 0, 0, none⟩) (fun _ => 2) (wy.map nI) = rowVals gs := by
    unfold rowsV rowVals
    apply List.ext_getElem?
    intro i
    rw [List.getElem?_map, List.getElem?_map, List.length_map]
    by_cases hi : i < wy.length
    · rw [List.getElem?_range hi, List.getElem?_eq_getElem (show i < gs.length by omega)]
      obtain ⟨a, b, hp, _, _⟩ := hW _ (List.getElem_mem hi)
      show some (Value.slice (some ⟨gs.getD i 0, 0, none⟩) ((wy.map nI).getD i []).length 2) = some (Value.slice (some ⟨gs[i], 0, none⟩) 2 2)
      rw [nIs_getD hi, hp, List.getD_eq_getElem?_getD, List.getElem?_eq_getElem (show i < gs.length by omega)]
      rfl
    · rw [List.getElem?_eq_none (by rw [List.length_range]; omega), List.getElem?_eq_none (by omega)]
      rfl
  refine ⟨A, cp, fun i => some ⟨gs.getD i 0, 0, none⟩, fun _ => 2, by rw [List.length_map], ⟨?_, fun i hi => ?_, ho.2, fun i hi a ha => ?_, fun i j hi hj hne a a' ha ha' _ _ => ?_⟩, hb⟩
  · rw [hrv]
    exact ho.1
  · rw [List.length_map] at hi
    rw [nIs_getD hi]
    exact fun _ => ⟨gs.getD i 0, [], rfl, by rw [List.append_nil]; exact hrow i hi hi⟩
  · rw [List.length_map] at hi
    cases ha
    exact (hgb _ (hm i hi)).1
  · rw [List.length_map] at hi hj
    cases ha
    cases ha'
    have e1 : gs.getD i 0 = gs[i] := by rw [List.getD_eq_getElem?_getD, List.getElem?_eq_getElem (show i < gs.length by omega)]; rfl
    have e2 : gs.getD j 0 = gs[j] := by rw [List.getD_eq_getElem?_getD, List.getElem?_eq_getElem (show j < gs.length by omega)]; rfl
    show gs.getD i 0 ≠ gs.getD j 0
    rw [e1, e2]
    rcases Nat.lt_or_ge i j with h | h
    · have := List.pairwise_iff_getElem.1 hpw i j (by omega) (by omega) h
      omega
    · have := List.pairwise_iff_getElem.1 hpw j i (by omega) (by omega) (by omega)
      omega
theorem PostW.none_ {w w' : World} (b : Below w.heap.size w w') : PostW w [] false (.returned (.tuple #[.slice none 0 0, .bool false])) w' :=
  ⟨none, 0, fun _ => none, fun _ => 0, rfl, ⟨fun h => absurd h (by simp [rowsV]), fun i h => absurd h (Nat.not_lt_zero i), fun a ha => (by cases ha), fun i h => absurd h (Nat.not_lt_zero i), fun i j h => absurd h (Nat.not_lt_zero i)⟩, b⟩
theorem impl_WayOf_good (r c b o cap : Nat) (l : List (Int × Int)) (cl : Nat) (w : World) (ho : okF (r : Int) (c : Int) l (cl : Int) = true) (hg : goodB (r : Int) (c : Int) l = true) (hcl : cl < c) (hn : l.length ≤ 1048576) (hr' : Rd w w.heap.size (some ⟨b, o, none⟩) (flat l)) :
    Calls Try.prog 24 #[.agg #[.int .i64 (r : Int), .int .i64 (c : Int), .slice (some ⟨b, o, none⟩) l.length cap], .int .i64 (cl : Int)] w (PostW w ((marO (r : Int) (c : Int) l (cl : Int)).way.map nI) true) := by
  have HO := Lib.hid ho
  obtain ⟨_, h90, hpos⟩ := goodB_parts hg
  obtain ⟨s1, s2, s3, s4⟩ := sizeB_iff.1 (goodB_iff.1 hg).1
  obtain ⟨i0, hi, hz0, hz1, hz2⟩ := info_parts zlistsInfo
  have hW := marO_wayOK (r := r) (l := l) hcl
  have hwl : (marO (r : Int) (c : Int) l (cl : Int)).way.length ≤ r := by
    have h := flG_wayLen (numL c l) r c r 0 l cl 0 []
    show (flG (numL c l) r c r 0 l cl 0 []).way.length ≤ r
    simpa using h
  have hwp := marO_wayPos (r := r) (c := c) (l := l) (k := (cl : Int)) (by omega)
  have hmk := run_make_lists0 (marO (r : Int) (c : Int) l (cl : Int)).way.length (by omega)
  clear ho
  go_enter Try.func24, Try.ntmps24
  obtain ⟨v0, hv0⟩ : ∃ v, v = w.alloc (.cells #[.int .i64 (r : Int), .int .i64 (c : Int), .slice (some ⟨b, o, none⟩) l.length cap] 32) := ⟨_, rfl⟩; have X0 : Whole v0 w.heap.size 32 [.int .i64 (r : Int), .int .i64 (c : Int), .slice (some ⟨b, o, none⟩) l.length cap] := (by rw [hv0]; exact heap_alloc_new w _); have hb : Below w.heap.size w v0 := (by rw [hv0]; exact (Below.refl _ _).alloc (Nat.le_refl _) _); have HV := Lib.hid hv0.symm; clear hv0; go_upto_region 1 with (fail); rewrite [HV.out]; clear HV; have X0k0 : v0.cell? ⟨w.heap.size, 0, none⟩ = some (.int .i64 (r : Int)) := (X0.cell 0).trans rfl; have X0k1 : v0.cell? ⟨w.heap.size, 1, none⟩ = some (.int .i64 (c : Int)) := (X0.cell 1).trans rfl; have X0k2 : v0.cell? ⟨w.heap.size, 2, none⟩ = some (.slice (some ⟨b, o, none⟩) l.length cap) := (X0.cell 2).trans rfl
  go_wp2_with fail
  have bl : Below v0.heap.size v0 (v0.alloc (.cells #[.int .i64 (cl : Int)] 3)) := (Below.refl _ _).alloc (Nat.le_refl _) _; have Xl : Whole (v0.alloc (.cells #[.int .i64 (cl : Int)] 3)) v0.heap.size 3 [.int .i64 (cl : Int)] := heap_alloc_new v0 _; clear X0k0 X0k1 X0k2; replace X0 := X0.below bl X0.lt; replace hb := hb.trans (bl.mono hb.size); clear bl; generalize v0.alloc (.cells #[.int .i64 (cl : Int)] 3) = v1 at *
  refine (impl_areEntries1 _ _ _ _ l _ _ _ hn ((hr'.below hb).mono hb.size) Xl).mono ?_; rintro e w1 ⟨rfl, b1⟩
  rewrite [HO.out]
  replace X0 := X0.below b1 X0.lt; replace hb := hb.trans (b1.mono hb.size); clear b1
  clear Xl
  have X0k0 : w1.cell? ⟨w.heap.size, 0, none⟩ = some (.int .i64 (r : Int)) := (X0.cell 0).trans rfl; have X0k1 : w1.cell? ⟨w.heap.size, 1, none⟩ = some (.int .i64 (c : Int)) := (X0.cell 1).trans rfl; have X0k2 : w1.cell? ⟨w.heap.size, 2, none⟩ = some (.slice (some ⟨b, o, none⟩) l.length cap) := (X0.cell 2).trans rfl
  go_wp2_with fail
  refine (impl_fallAlone r c b o cap l cl _ hg ((hr'.below hb).mono hb.size) hcl).mono ?_; rintro e w2 ⟨A5, c5, rfl, O5, N5, b2⟩
  clear X0k0 X0k1 X0k2
  replace X0 := X0.below b2 X0.lt; replace hb := hb.trans (b2.mono hb.size); clear b2
  rw [wayI_nI] at O5
  clear N5
  generalize marO (r : Int) (c : Int) l (cl : Int) = F at *
  have hs2 := hb.size
  go_upto_region 4 with (fail)
  generalize hv3 : World.alloc _ _ = v3
  have b3 : Below w2.heap.size w2 v3 := by rw [← hv3]; exact (Below.refl _ _).alloc (Nat.le_refl _) _
  clear hv3
  replace X0 := X0.below b3 X0.lt
  replace O5 := O5.keep b3
  replace hb := hb.trans (b3.mono hs2)
  clear b3 hs2
  go_upto_region 5 with (fail)
  have hown := World.ownsRow_made (e := 45) (size := 1) (base := w.heap.size) v3 (zlst F.way.length).toArray F.way.length hb.size (by unfold maxLen; omega) (by simp [zlst])
  have ba : Below v3.heap.size v3 (v3.alloc (.cells (zlst F.way.length).toArray 45)) := (Below.refl _ _).alloc (Nat.le_refl _) _
  replace O5 := O5.keep ba
  replace X0 := X0.below ba X0.lt; replace hb := hb.trans (ba.mono hb.size); clear ba
  clear hmk
  generalize v3.alloc (.cells (zlst F.way.length).toArray 45) = v4 at *
  generalize v3.heap.size = Y at *
  obtain ⟨g5, rest5, rfl, X5⟩ := O5 (by rw [ints_length, nI_length, wayN_len]; exact hwp)
  clear O5
  go_wp2
  go_loopw [8, 27] (fun v i wr => ∃ (k : Nat) (gs : List Nat), i = .int .i64 k ∧ k ≤ F.way.length ∧ gs.length = k ∧ wr.ownsRow w.heap.size 45 1 v k (rowVals gs) ∧ (∀ j (h : j < F.way.length), j < k → Whole wr (gs.getD j 0) 3 (ints (nI F.way[j]))) ∧ gs.Pairwise (· < ·) ∧ (∀ g ∈ gs, w.heap.size ≤ g ∧ g < wr.heap.size) ∧ Whole wr w.heap.size 32 [.int .i64 (r : Int), .int .i64 (c : Int), .slice (some ⟨b, o, none⟩) l.length cap] ∧ Whole wr g5 3 (ints (nI (wayN c F.way)) ++ rest5) ∧ Below w.heap.size w wr) (fun _ i _ => F.way.length - (intOf i).toNat)
  case atStart => exact ⟨0, [], rfl, Nat.zero_le _, rfl, hown, fun j _ h => absurd h (Nat.not_lt_zero j), List.Pairwise.nil, fun g h => absurd h List.not_mem_nil, X0, X5, hb⟩
  case round =>
    clear hown X0 X5 hb
    obtain ⟨k, gs, rfl, hk, hgl, hown, hrow, hpw, hgb, X0, X5, hb⟩ := hrel
    have hs := hb.size
    by_cases hlt : k < F.way.length
    · obtain ⟨ra, rb, hp, hra, hrb⟩ := hW _ (List.getElem_mem hlt)
      have hnk : (ints (nI (wayN c F.way)) ++ rest5)[k]? = some (.int .i64 ((ra * c + rb : Nat) : Int)) := by
        rw [List.getElem?_append_left (by rw [ints_length, nI_length, wayN_len]; exact hlt), nI_atP (by rw [wayN_len]; exact hlt)]
        congr 2
        unfold wayN
        rw [List.getElem_map, hp]
        rfl
      have hck := (X5.cell k).trans hnk
      obtain ⟨hdq, hdm⟩ := div_pair (a := ra) (b := rb) (c := c) hrb
      have hcn : ¬ c = 0 := by omega
      have hcne : ¬ (c : Int) = 0 := by omega
      have hcb : ((c : Int) == 0) = false := by simpa using hcne
      have hw1 : IntKind.i64.wrap (ra : Int) = (ra : Int) := IntWalk.i64_in _ (by omega)
      have hw2 : IntKind.i64.wrap (rb : Int) = (rb : Int) := IntWalk.i64_in _ (by omega)
      have HP := Lib.hid hp
      have HRo := Lib.hid hrow
      clear hnk hp hrow
      generalize ra * c + rb = ix at *
      go_upto_region 8 with (fail)
      clear hck
      have bd : Below wr.heap.size wr wr.drew := (Below.refl _ _).drew
      replace hown := row_keep hown bd
      have X0d := X0.below bd X0.lt
      have hk1 : wr.drew.cell? ⟨w.heap.size, 1, none⟩ = some (.int .i64 (c : Int)) := (X0d.cell 1).trans rfl
      have hyw := X0d.lt
      have hsd := hb.drew.size
      have hown2 := (hown.alloc (.cells #[.int .i64 (ra : Int), .int .i64 (rb : Int)] 3)).alloc (.cells #[.slice (some ⟨wr.heap.size, 0, none⟩) 2 2] 45)
      have hcel : ∀ j u, [Value.slice (some ⟨wr.heap.size, 0, none⟩) 2 2][j]? = some u → ((wr.drew.alloc (.cells #[.int .i64 (ra : Int), .int .i64 (rb : Int)] 3)).alloc (.cells #[.slice (some ⟨wr.heap.size, 0, none⟩) 2 2] 45)).cell? ((⟨wr.heap.size + 1, 0, none⟩ : Addr).add j) = some u := by
        intro j u hj
        have h := one_cellI (w := wr.drew.alloc (.cells #[.int .i64 (ra : Int), .int .i64 (rb : Int)] 3)) (t := 45) j u hj
        rw [World.size_alloc] at h
        exact h
      have hbs : w.heap.size ≤ ((wr.drew.alloc (.cells #[.int .i64 (ra : Int), .int .i64 (rb : Int)] 3)).alloc (.cells #[.slice (some ⟨wr.heap.size, 0, none⟩) 2 2] 45)).heap.size := by
        rw [World.size_alloc, World.size_alloc]
        omega
      have HA := Lib.hid (And.intro hown2 (And.intro hcel hbs))
      clear hown2 hcel hbs
      go_region_law (first
        | (refine step_append_lies _ (by rfl) _ _ _ (by rfl) w.heap.size 45 i0 _ 1 24 Try.underlying40 hi hz0 hz1 hz2 rfl (by omega) u8 k (rowVals gs) (by simp [Act.eval, Act.put]) HA.out.1 ⟨wr.heap.size + 1, 0, none⟩ 1 1 [.slice (some ⟨wr.heap.size, 0, none⟩) 2 2] (by simp [Act.eval, Act.put]) rfl HA.out.2.1 one_oneL (by omega) (by unfold maxLen; omega) (by omega) HA.out.2.2 _ rfl ?_; intro g9 c9 w9 hown9 hg9 hat9 hlt9)
        | fail)
      all_goals
        have hY := HA.out.1
        have O1b : Below wr.heap.size wr ((wr.drew.alloc (.cells #[.int .i64 (ra : Int), .int .i64 (rb : Int)] 3)).alloc (.cells #[.slice (some ⟨wr.heap.size, 0, none⟩) 2 2] 45)) := (bd.alloc (Nat.le_refl _) _).alloc (by rw [World.size_alloc]; exact Nat.le_succ _) _
        have hkeep : ∀ {g : Nat} {t : TypeId} {xs : List Value}, 45 ≠ t → Whole wr g t xs → Whole w9 g t xs := fun hne hw => (hw.below O1b hw.lt).grown hg9 (row_apart hY (hw.below O1b hw.lt) hne)
        have Xn : Whole ((wr.drew.alloc (.cells #[.int .i64 (ra : Int), .int .i64 (rb : Int)] 3)).alloc (.cells #[.slice (some ⟨wr.heap.size, 0, none⟩) 2 2] 45)) wr.heap.size 3 [.int .i64 (ra : Int), .int .i64 (rb : Int)] := Whole.alloc (heap_alloc_new wr.drew (.cells #[.int .i64 (ra : Int), .int .i64 (rb : Int)] 3)) _
        have Xn9 := Xn.grown hg9 (row_apart hY Xn (by decide))
        have hb9 : Below w.heap.size w w9 := row_below hY (hb.trans (O1b.mono hs)) HA.out.2.2 hg9
        have X09 := hkeep (by decide) X0
        have X59 := hkeep (by decide) X5
        have hrow9 : ∀ j (h : j < F.way.length), j < k + 1 → Whole w9 ((gs ++ [wr.heap.size]).getD j 0) 3 (ints (nI F.way[j])) := fun j h hjk => by
          rw [List.getD_eq_getElem?_getD]
          by_cases e : j < k
          · rw [List.getElem?_append_left (by omega), ← List.getD_eq_getElem?_getD]
            exact hkeep (by decide) (HRo.out j h e)
          · have e2 : j = k := by omega
            subst e2
            rw [List.getElem?_append_right (by omega), hgl, Nat.sub_self, HP.out]
            exact Xn9
        have hpw9 : (gs ++ [wr.heap.size]).Pairwise (· < ·) := by
          rw [List.pairwise_append]
          refine ⟨hpw, List.pairwise_singleton _ _, fun a ha x hx => ?_⟩
          rw [List.mem_singleton] at hx
          subst hx
          exact (hgb a ha).2
        have hgb9 : ∀ g ∈ gs ++ [wr.heap.size], w.heap.size ≤ g ∧ g < w9.heap.size := fun g hg => by
          have h9 := Xn9.lt
          rcases List.mem_append.1 hg with h | h
          · have := hgb g h
            omega
          · rw [List.mem_singleton] at h
            subst h
            exact ⟨hs, h9⟩
        have HR9 := Lib.hid (⟨hrow9, hpw9, hgb9, X09, X59, hb9⟩ : _ ∧ _ ∧ _ ∧ _ ∧ _ ∧ _)
        clear hrow9 hpw9 hgb9 X09 X59 hb9 Xn Xn9 hkeep O1b hY HA HRo hpw hgb X0 X5 hb X0d hown hk1 bd hg9
        go_wp2
        go_roundw
      all_goals first
        | (obtain ⟨hrow9, hpw9, hgb9, X09, X59, hb9⟩ := HR9.out; exact ⟨k + 1, gs ++ [wr.heap.size], by go_num, by omega, by simp [hgl], by unfold rowVals at hown9 ⊢; rw [List.map_append]; exact hown9, hrow9, hpw9, hgb9, X09, X59, hb9⟩)
        | (simp [intOf]; omega)
        | fail
    · obtain rfl : k = F.way.length := by omega
      clear hlt
      go_wp2
      go_returns
      exact PostW.of_rows rfl hgl hW hown hrow hpw hgb hb
def wayM (R C : Int) (l : List (Int × Int)) (j : Int) : List (List Int) := (wayL R C l j).map nI
theorem impl_WayOf0 (R C : Int) (A : Option Addr) (cap : Nat) (l : List (Int × Int)) (j : Int) (w : World) (hn : l.length ≤ 1048576) (hr : Rd w w.heap.size A (flat l)) :
    Calls Try.prog 24 #[.agg #[.int .i64 R, .int .i64 C, .slice A l.length cap], .int .i64 j] w (PostW w ((wayL R C l j).map nI) (okF R C l j)) := by
  unfold wayL
  rcases Bool.eq_false_or_eq_true (okF R C l j) with ho | ho
  · obtain ⟨hg, h1, h2⟩ := okF_parts ho
    obtain ⟨_, _, hpos⟩ := goodB_parts hg
    obtain ⟨b, o, rfl, hbl, hc⟩ := hr (by rw [flat_length]; omega)
    have hr' : Rd w w.heap.size (some ⟨b, o, none⟩) (flat l) := fun _ => ⟨b, o, rfl, hbl, hc⟩
    obtain ⟨r, c, rfl, rfl, hG⟩ := geo_of hg
    obtain ⟨cl, rfl⟩ : ∃ cl : Nat, j = (cl : Int) := ⟨j.toNat, by omega⟩
    rw [ho, if_pos rfl]
    exact impl_WayOf_good r c b o cap l cl w ho hg (by omega) hn hr'
  · have HO := Lib.hid ho
    rw [ho]
    clear ho
    go_enter Try.func24, Try.ntmps24
    obtain ⟨v0, hv0⟩ : ∃ v, v = w.alloc (.cells #[.int .i64 R, .int .i64 C, .slice A l.length cap] 32) := ⟨_, rfl⟩; have X0 : Whole v0 w.heap.size 32 [.int .i64 R, .int .i64 C, .slice A l.length cap] := (by rw [hv0]; exact heap_alloc_new w _); have hb : Below w.heap.size w v0 := (by rw [hv0]; exact (Below.refl _ _).alloc (Nat.le_refl _) _); have HV := Lib.hid hv0.symm; clear hv0; go_upto_region 1 with (fail); rewrite [HV.out]; clear HV; have X0k0 : v0.cell? ⟨w.heap.size, 0, none⟩ = some (.int .i64 R) := (X0.cell 0).trans rfl; have X0k1 : v0.cell? ⟨w.heap.size, 1, none⟩ = some (.int .i64 C) := (X0.cell 1).trans rfl; have X0k2 : v0.cell? ⟨w.heap.size, 2, none⟩ = some (.slice A l.length cap) := (X0.cell 2).trans rfl
    go_wp2_with fail
    have bl : Below v0.heap.size v0 (v0.alloc (.cells #[.int .i64 j] 3)) := (Below.refl _ _).alloc (Nat.le_refl _) _; have Xl : Whole (v0.alloc (.cells #[.int .i64 j] 3)) v0.heap.size 3 [.int .i64 j] := heap_alloc_new v0 _; clear X0k0 X0k1 X0k2; replace X0 := X0.below bl X0.lt; replace hb := hb.trans (bl.mono hb.size); clear bl; generalize v0.alloc (.cells #[.int .i64 j] 3) = v1 at *
    refine (impl_areEntries1 _ _ _ _ l _ _ _ hn ((hr.below hb).mono hb.size) Xl).mono ?_; rintro e w1 ⟨rfl, b1⟩
    rewrite [HO.out]
    replace X0 := X0.below b1 X0.lt; replace hb := hb.trans (b1.mono hb.size); clear b1
    have hbs := hb.size
    go_wp2
    go_returns
    exact PostW.none_ hb
theorem impl_WayOf (R C : Int) (A : Option Addr) (cap : Nat) (l : List (Int × Int)) (j : Int) (w : World) (hn : l.length ≤ 1048576) (hr : Rd w w.heap.size A (flat l)) :
    Calls Try.prog 24 #[.agg #[.int .i64 R, .int .i64 C, .slice A l.length cap], .int .i64 j] w (PostW w (wayM R C l j) (okF R C l j)) := impl_WayOf0 R C A cap l j w hn hr
theorem wayL_tot (R C : Int) (l : List (Int × Int)) (j : Int) : ((wayL R C l j).map nI).length ≤ 1048576 ∧ tot ((wayL R C l j).map nI) ≤ 1048576 := by
  have h2 : ∀ (wy : List (List Nat)) (r c : Nat), wayOK r c wy → tot (wy.map nI) = 2 * wy.length := fun wy => by
    induction wy with
    | nil => intro r c _; rfl
    | cons p wy ih =>
      intro r c h
      obtain ⟨a, b, rfl, _, _⟩ := h p (List.mem_cons_self ..)
      show (nI [a, b]).length + tot (wy.map nI) = 2 * (wy.length + 1)
      rw [ih r c (fun q hq => h q (List.mem_cons_of_mem _ hq)), nI_length]
      simp
      omega
  unfold wayL
  split
  · next ho =>
    obtain ⟨hg, h1, h3⟩ := okF_parts ho
    obtain ⟨s1, s2, s3, s4⟩ := sizeB_iff.1 (goodB_iff.1 hg).1
    obtain ⟨r, c, rfl, rfl, hG⟩ := geo_of hg
    obtain ⟨cl, rfl⟩ : ∃ cl : Nat, j = (cl : Int) := ⟨j.toNat, by omega⟩
    have hw := marO_wayOK (r := r) (l := l) (show cl < c by omega)
    have hl : (marO (r : Int) (c : Int) l (cl : Int)).way.length ≤ r := by
      have h := flG_wayLen (numL c l) r c r 0 l cl 0 []
      show (flG (numL c l) r c r 0 l cl 0 []).way.length ≤ r
      simpa using h
    rw [h2 _ r c hw, List.length_map]
    omega
  · simp [tot]
theorem LRow.rdss {w : World} {base : Nat} {v : Value} {L : List (List Nat)} (h : LRow w base v L) : ∃ A cp, v = .slice A (L.map nI).length cp ∧ RdSS w A (L.map nI) := by
  obtain ⟨hs, h1, h2, h3⟩ := h
  obtain ⟨A, cp, rfl⟩ := slice_of_row h2
  have ho := own_of_row h2
  have hx : ∀ k, ∃ p : Option Addr × Nat, ∀ h : k < L.length, hs[k]? = some (.slice p.1 L[k].length p.2) ∧ Own w p.1 3 (ints (nI L[k])) := fun k => by
    by_cases hk : k < L.length
    · obtain ⟨B, cb, e1, e2, _⟩ := h3 k hk
      exact ⟨(B, cb), fun _ => ⟨e1, e2⟩⟩
    · exact ⟨(none, 0), fun h => absurd h hk⟩
  obtain ⟨f, hf⟩ := Classical.axiomOfChoice hx
  refine ⟨A, cp, by rw [List.length_map], fun i => (f i).1, fun i => (f i).2, ?_, fun i hi => ?_⟩
  · have e : rowsV (fun i => (f i).1) (fun i => (f i).2) (L.map nI) = hs := by
      unfold rowsV
      apply List.ext_getElem?
      intro i
      rw [List.getElem?_map, List.length_map]
      by_cases hi : i < L.length
      · rw [List.getElem?_range hi, (hf i hi).1]
        show some (Value.slice (f i).1 ((L.map nI).getD i []).length (f i).2) = some (Value.slice (f i).1 L[i].length (f i).2)
        rw [nIs_getD hi, nI_length]
      · rw [List.getElem?_eq_none (by rw [List.length_range]; omega), List.getElem?_eq_none (by omega)]
        rfl
    rw [e]
    exact ho.1.rd
  · rw [List.length_map] at hi
    rw [nIs_getD hi]
    exact (hf i hi).2.rd
theorem wayM_tot (R C : Int) (l : List (Int × Int)) (j : Int) : (wayM R C l j).length ≤ 1048576 ∧ tot (wayM R C l j) ≤ 1048576 := wayL_tot R C l j
theorem spec_WayOfP (R C : Int) (A : Option Addr) (cap : Nat) (l : List (Int × Int)) (j : Int) (w : World) (hn : l.length ≤ 1048576) (hr : Rd w w.heap.size A (flat l)) :
    Calls Try.prog 23 #[.agg #[.int .i64 R, .int .i64 C, .slice A l.length cap], .int .i64 j] w fun e w' => ∃ A' cp, e = .returned (.tuple #[.slice A' (wayM R C l j).length cp, .bool (okF R C l j)]) ∧ RdSS w' A' (wayM R C l j) ∧ Below w.heap.size w w' := by
  refine (spec_WayOf R C A cap l j w hn hr).mono ?_
  rintro e w' ⟨v, rfl, h1, h2⟩
  obtain ⟨A', cp, e3, h3⟩ := h1.rdss
  subst e3
  exact ⟨A', cp, rfl, h3, h2⟩
end Go.Proofs.Ytoflhjekldlaiaa
namespace Go.Proofs.Ytoflhjekldlaiaa
open Go.ChangeShapes Go.WideShapes Go.ChangeAt Go.RowKit Go.Joins Go.Deep
set_option linter.unusedSimpArgs false
set_option linter.unusedVariables false
set_option maxRecDepth 100000
set_option maxHeartbeats 1000000
set_option maxRecDepth 100000 in
theorem open_intL {H : Type} {enc : TypeId × Value → H} {W : World} {r : Reach} {b0 : Nat} {v : Value} {d : DataW H} {p : List MemPlace}
    (hv : Value.okWide Try.prog W r b0 45 v) (h : DataW.Trod enc Try.prog W 0 (fun _ => true) true 45 v d p) :
    ∃ (A : Option Addr) (cap : Nat) (l : List Int), v = .slice A l.length cap ∧ l.length ≤ maxLen ∧ Rd W W.heap.size A (ints l) := by
  obtain ⟨A, n, cap, rfl⟩ := okWide_slice Try.underlying45 hv
  obtain ⟨fuel, hf⟩ := h
  rcases Go.ChangeShapes.open_ints Try.underlying45 Try.underlying3 (by kernel_rfl) hf with ⟨hcs, hx⟩ | ⟨a, len, cap', zs, hcs, _, hl, hm, hz, hx, hi, hw⟩
  · obtain h1 := List.head_eq_of_cons_eq hcs
    rw [h1]
    exact ⟨none, 0, [], rfl, by simp, fun h => absurd h (by simp [ints])⟩
  · obtain h1 := List.head_eq_of_cons_eq hcs
    rw [h1]
    simp only [if_true] at hz
    have hlen : (zs.take len).length = len := by rw [List.length_take]; omega
    refine ⟨some a, cap', zs.take len, by rw [hlen], by omega, fun hpos => ?_⟩
    rw [ints_length, hlen] at hpos
    have h0 := hi 0 (by omega)
    obtain ⟨b, off, spot⟩ := a
    have hspot : spot = none := by simpa [Addr.add] using World.cell?_spot h0
    subst hspot
    refine ⟨b, off, rfl, by simpa [Addr.add] using lt_of_cell h0, fun j u hu => ?_⟩
    have hj : j < len := by
      have := (List.getElem?_eq_some_iff.1 hu).1
      rw [ints_length, hlen] at this
      exact this
    have h2 := hi j (by omega)
    rw [add_plain] at h2
    rw [h2, ← hu, ints_at _ j (by rw [hlen]; exact hj), List.getElem_take, List.getD_eq_getElem?_getD, List.getElem?_eq_getElem (by omega)]
    rfl
def partI (l : List Int) (k : Nat) : List Value := ints (l.take k) ++ zrow (l.length - k)
theorem partI_zero (l : List Int) : partI l 0 = zrow l.length := by simp [partI, ints]
theorem partI_all (l : List Int) : partI l l.length = ints l := by simp [partI, zrow]
theorem partI_at (l : List Int) (k : Nat) (h : k < l.length) : (partI l k)[k]? = some (.int .i64 0) := by
  have e : (ints (l.take k)).length = k := by rw [ints_length, List.length_take]; omega
  rw [partI, List.getElem?_append_right (by omega), e, zrow, List.getElem?_replicate, if_pos (by omega)]
theorem partI_step (l : List Int) (k : Nat) (h : k < l.length) : (partI l k).set k (.int .i64 l[k]) = partI l (k + 1) := by
  have e : (ints (l.take k)).length = k := by rw [ints_length, List.length_take]; omega
  have ez : zrow (l.length - k) = .int .i64 0 :: zrow (l.length - (k + 1)) := by
    rw [show l.length - k = l.length - (k + 1) + 1 by omega]
    rfl
  have ef : ints (l.take (k + 1)) = ints (l.take k) ++ [.int .i64 l[k]] := by
    rw [List.take_succ_eq_append_getElem h]
    simp only [ints, List.map_append, List.map_cons, List.map_nil]
  rw [partI, partI, ez, ef, List.set_append_right _ _ (by omega), e, Nat.sub_self]
  simp
theorem toIntS_any (A : Option Addr) (cap : Nat) (l : List Int) (w : World) (hn : l.length ≤ 1048576) (hr : Rd w w.heap.size A (ints l)) :
    Calls Try.prog 34 #[.slice A l.length cap] w fun e w' => ∃ g, e = .returned (.slice (some ⟨g, 0, none⟩) l.length l.length) ∧ Whole w' g 3 (ints l) ∧ w.heap.size ≤ g ∧ Below w.heap.size w w' := by
  have hmk := run_make_ints l.length hn
  go_enter Try.func34, Try.ntmps34
  go_wp2_with (fail)
  go_loopw [4] (fun i wr => ∃ k : Nat, k ≤ l.length ∧ i = .int .i64 k ∧ Whole wr w.heap.size 3 (partI l k) ∧ Below w.heap.size w wr) (fun i _ => l.length - (intOf i).toNat)
  case atStart => exact ⟨0, Nat.zero_le _, rfl, by rw [partI_zero]; exact heap_alloc_new w _, by (repeat' (first | (with_reducible exact Below.refl _ _) | (with_reducible assumption) | (with_reducible refine Below.alloc ?_ ?_ _) | (with_reducible refine Below.setCell ?_ ?_ _) | (with_reducible refine Below.drew ?_) | (with_reducible refine below_drewN ?_ _) | (with_reducible refine Below.trans ?_ (Below.mono (by assumption) ?_)) | (with_reducible exact Nat.le_refl _) | (simp; done) | omega | (simp at *; omega)))⟩
  case round =>
    obtain ⟨k, hk, rfl, hw, hb⟩ := hrel
    by_cases hlt : k < l.length
    · obtain ⟨b, o, rfl, hbl, hc⟩ := hr (by rw [ints_length]; omega)
      have hc0 : wr.cell? ⟨b, o + k, none⟩ = some (.int .i64 l[k]) := (hb.cell (p := ⟨b, _, none⟩) hbl).trans (hc _ _ (ints_at l k hlt))
      have hs : w.heap.size < wr.heap.size := hw.lt
      have HP := Lib.hid (partI_step l k hlt)
      have q0 : wr.cell? ⟨w.heap.size, k, none⟩ = some (.int .i64 0) := by rw [hw.cell]; exact partI_at l k hlt
      have f0 : wr.frozen? ⟨w.heap.size, k, none⟩ = false := hw.frozen _
      generalize l[k] = x at *
      clear hr hc
      go_wp2
      go_roundw
      case rel => exact ⟨k + 1, by omega, by go_num, by rw [← HP.out]; exact hw.set _ _, by (repeat' (first | (with_reducible exact Below.refl _ _) | (with_reducible assumption) | (with_reducible refine Below.alloc ?_ ?_ _) | (with_reducible refine Below.setCell ?_ ?_ _) | (with_reducible refine Below.drew ?_) | (with_reducible refine below_drewN ?_ _) | (with_reducible refine Below.trans ?_ (Below.mono (by assumption) ?_)) | (with_reducible exact Nat.le_refl _) | (simp; done) | omega | (simp at *; omega)))⟩
      case measure => simp [intOf]; omega
    · obtain rfl : k = l.length := by omega
      rw [partI_all] at hw
      go_wp2
      go_returns
      exact ⟨w.heap.size, rfl, hw, Nat.le_refl _, hb⟩
end Go.Proofs.Ytoflhjekldlaiaa
namespace Go.Proofs.Ytoflhjekldlaiaa
open Go.ChangeShapes Go.WideShapes Go.ChangeAt Go.RowKit Go.Joins Go.Deep
set_option linter.unusedSimpArgs false
set_option linter.unusedVariables false
set_option maxRecDepth 100000
set_option maxHeartbeats 4000000
theorem flG_num (nm : List Int) (r c : Nat) : ∀ (n row : Nat) (l : List (Int × Int)) (col : Nat) (side : Int) (way : List (List Nat)), numL c (flG nm r c n row l col side way).cells = numL c l
  | 0, _, _, _, _, _ => rfl
  | n + 1, row, l, col, side, way => by
    rw [flG_step nm r c n row l col side way _ _ rfl rfl]
    split
    · rfl
    · split
      · rw [flG_num nm r c n, passL_num]
      · exact passL_num _ _ _ _
theorem stA_num (nm : List Int) (r c : Nat) (l : List (Int × Int)) (cs : List Int) : ∀ k, numL c (stA nm r c l cs k).2 = numL c l
  | 0 => rfl
  | k + 1 => by
    unfold stA
    rw [flG_num]
    exact stA_num nm r c l cs k
theorem run_make_falls0 (n : Nat) (hn : n ≤ 1048576) (w : World) :
    (Instr.makeSlice 50 (.int .i64 0) (.int .i64 (n : Int))).run Try.prog w = .ok (.slice (some ⟨w.heap.size, 0, none⟩) 0 n) (w.alloc (.cells (zrow (3 * n)).toArray 27)) := by
  obtain ⟨i0, hi, hz0, hz1, hz2⟩ := info_parts fallInfo
  have h := run_make (P := Try.prog) w 50 27 i0 _ Try.underlying50 hi hz0 .i64 .i64 0 (n : Int) (by omega) (by omega) (by rw [hz2]; omega) (by omega)
  rw [hz1] at h
  simp only [Int.toNat_natCast] at h
  have e : madeCells (Value.agg #[.int .i64 0, .int .i64 0, .int .i64 0]).cells (n * 3) = (zrow (3 * n)).toArray := by
    apply Array.ext
    · simp [madeCells, zrow]; omega
    · intro i h1 h2
      have h3 : i % 3 = 0 ∨ i % 3 = 1 ∨ i % 3 = 2 := by omega
      rcases h3 with h3 | h3 | h3 <;> simp [madeCells, zrow, Value.cells, h3]
  rw [h, e]
  rfl
theorem two_cells3 {w : World} {o : Obj} {x y z : Value} {t : TypeId} : ∀ j u, [x, y, z][j]? = some u → ((w.alloc o).alloc (.cells #[x, y, z] t)).cell? ((⟨w.heap.size + 1, 0, none⟩ : Addr).add j) = some u := by
  intro j u h
  have hn := heap_alloc_new (w.alloc o) (.cells #[x, y, z] t)
  rw [World.size_alloc] at hn
  have hw : Whole ((w.alloc o).alloc (.cells #[x, y, z] t)) (w.heap.size + 1) t [x, y, z] := hn
  have hj := hw.cell j
  rw [h] at hj
  rw [← hj]
  by_cases h0 : j = 0
  · subst h0; simp [Addr.add]
  · simp [Addr.add, h0]
/-- Ends of marbles, a board, and whether it succeeds: all the call's own. -/
def PostF (w : World) (R C : Int) (l : List (Int × Int)) (fs : List (Int × Int × Int)) (ok : Bool) (e : Ending) (w' : World) : Prop :=
  ∃ A cp A5 c5, e = .returned (.tuple #[.slice A fs.length cp, .agg #[.int .i64 R, .int .i64 C, .slice A5 l.length c5], .bool ok]) ∧ Own w' A 27 (flatF fs) ∧ New w A ∧ Own w' A5 92 (flat l) ∧ New w A5 ∧ Below w.heap.size w w'
theorem PostF.of_row {w w' : World} {R C : Int} {l : List (Int × Int)} {fs : List (Int × Int × Int)} {ok : Bool} {v : Value} {n : Nat} {A5 : Option Addr} {c5 : Nat} (hn : fs.length = n) (h : w'.ownsRow w.heap.size 27 3 v n (flatF fs)) (O5 : Own w' A5 92 (flat l)) (N5 : New w A5) (b : Below w.heap.size w w') :
    PostF w R C l fs ok (.returned (.tuple #[v, .agg #[.int .i64 R, .int .i64 C, .slice A5 l.length c5], .bool ok])) w' := by
  subst hn
  obtain ⟨A, cp, rfl⟩ := slice_of_row h
  have ho := own_of_row h
  exact ⟨A, cp, A5, c5, rfl, ho.1, ho.2, O5, N5, b⟩
theorem fallsO_len (R C : Int) (l : List (Int × Int)) (cs : List Int) (hn : l.length ≤ 1048576) (hn' : cs.length ≤ 1048576) : (fallsO R C l cs).1.length ≤ 1048576 ∧ (fallsO R C l cs).2.length ≤ 1048576 := by
  unfold fallsO
  split
  · obtain ⟨h1, h2⟩ := stA_len (numL C.toNat l) R.toNat C.toNat l cs cs.length
    exact ⟨by rw [h1]; exact hn', by rw [h2]; exact hn⟩
  · exact ⟨by simp, by simp⟩
theorem spec_FallsOfP (R C : Int) (A : Option Addr) (cap : Nat) (l : List (Int × Int)) (A' : Option Addr) (cap' : Nat) (cs : List Int) (w : World) (hn : l.length ≤ 1048576) (hr : Rd w w.heap.size A (flat l)) (hn' : cs.length ≤ 1048576) (hrc : Rd w w.heap.size A' (ints cs)) :
    Calls Try.prog 33 #[.agg #[.int .i64 R, .int .i64 C, .slice A l.length cap], .slice A' cs.length cap'] w (PostF w (selI (okC' R C l cs) R) (selI (okC' R C l cs) C) (fallsO R C l cs).2 (fallsO R C l cs).1 (okC' R C l cs)) := by
  refine (spec_FallsOf R C A cap l A' cap' cs w hn hn' hr hrc).mono ?_
  rintro e w' ⟨v, A5, c5, rfl, h1, h2, h3, h4⟩
  exact PostF.of_row rfl h1 h2 h3 h4
theorem impl_FallsOf (R C : Int) (A : Option Addr) (cap : Nat) (l : List (Int × Int)) (A' : Option Addr) (cap' : Nat) (cs : List Int) (w : World) (hn : l.length ≤ 1048576) (hr : Rd w w.heap.size A (flat l)) (hn' : cs.length ≤ 1048576) (hrc : Rd w w.heap.size A' (ints cs)) :
    Calls Try.prog 35 #[.agg #[.int .i64 R, .int .i64 C, .slice A l.length cap], .slice A' cs.length cap'] w (PostF w (selI (okC' R C l cs) R) (selI (okC' R C l cs) C) (fallsO R C l cs).2 (fallsO R C l cs).1 (okC' R C l cs)) := by
  unfold fallsO
  rcases Bool.eq_false_or_eq_true (okC' R C l cs) with ho | ho
  · have HO := Lib.hid ho
    obtain ⟨hg, h60, hall⟩ := okC'_parts ho
    obtain ⟨_, _, hpos⟩ := goodB_parts hg
    obtain ⟨b, o, rfl, hbl, hc⟩ := hr (by rw [flat_length]; omega)
    have hr' : Rd w w.heap.size (some ⟨b, o, none⟩) (flat l) := fun _ => ⟨b, o, rfl, hbl, hc⟩
    obtain ⟨r, c, rfl, rfl, hG⟩ := geo_of hg
    have hlrc := hG.cells
    have HSl := Lib.hid (stA_len (numL c l) r c l cs)
    have HCs := Lib.hid (fun k hk => (show 0 ≤ cs.getD k 0 ∧ cs.getD k 0 < (c : Int) by have := allI_at hall k hk; omega))
    have HSg := Lib.hid (stA_good (numL c l) (cs := cs) hlrc (goodB_iff.1 hg).2.2 HCs.out)
    have HSn := Lib.hid (stA_num (numL c l) r c l cs)
    have HGd := Lib.hid hg
    have HGe := Lib.hid hG
    rw [ho, if_pos rfl, Int.toNat_natCast, Int.toNat_natCast]
    obtain ⟨i0, hi, hz0, hz1, hz2⟩ := info_parts fallInfo
    have hmk := run_make_falls0 cs.length (by omega)
    clear ho hr hall hG hg hlrc
    go_enter Try.func35, Try.ntmps35
    obtain ⟨v0, hv0, X0, X1, B0, hz0⟩ := two_boxes w [.int .i64 (r : Int), .int .i64 (c : Int), .slice (some ⟨b, o, none⟩) l.length cap] 32 [.int .i64 0, .int .i64 0, .slice none 0 0] 32; have HV := Lib.hid hv0; have HZ := Lib.hid hz0; have hz : w.heap.size + 1 < v0.heap.size := (by omega); have hy : w.heap.size < v0.heap.size := (by omega); have hb0 := B0.size; clear hv0 hz0; go_wp2_with fail; rewrite [show (w.alloc (.cells ([.int .i64 (r : Int), .int .i64 (c : Int), .slice (some ⟨b, o, none⟩) l.length cap] : List Value).toArray 32)).alloc (.cells ([.int .i64 0, .int .i64 0, .slice none 0 0] : List Value).toArray 32) = v0 from HV.out]; clear HV
    have X0k0 : v0.cell? ⟨w.heap.size, 0, none⟩ = some (.int .i64 (r : Int)) := (X0.cell 0).trans rfl; have X0k1 : v0.cell? ⟨w.heap.size, 1, none⟩ = some (.int .i64 (c : Int)) := (X0.cell 1).trans rfl; have X0k2 : v0.cell? ⟨w.heap.size, 2, none⟩ = some (.slice (some ⟨b, o, none⟩) l.length cap) := (X0.cell 2).trans rfl
    go_wp2_with fail
    refine (impl_areEntries _ _ _ _ l _ _ cs _ hn hn' ((hr'.below B0).mono B0.size) ((hrc.below B0).mono B0.size)).mono ?_; rintro e w1 ⟨rfl, b1⟩
    rewrite [HO.out]
    clear X0k0 X0k1 X0k2
    replace X0 := X0.below b1 X0.lt; replace X1 := X1.below b1 X1.lt; replace B0 := B0.trans (b1.mono B0.size); have hy := X0.lt; have hz := X1.lt; have hb0 := B0.size; clear b1
    clear HZ
    have X0k0 : w1.cell? ⟨w.heap.size, 0, none⟩ = some (.int .i64 (r : Int)) := (X0.cell 0).trans rfl; have X0k1 : w1.cell? ⟨w.heap.size, 1, none⟩ = some (.int .i64 (c : Int)) := (X0.cell 1).trans rfl; have X0k2 : w1.cell? ⟨w.heap.size, 2, none⟩ = some (.slice (some ⟨b, o, none⟩) l.length cap) := (X0.cell 2).trans rfl
    go_wp2_with fail
    refine (impl_cloneBoard (r : Int) (c : Int) b o cap l _ hn ((hr'.below B0).mono B0.size)).mono ?_; rintro e w2 ⟨A5, c5, rfl, o5, n5, b2⟩
    clear X0k0 X0k1 X0k2
    have h51 : ∀ a, A5 = some a → w.heap.size + 1 < a.block := fun a ha => by have h := n5 a ha; omega
    replace X0 := X0.below b2 X0.lt; replace X1 := X1.below b2 X1.lt; replace B0 := B0.trans (b2.mono B0.size); have hy := X0.lt; have hz := X1.lt; have hb0 := B0.size; clear b2
    obtain ⟨g5, rest5, rfl, X7⟩ := o5 (by rw [flat_length]; omega)
    have h5 : w.heap.size + 1 < g5 := h51 _ rfl
    clear n5 o5 h51
    go_upto_region 4 with (fail)
    obtain ⟨v4, hv4⟩ : ∃ v4, v4 = w2.alloc (.cells #[.int .i64 (r : Int), .int .i64 (c : Int), .slice (some ⟨g5, 0, none⟩) l.length c5] 32) := ⟨_, rfl⟩
    have X4 : Whole v4 w2.heap.size 32 [.int .i64 (r : Int), .int .i64 (c : Int), .slice (some ⟨g5, 0, none⟩) l.length c5] := by rw [hv4]; exact newW
    have b4 : Below w2.heap.size w2 v4 := by rw [hv4]; exact (Below.refl _ _).alloc (Nat.le_refl _) _
    rewrite [← hv4]
    clear hv4
    have h4w : w.heap.size + 1 < w2.heap.size := hz
    have h54 : g5 < w2.heap.size := X7.lt
    replace X7 := X7.below b4 X7.lt
    replace X0 := X0.below b4 X0.lt; replace X1 := X1.below b4 X1.lt; replace B0 := B0.trans (b4.mono B0.size); have hy := X0.lt; have hz := X1.lt; have hb0 := B0.size; clear b4
    have h45 := X4.lt
    generalize w2.heap.size = g4 at *
    go_upto_region 5 with (fail)
    have hown := World.ownsRow_made (e := 27) (size := 3) (base := w.heap.size) v4 (zrow (3 * cs.length)).toArray cs.length (by omega) (by unfold maxLen; omega) (by simp [zrow]; omega)
    have ba : Below v4.heap.size v4 (v4.alloc (.cells (zrow (3 * cs.length)).toArray 27)) := (Below.refl _ _).alloc (Nat.le_refl _) _
    replace X4 := X4.below ba X4.lt
    replace X7 := X7.below ba X7.lt
    replace X0 := X0.below ba X0.lt; replace X1 := X1.below ba X1.lt; replace B0 := B0.trans (ba.mono B0.size); have hy := X0.lt; have hz := X1.lt; have hb0 := B0.size; clear ba
    clear hmk X0 hy hz
    generalize v4.alloc (.cells (zrow (3 * cs.length)).toArray 27) = v5 at *
    generalize v4.heap.size = Y at *
    go_wp2
    go_loopw [8, 25] (fun v i wr => ∃ k : Nat, i = .int .i64 k ∧ k ≤ cs.length ∧ wr.ownsRow w.heap.size 27 3 v k (flatF (stA (numL c l) r c l cs k).1) ∧ Whole wr g4 32 [.int .i64 (r : Int), .int .i64 (c : Int), .slice (some ⟨g5, 0, none⟩) l.length c5] ∧ Whole wr g5 92 (flat (stA (numL c l) r c l cs k).2 ++ rest5) ∧ Whole wr (w.heap.size + 1) 32 [.int .i64 0, .int .i64 0, .slice none 0 0] ∧ Below w.heap.size w wr) (fun _ i _ => cs.length - (intOf i).toNat)
    case atStart => exact ⟨0, rfl, Nat.zero_le _, hown, X4, X7, X1, B0⟩
    case round =>
      clear hown X4 X7 X1 B0 hb0
      obtain ⟨k, rfl, hk, hown, X4, X7, X1, B0⟩ := hrel
      have hs := B0.size
      have hlk := (HSl.out k).2
      by_cases hlt : k < cs.length
      · obtain ⟨bb, oo, rfl, hbb, hcc⟩ := hrc (by rw [ints_length]; omega)
        have hck : wr.cell? ⟨bb, oo + k, none⟩ = some (.int .i64 cs[k]) := (B0.cell (p := ⟨bb, _, none⟩) hbb).trans (hcc k _ (ints_at cs k hlt))
        have hgk := HSg.out k (by omega)
        obtain ⟨hc1, hc2⟩ := HCs.out k hlt
        have HSk := Lib.hid (show stA (numL c l) r c l cs (k + 1) = ((stA (numL c l) r c l cs k).1 ++ [((flG (numL c l) r c r 0 (stA (numL c l) r c l cs k).2 (cs.getD k 0).toNat 0 []).e, (flG (numL c l) r c r 0 (stA (numL c l) r c l cs k).2 (cs.getD k 0).toNat 0 []).row, (flG (numL c l) r c r 0 (stA (numL c l) r c l cs k).2 (cs.getD k 0).toNat 0 []).col)], (flG (numL c l) r c r 0 (stA (numL c l) r c l cs k).2 (cs.getD k 0).toNat 0 []).cells) from rfl)
        have hgd : cs.getD k 0 = cs[k] := by rw [List.getD_eq_getElem?_getD, List.getElem?_eq_getElem hlt]; rfl
        obtain ⟨cl, hcl⟩ : ∃ cl : Nat, cs[k] = (cl : Int) := ⟨cs[k].toNat, by rw [← hgd]; omega⟩
        rw [hgd, hcl] at HSk hc2
        rw [hcl] at hck
        rw [Int.toNat_natCast] at HSk
        have hnk := HSn.out k
        generalize (stA (numL c l) r c l cs k).1 = fk at *
        generalize (stA (numL c l) r c l cs k).2 = lk at *
        have hgB : goodB (r : Int) (c : Int) lk = true := goodB_iff.2 ⟨(goodB_iff.1 HGd.out).1, by rw [hlk]; exact (goodB_iff.1 HGd.out).2.1, hgk⟩
        have HQ := impl_letFall r c g5 c5 lk rest5 cl wr (by rw [hlk]; exact HGe.out) hgB (by omega) X7
        rw [hnk, hlk] at HQ
        clear hcc hgd hcl hc1 hc2 hgk hgB hnk hlk
        generalize flG (numL c l) r c r 0 lk cl 0 [] = F at *
        have X4k0 : wr.cell? ⟨g4, 0, none⟩ = some (.int .i64 (r : Int)) := (X4.cell 0).trans rfl; have X4k1 : wr.cell? ⟨g4, 1, none⟩ = some (.int .i64 (c : Int)) := (X4.cell 1).trans rfl; have X4k2 : wr.cell? ⟨g4, 2, none⟩ = some (.slice (some ⟨g5, 0, none⟩) l.length c5) := (X4.cell 2).trans rfl
        go_wp2_with fail
        refine HQ.mono ?_; rintro e w5 ⟨Am, cm, rfl, Om, Nm, X7', gb⟩
        clear HQ hck Om Nm
        clear X4k0 X4k1 X4k2
        have n5 : ∀ {g : Nat}, g ≠ g5 → some g ≠ some g5 := fun h e => h (by injection e)
        have hne3 := row_apart hown X7 (by decide)
        have h4l := X4.lt
        have h5l := X7.lt
        replace X4 := X4.grown gb (n5 (by omega))
        replace X1 := X1.grown gb (n5 (by omega))
        replace hown := World.ownsRow.kept hown gb (.inr (fun e => hne3 e.symm))
        replace B0 := B0.grown gb hs (fun k e => by cases e; omega)
        replace hs := B0.size
        clear gb n5 hne3 X7
        have hownY := ((hown.alloc (.cells #[.int .i64 F.e, .int .i64 F.row, .int .i64 F.col] 27)).alloc (.cells #[.int .i64 F.e, .int .i64 F.row, .int .i64 F.col] 27))
        go_upto_region 10 with (first | (at_builtin; go_loud (refine wpList_append_own _ rfl (.tmp 35) (.tmp 37) 50 rfl w.heap.size 27 i0 _ 3 24 Try.underlying50 hi hz0 hz1 hz2 rfl (by omega) u8 k _ rfl ((hown.alloc _).alloc _) ⟨w5.heap.size + 1, 0, none⟩ 1 1 [.int .i64 F.e, .int .i64 F.row, .int .i64 F.col] rfl rfl two_cells3 three_oneF (by unfold maxLen; omega) (by omega) (by rw [World.size_alloc, World.size_alloc]; omega) ?_; intro v7 w7 hown7 hg7 _)) | fail)
        have X47 := ((X4.alloc _).alloc _).grown hg7 (row_apart hownY ((X4.alloc _).alloc _) (by decide))
        have X77 := ((X7'.alloc _).alloc _).grown hg7 (row_apart hownY ((X7'.alloc _).alloc _) (by decide))
        have X17 := ((X1.alloc _).alloc _).grown hg7 (row_apart hownY ((X1.alloc _).alloc _) (by decide))
        have B7 : Below w.heap.size w w7 := row_below hownY ((B0.alloc (by omega) _).alloc (by rw [World.size_alloc]; omega) _) (by rw [World.size_alloc, World.size_alloc]; omega) hg7
        clear X1 X4 X7' hownY
        go_wp2
        refine ⟨⟨k + 1, by go_num, by omega, ?_, X47, ?_, X17, B7⟩, by simp [intOf]; omega⟩
        · rw [HSk.out, flatF_app]
          exact hown7
        · rw [HSk.out]
          exact X77
      · obtain rfl : k = cs.length := by omega
        have HLf := Lib.hid (HSl.out cs.length).1
        clear hlt
        have hlk' := hlk
        have X4k0 : wr.cell? ⟨g4, 0, none⟩ = some (.int .i64 (r : Int)) := (X4.cell 0).trans rfl; have X4k1 : wr.cell? ⟨g4, 1, none⟩ = some (.int .i64 (c : Int)) := (X4.cell 1).trans rfl; have X4k2 : wr.cell? ⟨g4, 2, none⟩ = some (.slice (some ⟨g5, 0, none⟩) l.length c5) := (X4.cell 2).trans rfl
        have X1k0 : wr.cell? ⟨w.heap.size + 1, 0, none⟩ = some (.int .i64 0) := (X1.cell 0).trans rfl; have X1k1 : wr.cell? ⟨w.heap.size + 1, 1, none⟩ = some (.int .i64 0) := (X1.cell 1).trans rfl; have X1k2 : wr.cell? ⟨w.heap.size + 1, 2, none⟩ = some (.slice none 0 0) := (X1.cell 2).trans rfl
        have X1f0 := X1.frozen 0; have X1f1 := X1.frozen 1; have X1f2 := X1.frozen 2
        have HLk := Lib.hid hlk
        clear hlk hlk'
        have z1 := X1.lt
        have zb := X4.lt
        have hne := row_apart hown X1 (by decide)
        go_upto_region 11 with (fail)
        go_region
        go_wp2
        (refine bodyPost_ret (v := .tuple #[u8, .agg #[.int .i64 (r : Int), .int .i64 (c : Int), .slice (some ⟨g5, 0, none⟩) l.length c5], .bool true]) ?_ rfl ?_); (focus (simp [results, Try.results35, go_sem, *]; done))
        rewrite [← HLk.out]
        refine PostF.of_row HLf.out ?_ ?_ (fun a ha => by cases ha; show w.heap.size ≤ g5; omega) ?_
        · exact row_keep (row_setFarW (row_setFarW (row_setFarW hown _ _ hne) _ _ hne) _ _ hne) ((Below.refl _ _).drew)
        · refine Own.keep ?_ ((Below.refl _ _).drew)
          exact fun _ => ⟨g5, rest5, rfl, three_far X7 (by omega)⟩
        · exact (((B0.setCell (p := ⟨w.heap.size + 1, 0, none⟩) (by show w.heap.size ≤ w.heap.size + 1; omega) _).setCell (p := ⟨w.heap.size + 1, 1, none⟩) (by show w.heap.size ≤ w.heap.size + 1; omega) _).setCell (p := ⟨w.heap.size + 1, 2, none⟩) (by show w.heap.size ≤ w.heap.size + 1; omega) _).drew
  · have HO := Lib.hid ho
    rw [ho]
    clear ho
    go_enter Try.func35, Try.ntmps35
    obtain ⟨v0, hv0, X0, X1, B0, hz0⟩ := two_boxes w [.int .i64 R, .int .i64 C, .slice A l.length cap] 32 [.int .i64 0, .int .i64 0, .slice none 0 0] 32; have HV := Lib.hid hv0; have HZ := Lib.hid hz0; have hz : w.heap.size + 1 < v0.heap.size := (by omega); have hy : w.heap.size < v0.heap.size := (by omega); have hb0 := B0.size; clear hv0 hz0; go_wp2_with fail; rewrite [show (w.alloc (.cells ([.int .i64 R, .int .i64 C, .slice A l.length cap] : List Value).toArray 32)).alloc (.cells ([.int .i64 0, .int .i64 0, .slice none 0 0] : List Value).toArray 32) = v0 from HV.out]; clear HV
    have X0k0 : v0.cell? ⟨w.heap.size, 0, none⟩ = some (.int .i64 R) := (X0.cell 0).trans rfl; have X0k1 : v0.cell? ⟨w.heap.size, 1, none⟩ = some (.int .i64 C) := (X0.cell 1).trans rfl; have X0k2 : v0.cell? ⟨w.heap.size, 2, none⟩ = some (.slice A l.length cap) := (X0.cell 2).trans rfl
    go_wp2_with fail
    refine (impl_areEntries _ _ _ _ l _ _ cs _ hn hn' ((hr.below B0).mono B0.size) ((hrc.below B0).mono B0.size)).mono ?_; rintro e w1 ⟨rfl, b1⟩
    rewrite [HO.out]
    clear X0k0 X0k1 X0k2
    replace X0 := X0.below b1 X0.lt; replace X1 := X1.below b1 X1.lt; replace B0 := B0.trans (b1.mono B0.size); have hy := X0.lt; have hz := X1.lt; have hb0 := B0.size; clear b1
    have X1k0 : w1.cell? ⟨w.heap.size + 1, 0, none⟩ = some (.int .i64 0) := (X1.cell 0).trans rfl; have X1k1 : w1.cell? ⟨w.heap.size + 1, 1, none⟩ = some (.int .i64 0) := (X1.cell 1).trans rfl; have X1k2 : w1.cell? ⟨w.heap.size + 1, 2, none⟩ = some (.slice none 0 0) := (X1.cell 2).trans rfl
    have X1f0 := X1.frozen 0; have X1f1 := X1.frozen 1; have X1f2 := X1.frozen 2
    go_wp2
    refine bodyPost_ret (v := .tuple #[.slice none 0 0, .agg #[.int .i64 0, .int .i64 0, .slice none 0 0], .bool false]) ?_ rfl ?_; (focus (simp [results, Try.results35, go_sem, *]; done))
    exact PostF.of_row (fs := []) (l := []) rfl (World.ownsRow_nil _ _ _ _) Own.none_ New.none_ (by (repeat' (first | (with_reducible exact Below.refl _ _) | (with_reducible assumption) | (with_reducible refine Below.alloc ?_ ?_ _) | (with_reducible refine Below.setCell ?_ ?_ _) | (with_reducible refine Below.drew ?_) | (with_reducible refine below_drewN ?_ _) | (with_reducible refine Below.trans ?_ (Below.mono (by assumption) ?_)) | (with_reducible exact Nat.le_refl _) | (simp; done) | omega | (simp at *; omega))))
end Go.Proofs.Ytoflhjekldlaiaa
namespace Go.Proofs.Ytoflhjekldlaiaa
open Go.ChangeShapes Go.WideShapes Go.ChangeAt Go.RowKit Go.Joins Go.Deep
set_option linter.unusedSimpArgs false
set_option linter.unusedVariables false
set_option maxRecDepth 100000
set_option maxHeartbeats 4000000
theorem own_fall {w : World} {k : Nat} {A : Option Addr} {x : List (Int × Int × Int)} (ho : Own w A 27 (flatF x)) (hk : k < x.length) : ∃ g, A = some ⟨g, 0, none⟩ ∧ g < w.heap.size ∧ w.cell? ⟨g, k * 3, none⟩ = some (.int .i64 (x.getD k (0, 0, 0)).1) ∧ w.cell? ⟨g, k * 3 + 1, none⟩ = some (.int .i64 (x.getD k (0, 0, 0)).2.1) ∧ w.cell? ⟨g, k * 3 + 2, none⟩ = some (.int .i64 (x.getD k (0, 0, 0)).2.2) := by
  obtain ⟨g, rest, rfl, X⟩ := ho (by rw [flatF_len]; omega)
  obtain ⟨h0, h1, h2⟩ := flatF_at x k hk
  have hlen := flatF_len x
  refine ⟨g, rfl, X.lt, (X.cell _).trans ?_, (X.cell _).trans ?_, (X.cell _).trans ?_⟩
  · rw [List.getElem?_append_left (by omega)]; exact h0
  · rw [List.getElem?_append_left (by omega)]; exact h1
  · rw [List.getElem?_append_left (by omega)]; exact h2
theorem okD_and (R C : Int) (l : List (Int × Int)) (R' C' : Int) (m : List (Int × Int)) (cs : List Int) : okD R C l R' C' m cs = (okC' R C l cs && okC' R' C' m cs && decide (C = C')) := by
  unfold okD
  by_cases hC : C = C'
  · subst hC
    rw [decide_eq_true rfl, Bool.and_true, Bool.and_true]
    unfold okC'
    cases goodB R C l <;> cases goodB R' C m <;> cases decide (cs.length ≤ 60) <;> cases allI 0 (C - 1) cs <;> rfl
  · rw [decide_eq_false hC, Bool.and_false, Bool.and_false]
theorem impl_FirstDifferent_bad (R C : Int) (A : Option Addr) (cap : Nat) (l : List (Int × Int)) (R' C' : Int) (A' : Option Addr) (cap' : Nat) (m : List (Int × Int)) (A2 : Option Addr) (cap2 : Nat) (cs : List Int) (w : World) (hn : l.length ≤ 1048576) (hr : Rd w w.heap.size A (flat l)) (hm : m.length ≤ 1048576) (hr' : Rd w w.heap.size A' (flat m)) (hn' : cs.length ≤ 1048576) (hrc : Rd w w.heap.size A2 (ints cs)) {x y : Bool} (hc : okC' R C l cs = x) (hmx : okC' R' C' m cs = y) (hxy : (x && y) = false) :
    Calls Try.prog 48 #[.agg #[.int .i64 R, .int .i64 C, .slice A l.length cap], .agg #[.int .i64 R', .int .i64 C', .slice A' m.length cap'], .slice A2 cs.length cap2] w fun e w' => e = .returned (.tuple #[.int .i64 0, .bool false]) ∧ Below w.heap.size w w' := by
  have HC := Lib.hid hc
  have HM := Lib.hid hmx
  clear hc hmx
  cases x
  · cases y
    · ((go_enter Try.func48, Try.ntmps48; obtain ⟨v0, hv0, X0, X1, B0, hz0⟩ := two_boxes w [.int .i64 R, .int .i64 C, .slice A l.length cap] 32 [.int .i64 R', .int .i64 C', .slice A' m.length cap'] 32; have HV := Lib.hid hv0; have hz : w.heap.size + 1 < v0.heap.size := (by omega); have hy : w.heap.size < v0.heap.size := (by omega); have hb0 := B0.size; clear hv0 hz0; go_wp2_with fail; rewrite [show (w.alloc (.cells ([.int .i64 R, .int .i64 C, .slice A l.length cap] : List Value).toArray 32)).alloc (.cells ([.int .i64 R', .int .i64 C', .slice A' m.length cap'] : List Value).toArray 32) = v0 from HV.out]; clear HV; refine (impl_FallsOf _ _ _ _ l _ _ cs _ hn ((hr.below B0).mono B0.size) hn' ((hrc.below B0).mono B0.size)).mono ?_; rintro e w1 ⟨Ax, cx, A5, c5, rfl, Ox, Nx, O5, N5, b1⟩; clear O5 N5 Nx; rewrite [HC.out]; replace X0 := X0.below b1 X0.lt; replace X1 := X1.below b1 X1.lt; replace B0 := B0.trans (b1.mono B0.size); have hy := X0.lt; have hz := X1.lt; have hb0 := B0.size; clear b1; have X1k0 : w1.cell? ⟨w.heap.size + 1, 0, none⟩ = some (.int .i64 R') := (X1.cell 0).trans rfl; have X1k1 : w1.cell? ⟨w.heap.size + 1, 1, none⟩ = some (.int .i64 C') := (X1.cell 1).trans rfl; have X1k2 : w1.cell? ⟨w.heap.size + 1, 2, none⟩ = some (.slice A' m.length cap') := (X1.cell 2).trans rfl; go_wp2_with fail; clear X1k0 X1k1 X1k2; refine (impl_FallsOf _ _ _ _ m _ _ cs _ hm ((hr'.below (B0.alloc hb0 _)).mono (B0.alloc hb0 _).size) hn' ((hrc.below (B0.alloc hb0 _)).mono (B0.alloc hb0 _).size)).mono ?_; rintro e w2 ⟨Ay, cy, A6, c6, rfl, Oy, Ny, O6, N6, b2⟩; clear O6 N6 Ny; rewrite [HM.out]; replace Ox := (Ox.alloc_ _).keep b2; replace B0 := (B0.alloc hb0 _).trans (b2.mono (B0.alloc hb0 _).size); replace X0 := (X0.alloc _).below b2 (X0.alloc _).lt; replace X1 := (X1.alloc _).below b2 (X1.alloc _).lt; replace hb0 := B0.size; clear b2 hy hz; have hy := X0.lt; have hz := X1.lt; have X0k0 : w2.cell? ⟨w.heap.size, 0, none⟩ = some (.int .i64 R) := (X0.cell 0).trans rfl; have X0k1 : w2.cell? ⟨w.heap.size, 1, none⟩ = some (.int .i64 C) := (X0.cell 1).trans rfl; have X0k2 : w2.cell? ⟨w.heap.size, 2, none⟩ = some (.slice A l.length cap) := (X0.cell 2).trans rfl; have X1k0 : w2.cell? ⟨w.heap.size + 1, 0, none⟩ = some (.int .i64 R') := (X1.cell 0).trans rfl; have X1k1 : w2.cell? ⟨w.heap.size + 1, 1, none⟩ = some (.int .i64 C') := (X1.cell 1).trans rfl; have X1k2 : w2.cell? ⟨w.heap.size + 1, 2, none⟩ = some (.slice A' m.length cap') := (X1.cell 2).trans rfl); clear Ox Oy; go_wp2; go_returns; exact ⟨rfl, by (repeat' (first | (with_reducible exact Below.refl _ _) | (with_reducible assumption) | (with_reducible refine Below.alloc ?_ ?_ _) | (with_reducible refine Below.setCell ?_ ?_ _) | (with_reducible refine Below.drew ?_) | (with_reducible refine below_drewN ?_ _) | (with_reducible refine Below.trans ?_ (Below.mono (by assumption) ?_)) | (with_reducible exact Nat.le_refl _) | (simp; done) | omega | (simp at *; omega)))⟩)
    · ((go_enter Try.func48, Try.ntmps48; obtain ⟨v0, hv0, X0, X1, B0, hz0⟩ := two_boxes w [.int .i64 R, .int .i64 C, .slice A l.length cap] 32 [.int .i64 R', .int .i64 C', .slice A' m.length cap'] 32; have HV := Lib.hid hv0; have hz : w.heap.size + 1 < v0.heap.size := (by omega); have hy : w.heap.size < v0.heap.size := (by omega); have hb0 := B0.size; clear hv0 hz0; go_wp2_with fail; rewrite [show (w.alloc (.cells ([.int .i64 R, .int .i64 C, .slice A l.length cap] : List Value).toArray 32)).alloc (.cells ([.int .i64 R', .int .i64 C', .slice A' m.length cap'] : List Value).toArray 32) = v0 from HV.out]; clear HV; refine (impl_FallsOf _ _ _ _ l _ _ cs _ hn ((hr.below B0).mono B0.size) hn' ((hrc.below B0).mono B0.size)).mono ?_; rintro e w1 ⟨Ax, cx, A5, c5, rfl, Ox, Nx, O5, N5, b1⟩; clear O5 N5 Nx; rewrite [HC.out]; replace X0 := X0.below b1 X0.lt; replace X1 := X1.below b1 X1.lt; replace B0 := B0.trans (b1.mono B0.size); have hy := X0.lt; have hz := X1.lt; have hb0 := B0.size; clear b1; have X1k0 : w1.cell? ⟨w.heap.size + 1, 0, none⟩ = some (.int .i64 R') := (X1.cell 0).trans rfl; have X1k1 : w1.cell? ⟨w.heap.size + 1, 1, none⟩ = some (.int .i64 C') := (X1.cell 1).trans rfl; have X1k2 : w1.cell? ⟨w.heap.size + 1, 2, none⟩ = some (.slice A' m.length cap') := (X1.cell 2).trans rfl; go_wp2_with fail; clear X1k0 X1k1 X1k2; refine (impl_FallsOf _ _ _ _ m _ _ cs _ hm ((hr'.below (B0.alloc hb0 _)).mono (B0.alloc hb0 _).size) hn' ((hrc.below (B0.alloc hb0 _)).mono (B0.alloc hb0 _).size)).mono ?_; rintro e w2 ⟨Ay, cy, A6, c6, rfl, Oy, Ny, O6, N6, b2⟩; clear O6 N6 Ny; rewrite [HM.out]; replace Ox := (Ox.alloc_ _).keep b2; replace B0 := (B0.alloc hb0 _).trans (b2.mono (B0.alloc hb0 _).size); replace X0 := (X0.alloc _).below b2 (X0.alloc _).lt; replace X1 := (X1.alloc _).below b2 (X1.alloc _).lt; replace hb0 := B0.size; clear b2 hy hz; have hy := X0.lt; have hz := X1.lt; have X0k0 : w2.cell? ⟨w.heap.size, 0, none⟩ = some (.int .i64 R) := (X0.cell 0).trans rfl; have X0k1 : w2.cell? ⟨w.heap.size, 1, none⟩ = some (.int .i64 C) := (X0.cell 1).trans rfl; have X0k2 : w2.cell? ⟨w.heap.size, 2, none⟩ = some (.slice A l.length cap) := (X0.cell 2).trans rfl; have X1k0 : w2.cell? ⟨w.heap.size + 1, 0, none⟩ = some (.int .i64 R') := (X1.cell 0).trans rfl; have X1k1 : w2.cell? ⟨w.heap.size + 1, 1, none⟩ = some (.int .i64 C') := (X1.cell 1).trans rfl; have X1k2 : w2.cell? ⟨w.heap.size + 1, 2, none⟩ = some (.slice A' m.length cap') := (X1.cell 2).trans rfl); clear Ox Oy; go_wp2; go_returns; exact ⟨rfl, by (repeat' (first | (with_reducible exact Below.refl _ _) | (with_reducible assumption) | (with_reducible refine Below.alloc ?_ ?_ _) | (with_reducible refine Below.setCell ?_ ?_ _) | (with_reducible refine Below.drew ?_) | (with_reducible refine below_drewN ?_ _) | (with_reducible refine Below.trans ?_ (Below.mono (by assumption) ?_)) | (with_reducible exact Nat.le_refl _) | (simp; done) | omega | (simp at *; omega)))⟩)
  · cases y
    · ((go_enter Try.func48, Try.ntmps48; obtain ⟨v0, hv0, X0, X1, B0, hz0⟩ := two_boxes w [.int .i64 R, .int .i64 C, .slice A l.length cap] 32 [.int .i64 R', .int .i64 C', .slice A' m.length cap'] 32; have HV := Lib.hid hv0; have hz : w.heap.size + 1 < v0.heap.size := (by omega); have hy : w.heap.size < v0.heap.size := (by omega); have hb0 := B0.size; clear hv0 hz0; go_wp2_with fail; rewrite [show (w.alloc (.cells ([.int .i64 R, .int .i64 C, .slice A l.length cap] : List Value).toArray 32)).alloc (.cells ([.int .i64 R', .int .i64 C', .slice A' m.length cap'] : List Value).toArray 32) = v0 from HV.out]; clear HV; refine (impl_FallsOf _ _ _ _ l _ _ cs _ hn ((hr.below B0).mono B0.size) hn' ((hrc.below B0).mono B0.size)).mono ?_; rintro e w1 ⟨Ax, cx, A5, c5, rfl, Ox, Nx, O5, N5, b1⟩; clear O5 N5 Nx; rewrite [HC.out]; replace X0 := X0.below b1 X0.lt; replace X1 := X1.below b1 X1.lt; replace B0 := B0.trans (b1.mono B0.size); have hy := X0.lt; have hz := X1.lt; have hb0 := B0.size; clear b1; have X1k0 : w1.cell? ⟨w.heap.size + 1, 0, none⟩ = some (.int .i64 R') := (X1.cell 0).trans rfl; have X1k1 : w1.cell? ⟨w.heap.size + 1, 1, none⟩ = some (.int .i64 C') := (X1.cell 1).trans rfl; have X1k2 : w1.cell? ⟨w.heap.size + 1, 2, none⟩ = some (.slice A' m.length cap') := (X1.cell 2).trans rfl; go_wp2_with fail; clear X1k0 X1k1 X1k2; refine (impl_FallsOf _ _ _ _ m _ _ cs _ hm ((hr'.below (B0.alloc hb0 _)).mono (B0.alloc hb0 _).size) hn' ((hrc.below (B0.alloc hb0 _)).mono (B0.alloc hb0 _).size)).mono ?_; rintro e w2 ⟨Ay, cy, A6, c6, rfl, Oy, Ny, O6, N6, b2⟩; clear O6 N6 Ny; rewrite [HM.out]; replace Ox := (Ox.alloc_ _).keep b2; replace B0 := (B0.alloc hb0 _).trans (b2.mono (B0.alloc hb0 _).size); replace X0 := (X0.alloc _).below b2 (X0.alloc _).lt; replace X1 := (X1.alloc _).below b2 (X1.alloc _).lt; replace hb0 := B0.size; clear b2 hy hz; have hy := X0.lt; have hz := X1.lt; have X0k0 : w2.cell? ⟨w.heap.size, 0, none⟩ = some (.int .i64 R) := (X0.cell 0).trans rfl; have X0k1 : w2.cell? ⟨w.heap.size, 1, none⟩ = some (.int .i64 C) := (X0.cell 1).trans rfl; have X0k2 : w2.cell? ⟨w.heap.size, 2, none⟩ = some (.slice A l.length cap) := (X0.cell 2).trans rfl; have X1k0 : w2.cell? ⟨w.heap.size + 1, 0, none⟩ = some (.int .i64 R') := (X1.cell 0).trans rfl; have X1k1 : w2.cell? ⟨w.heap.size + 1, 1, none⟩ = some (.int .i64 C') := (X1.cell 1).trans rfl; have X1k2 : w2.cell? ⟨w.heap.size + 1, 2, none⟩ = some (.slice A' m.length cap') := (X1.cell 2).trans rfl); clear Ox Oy; go_wp2; go_returns; exact ⟨rfl, by (repeat' (first | (with_reducible exact Below.refl _ _) | (with_reducible assumption) | (with_reducible refine Below.alloc ?_ ?_ _) | (with_reducible refine Below.setCell ?_ ?_ _) | (with_reducible refine Below.drew ?_) | (with_reducible refine below_drewN ?_ _) | (with_reducible refine Below.trans ?_ (Below.mono (by assumption) ?_)) | (with_reducible exact Nat.le_refl _) | (simp; done) | omega | (simp at *; omega)))⟩)
    · cases hxy
theorem impl_FirstDifferent_ne (R C : Int) (A : Option Addr) (cap : Nat) (l : List (Int × Int)) (R' C' : Int) (A' : Option Addr) (cap' : Nat) (m : List (Int × Int)) (A2 : Option Addr) (cap2 : Nat) (cs : List Int) (w : World) (hn : l.length ≤ 1048576) (hr : Rd w w.heap.size A (flat l)) (hm : m.length ≤ 1048576) (hr' : Rd w w.heap.size A' (flat m)) (hn' : cs.length ≤ 1048576) (hrc : Rd w w.heap.size A2 (ints cs)) (hc : okC' R C l cs = true) (hmx : okC' R' C' m cs = true) (hC : ¬ C = C') :
    Calls Try.prog 48 #[.agg #[.int .i64 R, .int .i64 C, .slice A l.length cap], .agg #[.int .i64 R', .int .i64 C', .slice A' m.length cap'], .slice A2 cs.length cap2] w fun e w' => e = .returned (.tuple #[.int .i64 0, .bool false]) ∧ Below w.heap.size w w' := by
  have HC := Lib.hid hc
  have HM := Lib.hid hmx
  have hCb : (C != C') = true := by simpa using hC
  clear hc hmx
  ((go_enter Try.func48, Try.ntmps48; obtain ⟨v0, hv0, X0, X1, B0, hz0⟩ := two_boxes w [.int .i64 R, .int .i64 C, .slice A l.length cap] 32 [.int .i64 R', .int .i64 C', .slice A' m.length cap'] 32; have HV := Lib.hid hv0; have hz : w.heap.size + 1 < v0.heap.size := (by omega); have hy : w.heap.size < v0.heap.size := (by omega); have hb0 := B0.size; clear hv0 hz0; go_wp2_with fail; rewrite [show (w.alloc (.cells ([.int .i64 R, .int .i64 C, .slice A l.length cap] : List Value).toArray 32)).alloc (.cells ([.int .i64 R', .int .i64 C', .slice A' m.length cap'] : List Value).toArray 32) = v0 from HV.out]; clear HV; refine (impl_FallsOf _ _ _ _ l _ _ cs _ hn ((hr.below B0).mono B0.size) hn' ((hrc.below B0).mono B0.size)).mono ?_; rintro e w1 ⟨Ax, cx, A5, c5, rfl, Ox, Nx, O5, N5, b1⟩; clear O5 N5 Nx; rewrite [HC.out]; replace X0 := X0.below b1 X0.lt; replace X1 := X1.below b1 X1.lt; replace B0 := B0.trans (b1.mono B0.size); have hy := X0.lt; have hz := X1.lt; have hb0 := B0.size; clear b1; have X1k0 : w1.cell? ⟨w.heap.size + 1, 0, none⟩ = some (.int .i64 R') := (X1.cell 0).trans rfl; have X1k1 : w1.cell? ⟨w.heap.size + 1, 1, none⟩ = some (.int .i64 C') := (X1.cell 1).trans rfl; have X1k2 : w1.cell? ⟨w.heap.size + 1, 2, none⟩ = some (.slice A' m.length cap') := (X1.cell 2).trans rfl; go_wp2_with fail; clear X1k0 X1k1 X1k2; refine (impl_FallsOf _ _ _ _ m _ _ cs _ hm ((hr'.below (B0.alloc hb0 _)).mono (B0.alloc hb0 _).size) hn' ((hrc.below (B0.alloc hb0 _)).mono (B0.alloc hb0 _).size)).mono ?_; rintro e w2 ⟨Ay, cy, A6, c6, rfl, Oy, Ny, O6, N6, b2⟩; clear O6 N6 Ny; rewrite [HM.out]; replace Ox := (Ox.alloc_ _).keep b2; replace B0 := (B0.alloc hb0 _).trans (b2.mono (B0.alloc hb0 _).size); replace X0 := (X0.alloc _).below b2 (X0.alloc _).lt; replace X1 := (X1.alloc _).below b2 (X1.alloc _).lt; replace hb0 := B0.size; clear b2 hy hz; have hy := X0.lt; have hz := X1.lt; have X0k0 : w2.cell? ⟨w.heap.size, 0, none⟩ = some (.int .i64 R) := (X0.cell 0).trans rfl; have X0k1 : w2.cell? ⟨w.heap.size, 1, none⟩ = some (.int .i64 C) := (X0.cell 1).trans rfl; have X0k2 : w2.cell? ⟨w.heap.size, 2, none⟩ = some (.slice A l.length cap) := (X0.cell 2).trans rfl; have X1k0 : w2.cell? ⟨w.heap.size + 1, 0, none⟩ = some (.int .i64 R') := (X1.cell 0).trans rfl; have X1k1 : w2.cell? ⟨w.heap.size + 1, 1, none⟩ = some (.int .i64 C') := (X1.cell 1).trans rfl; have X1k2 : w2.cell? ⟨w.heap.size + 1, 2, none⟩ = some (.slice A' m.length cap') := (X1.cell 2).trans rfl); clear Ox Oy; go_wp2; go_returns; exact ⟨rfl, by (repeat' (first | (with_reducible exact Below.refl _ _) | (with_reducible assumption) | (with_reducible refine Below.alloc ?_ ?_ _) | (with_reducible refine Below.setCell ?_ ?_ _) | (with_reducible refine Below.drew ?_) | (with_reducible refine below_drewN ?_ _) | (with_reducible refine Below.trans ?_ (Below.mono (by assumption) ?_)) | (with_reducible exact Nat.le_refl _) | (simp; done) | omega | (simp at *; omega)))⟩)
theorem impl_FirstDifferent_good (R C : Int) (A : Option Addr) (cap : Nat) (l : List (Int × Int)) (R' C' : Int) (A' : Option Addr) (cap' : Nat) (m : List (Int × Int)) (A2 : Option Addr) (cap2 : Nat) (cs : List Int) (w : World) (hn : l.length ≤ 1048576) (hr : Rd w w.heap.size A (flat l)) (hm : m.length ≤ 1048576) (hr' : Rd w w.heap.size A' (flat m)) (hn' : cs.length ≤ 1048576) (hrc : Rd w w.heap.size A2 (ints cs)) (hc : okC' R C l cs = true) (hmx : okC' R' C' m cs = true) (hC : C = C') :
    Calls Try.prog 48 #[.agg #[.int .i64 R, .int .i64 C, .slice A l.length cap], .agg #[.int .i64 R', .int .i64 C', .slice A' m.length cap'], .slice A2 cs.length cap2] w fun e w' => e = .returned (.tuple #[.int .i64 ((firstAt (fallsO R C l cs).1 (fallsO R' C' m cs).1 (fallsO R C l cs).1.length 0).getD 0 : Nat), .bool (firstAt (fallsO R C l cs).1 (fallsO R' C' m cs).1 (fallsO R C l cs).1.length 0).isSome]) ∧ Below w.heap.size w w' := by
  have HC := Lib.hid hc
  have HM := Lib.hid hmx
  have HFx := Lib.hid (show (fallsO R C l cs).1.length = cs.length by unfold fallsO; rw [hc, if_pos rfl]; exact (stA_len _ _ _ _ _ _).1)
  have HFy := Lib.hid (show (fallsO R' C' m cs).1.length = cs.length by unfold fallsO; rw [hmx, if_pos rfl]; exact (stA_len _ _ _ _ _ _).1)
  subst hC
  clear hc hmx
  replace HFy := Lib.hid (HFy.out.trans HFx.out.symm)
  have HA0 := impl_FallsOf R C A cap l A2 cap2 cs
  have HB0 := impl_FallsOf R' C A' cap' m A2 cap2 cs
  generalize (fallsO R C l cs).1 = fx at *
  generalize (fallsO R' C m cs).1 = fy at *
  generalize (fallsO R C l cs).2 = lx at *
  generalize (fallsO R' C m cs).2 = ly at *
  have HA := Lib.hid (fun w h1 h2 h3 h4 => HA0 w h1 h2 h3 h4)
  have HB := Lib.hid (fun w h1 h2 h3 h4 => HB0 w h1 h2 h3 h4)
  clear HA0 HB0
  go_enter Try.func48, Try.ntmps48
  obtain ⟨v0, hv0, X0, X1, B0, hz0⟩ := two_boxes w [.int .i64 R, .int .i64 C, .slice A l.length cap] 32 [.int .i64 R', .int .i64 C, .slice A' m.length cap'] 32; have HV := Lib.hid hv0; have hz : w.heap.size + 1 < v0.heap.size := (by omega); have hy : w.heap.size < v0.heap.size := (by omega); have hb0 := B0.size; clear hv0 hz0; go_wp2_with fail; rewrite [show (w.alloc (.cells ([.int .i64 R, .int .i64 C, .slice A l.length cap] : List Value).toArray 32)).alloc (.cells ([.int .i64 R', .int .i64 C, .slice A' m.length cap'] : List Value).toArray 32) = v0 from HV.out]; clear HV
  refine (HA.out _ hn ((hr.below B0).mono B0.size) hn' ((hrc.below B0).mono B0.size)).mono ?_; rintro e w1 ⟨Ax, cx, A5, c5, rfl, Ox, Nx, O5, N5, b1⟩
  clear O5 N5 Nx
  rewrite [HC.out]
  replace X0 := X0.below b1 X0.lt; replace X1 := X1.below b1 X1.lt; replace B0 := B0.trans (b1.mono B0.size); have hy := X0.lt; have hz := X1.lt; have hb0 := B0.size; clear b1
  have X1k0 : w1.cell? ⟨w.heap.size + 1, 0, none⟩ = some (.int .i64 R') := (X1.cell 0).trans rfl; have X1k1 : w1.cell? ⟨w.heap.size + 1, 1, none⟩ = some (.int .i64 C) := (X1.cell 1).trans rfl; have X1k2 : w1.cell? ⟨w.heap.size + 1, 2, none⟩ = some (.slice A' m.length cap') := (X1.cell 2).trans rfl
  go_wp2_with fail
  clear X1k0 X1k1 X1k2
  refine (HB.out _ hm ((hr'.below (B0.alloc hb0 _)).mono (B0.alloc hb0 _).size) hn' ((hrc.below (B0.alloc hb0 _)).mono (B0.alloc hb0 _).size)).mono ?_; rintro e w2 ⟨Ay, cy, A6, c6, rfl, Oy, Ny, O6, N6, b2⟩
  clear O6 N6 Ny
  rewrite [HM.out]
  replace Ox := (Ox.alloc_ _).keep b2
  replace B0 := (B0.alloc hb0 _).trans (b2.mono (B0.alloc hb0 _).size)
  replace X0 := (X0.alloc _).below b2 (X0.alloc _).lt
  replace X1 := (X1.alloc _).below b2 (X1.alloc _).lt
  replace hb0 := B0.size
  clear b2 hy hz
  have hy := X0.lt
  have hz := X1.lt
  have X0k0 : w2.cell? ⟨w.heap.size, 0, none⟩ = some (.int .i64 R) := (X0.cell 0).trans rfl; have X0k1 : w2.cell? ⟨w.heap.size, 1, none⟩ = some (.int .i64 C) := (X0.cell 1).trans rfl; have X0k2 : w2.cell? ⟨w.heap.size, 2, none⟩ = some (.slice A l.length cap) := (X0.cell 2).trans rfl
  have X1k0 : w2.cell? ⟨w.heap.size + 1, 0, none⟩ = some (.int .i64 R') := (X1.cell 0).trans rfl; have X1k1 : w2.cell? ⟨w.heap.size + 1, 1, none⟩ = some (.int .i64 C) := (X1.cell 1).trans rfl; have X1k2 : w2.cell? ⟨w.heap.size + 1, 2, none⟩ = some (.slice A' m.length cap') := (X1.cell 2).trans rfl
  clear HA HB
  go_upto_region 6 with (fail)
  clear X0k0 X0k1 X0k2
  clear X1k0 X1k1 X1k2
  clear X0 X1
  generalize hv7 : World.alloc _ _ = v7
  have b7 : Below w2.heap.size w2 v7 := by rw [← hv7]; exact (Below.refl _ _).alloc (Nat.le_refl _) _
  clear hv7
  replace Ox := Ox.keep b7
  replace Oy := Oy.keep b7
  replace B0 := B0.trans (b7.mono hb0)
  clear b7 hb0
  have hfy := HFy.out
  have hmax : fx.length ≤ 1048576 := by have := HFx.out; omega
  go_loopw [45] (fun i wr => ∃ k : Nat, i = .int .i64 k ∧ k ≤ fx.length ∧ firstAt fx fy fx.length 0 = firstAt fx fy (fx.length - k) k ∧ Own wr Ax 27 (flatF fx) ∧ Own wr Ay 27 (flatF fy) ∧ Below w.heap.size w wr) (fun i _ => fx.length - (intOf i).toNat)
  case atStart => exact ⟨0, rfl, Nat.zero_le _, rfl, Ox, Oy, B0⟩
  case round =>
    clear Ox Oy B0
    obtain ⟨k, rfl, hk, hF, hx, hy4, B0⟩ := hrel
    by_cases hlt : k < fx.length
    · have hky : (k : Int) < (fy.length : Int) := by omega
      obtain ⟨gx, rfl, hgx, x0, x1, x2⟩ := own_fall hx hlt
      obtain ⟨gy, rfl, hgy, y0, y1, y2⟩ := own_fall hy4 (show k < fy.length by omega)
      have hs := B0.size
      have HY := Lib.hid (fun e => hF.trans (firstAt_same hlt e))
      have HN := Lib.hid (fun e => hF.trans (firstAt_diff hlt e))
      have hi0 : (0 : Int) ≤ (k : Int) := Int.natCast_nonneg _
      clear hF hfy
      generalize fx.getD k (0, 0, 0) = p at *
      generalize fy.getD k (0, 0, 0) = q at *
      obtain ⟨x, y, z⟩ := p
      obtain ⟨x', y', z'⟩ := q
      dsimp only at x0 x1 x2 y0 y1 y2
      have h0 := heldFall
      have h1 := guardFall
      by_cases hxy : x = x' ∧ y = y' ∧ z = z'
      · obtain ⟨rfl, rfl, rfl⟩ := hxy
        have HX := Lib.hid (HY.out rfl)
        clear HY HN
        go_wp2
        go_quiet (fail)
        go_wp2
        have hb9 : Below wr.heap.size wr ((wr.alloc (.cells #[.int .i64 x, .int .i64 y, .int .i64 z] 27)).drewN nq) := below_drewN ((Below.refl _ _).alloc (Nat.le_refl _) _) _
        first
          | exact ⟨⟨k + 1, by go_num, by omega, HX.out, hx.keep hb9, hy4.keep hb9, B0.trans (hb9.mono hs)⟩, by simp [intOf]; omega⟩
          | (go_roundw
             case rel => exact ⟨k + 1, by go_num, by omega, HX.out, hx.keep hb9, hy4.keep hb9, B0.trans (hb9.mono hs)⟩
             case measure => simp [intOf]; omega)
      · have HX := Lib.hid (HN.out (fun e => hxy (by cases e; exact ⟨rfl, rfl, rfl⟩)))
        by_cases hx0 : x = x'
        · subst hx0
          by_cases hy0 : y = y'
          · subst hy0
            have hz0 : ¬ z = z' := fun e => hxy ⟨rfl, rfl, e⟩
            (clear HY HN hxy; go_wp2; go_quiet (fail); (have hb9 : Below wr.heap.size wr ((wr.alloc (.cells #[.int .i64 x, .int .i64 y, .int .i64 z] 27)).drewN nq) := below_drewN ((Below.refl _ _).alloc (Nat.le_refl _) _) _); go_wp2; go_returns; exact ⟨by (rewrite [HX.out]; rfl), B0.trans (hb9.mono hs)⟩)
          · skip
            (clear HY HN hxy; go_wp2; go_quiet (fail); (have hb9 : Below wr.heap.size wr ((wr.alloc (.cells #[.int .i64 x, .int .i64 y, .int .i64 z] 27)).drewN nq) := below_drewN ((Below.refl _ _).alloc (Nat.le_refl _) _) _); go_wp2; go_returns; exact ⟨by (rewrite [HX.out]; rfl), B0.trans (hb9.mono hs)⟩)
        · skip
          (clear HY HN hxy; go_wp2; go_quiet (fail); (have hb9 : Below wr.heap.size wr ((wr.alloc (.cells #[.int .i64 x, .int .i64 y, .int .i64 z] 27)).drewN nq) := below_drewN ((Below.refl _ _).alloc (Nat.le_refl _) _) _); go_wp2; go_returns; exact ⟨by (rewrite [HX.out]; rfl), B0.trans (hb9.mono hs)⟩)
    · obtain rfl : k = fx.length := by omega
      have HE := Lib.hid (show firstAt fx fy fx.length 0 = none by rw [hF, Nat.sub_self]; rfl)
      clear hF hlt
      go_wp2
      go_returns
      exact ⟨by rewrite [HE.out]; rfl, B0⟩
theorem firstD_falls {R C : Int} {l : List (Int × Int)} {R' C' : Int} {m : List (Int × Int)} {cs : List Int} (hc : okC' R C l cs = true) (hm : okC' R' C' m cs = true) (hC : C = C') : firstD R C l R' C' m cs = firstAt (fallsO R C l cs).1 (fallsO R' C' m cs).1 (fallsO R C l cs).1.length 0 := by
  have e : (fallsO R C l cs).1.length = cs.length := by unfold fallsO; rw [hc, if_pos rfl]; exact (stA_len _ _ _ _ _ _).1
  rw [e]
  unfold firstD fallsO
  rw [okD_and, hc, hm, decide_eq_true hC]
  rfl
theorem firstD_none {R C : Int} {l : List (Int × Int)} {R' C' : Int} {m : List (Int × Int)} {cs : List Int} (h : okD R C l R' C' m cs = false) : firstD R C l R' C' m cs = none := by
  unfold firstD
  rw [h]
  rfl
theorem impl_FirstDifferent (R C : Int) (A : Option Addr) (cap : Nat) (l : List (Int × Int)) (R' C' : Int) (A' : Option Addr) (cap' : Nat) (m : List (Int × Int)) (A2 : Option Addr) (cap2 : Nat) (cs : List Int) (w : World) (hn : l.length ≤ 1048576) (hr : Rd w w.heap.size A (flat l)) (hm : m.length ≤ 1048576) (hr' : Rd w w.heap.size A' (flat m)) (hn' : cs.length ≤ 1048576) (hrc : Rd w w.heap.size A2 (ints cs)) :
    Calls Try.prog 48 #[.agg #[.int .i64 R, .int .i64 C, .slice A l.length cap], .agg #[.int .i64 R', .int .i64 C', .slice A' m.length cap'], .slice A2 cs.length cap2] w fun e w' => e = .returned (.tuple #[.int .i64 ((firstD R C l R' C' m cs).getD 0 : Nat), .bool (firstD R C l R' C' m cs).isSome]) ∧ Below w.heap.size w w' := by
  rcases Bool.eq_false_or_eq_true (okC' R C l cs) with hc | hc
  · rcases Bool.eq_false_or_eq_true (okC' R' C' m cs) with hmx | hmx
    · by_cases hC : C = C'
      · rw [firstD_falls hc hmx hC]
        exact impl_FirstDifferent_good R C A cap l R' C' A' cap' m A2 cap2 cs w hn hr hm hr' hn' hrc hc hmx hC
      · rw [firstD_none (by rw [okD_and, decide_eq_false hC, Bool.and_false])]
        exact impl_FirstDifferent_ne R C A cap l R' C' A' cap' m A2 cap2 cs w hn hr hm hr' hn' hrc hc hmx hC
    · rw [firstD_none (by rw [okD_and, hmx, Bool.and_false, Bool.false_and])]
      exact impl_FirstDifferent_bad R C A cap l R' C' A' cap' m A2 cap2 cs w hn hr hm hr' hn' hrc hc hmx rfl
  · rw [firstD_none (by rw [okD_and, hc, Bool.false_and, Bool.false_and])]
    exact impl_FirstDifferent_bad R C A cap l R' C' A' cap' m A2 cap2 cs w hn hr hm hr' hn' hrc hc rfl rfl
end Go.Proofs.Ytoflhjekldlaiaa
namespace Go.Proofs.Ytoflhjekldlaiaa
open Go.ChangeShapes Go.WideShapes Go.ChangeAt Go.RowKit Go.Joins Go.Deep
set_option linter.unusedSimpArgs false
set_option linter.unusedVariables false
set_option maxRecDepth 100000
set_option maxHeartbeats 1000000
def cStep (c : Nat) (v : List Int) (f : Int × Int × Int) : List Int :=
  if f.1 = 1 then v.set f.2.2.toNat (v.getD f.2.2.toNat 0 + 1) else if f.1 = 2 then v.set c (v.getD c 0 + 1) else v.set (c + 1) (v.getD (c + 1) 0 + 1)
def cntK (c : Nat) (fs : List (Int × Int × Int)) : Nat → List Int
  | 0 => List.replicate (c + 2) 0
  | k + 1 => cStep c (cntK c fs k) (fs.getD k (0, 0, 0))
theorem cStep_len (c : Nat) (v : List Int) (f : Int × Int × Int) : (cStep c v f).length = v.length := by
  unfold cStep
  split
  · rw [List.length_set]
  · split <;> rw [List.length_set]
theorem cntK_len (c : Nat) (fs : List (Int × Int × Int)) : ∀ k, (cntK c fs k).length = c + 2
  | 0 => by simp [cntK]
  | k + 1 => by rw [cntK, cStep_len]; exact cntK_len c fs k
theorem set_bd {v : List Int} {j : Nat} {b : Int} (h : ∀ i, 0 ≤ v.getD i 0 ∧ v.getD i 0 ≤ b) : ∀ i, 0 ≤ (v.set j (v.getD j 0 + 1)).getD i 0 ∧ (v.set j (v.getD j 0 + 1)).getD i 0 ≤ b + 1 := fun i => by
  have h1 := h i
  have h2 := h j
  rw [List.getD_eq_getElem?_getD, List.getElem?_set]
  by_cases e : j = i
  · rw [if_pos e]
    by_cases hl : j < v.length
    · rw [if_pos hl]
      show 0 ≤ v.getD j 0 + 1 ∧ v.getD j 0 + 1 ≤ b + 1
      omega
    · rw [if_neg hl]
      show (0 : Int) ≤ 0 ∧ (0 : Int) ≤ b + 1
      omega
  · rw [if_neg e, ← List.getD_eq_getElem?_getD]
    omega
theorem cntK_bd (c : Nat) (fs : List (Int × Int × Int)) : ∀ k i, 0 ≤ (cntK c fs k).getD i 0 ∧ (cntK c fs k).getD i 0 ≤ k
  | 0, i => by
    have e : (cntK c fs 0).getD i 0 = 0 := by
      unfold cntK
      rw [List.getD_eq_getElem?_getD, List.getElem?_replicate]
      split <;> rfl
    rw [e]
    omega
  | k + 1, i => by
    have ih := cntK_bd c fs k
    rw [cntK]
    unfold cStep
    push_cast
    split
    · exact set_bd ih i
    · split
      · exact set_bd ih i
      · exact set_bd ih i
def okE (c : Nat) (f : Int × Int × Int) : Prop := (f.1 = 1 ∧ 0 ≤ f.2.2 ∧ f.2.2 < c) ∨ f.1 = 2 ∨ f.1 = 3
theorem flG_okE (nm : List Int) (r c : Nat) : ∀ (n row : Nat) (l : List (Int × Int)) (col : Nat) (side : Int) (way : List (List Nat)), col < c → okE c ((flG nm r c n row l col side way).e, (flG nm r c n row l col side way).row, (flG nm r c n row l col side way).col)
  | 0, _, _, _, _, _, h => .inl ⟨rfl, by show (0 : Int) ≤ ((_ : Nat) : Int); omega, by show (((_ : Nat) : Int)) < _; omega⟩
  | n + 1, row, l, col, side, way, h => by
    rw [flG_step nm r c n row l col side way _ _ rfl rfl]
    split
    · exact .inr (.inl rfl)
    · split
      · next hin => exact flG_okE nm r c n _ _ _ _ _ (by omega)
      · exact .inr (.inr rfl)
theorem stA_okE (nm : List Int) (r c : Nat) (l : List (Int × Int)) (cs : List Int) (hcs : ∀ k, k < cs.length → 0 ≤ cs.getD k 0 ∧ cs.getD k 0 < c) : ∀ k, k ≤ cs.length → ∀ i, i < k → okE c ((stA nm r c l cs k).1.getD i (0, 0, 0))
  | 0, _, i, h => absurd h (Nat.not_lt_zero i)
  | k + 1, hk, i, h => by
    have hl := (stA_len nm r c l cs k).1
    have hc := hcs k (by omega)
    unfold stA
    rw [List.getD_eq_getElem?_getD]
    by_cases e : i < k
    · rw [List.getElem?_append_left (by omega), ← List.getD_eq_getElem?_getD]
      exact stA_okE nm r c l cs hcs k (by omega) i e
    · have e2 : i = k := by omega
      subst e2
      rw [List.getElem?_append_right (by omega), hl, Nat.sub_self]
      exact flG_okE nm r c r 0 _ _ _ _ (by omega)
theorem ints_setI (v : List Int) (j : Nat) (x : Int) : (ints v).set j (.int .i64 x) = ints (v.set j x) := by
  unfold ints
  rw [List.map_set]
theorem zrow_ints (n : Nat) : zrow n = ints (List.replicate n 0) := by
  unfold zrow ints
  rw [List.map_replicate]
theorem ints_getD (v : List Int) (j : Nat) (h : j < v.length) : (ints v)[j]? = some (.int .i64 (v.getD j 0)) := by
  rw [ints_at v j h, List.getD_eq_getElem?_getD, List.getElem?_eq_getElem h]
  rfl
def arrL (R C : Int) (l : List (Int × Int)) (cs : List Int) : List Int := if okC' R C l cs then cntK C.toNat (fallsO R C l cs).1 cs.length else []
theorem arrL_len (R C : Int) (l : List (Int × Int)) (cs : List Int) : (arrL R C l cs).length ≤ 1048576 := by
  unfold arrL
  split
  · next h =>
    obtain ⟨hg, _, _⟩ := okC'_parts h
    obtain ⟨s1, s2, s3, s4⟩ := sizeB_iff.1 (goodB_iff.1 hg).1
    rw [cntK_len]
    omega
  · simp
theorem run_make_c2 (c : Nat) (hc : c ≤ 9) (w : World) :
    (Instr.makeSlice 45 (.int .i64 ((c : Int) + 2)) (.int .i64 ((c : Int) + 2))).run Try.prog w = .ok (.slice (some ⟨w.heap.size, 0, none⟩) (c + 2) (c + 2)) (w.alloc (.cells (zrow (c + 2)).toArray 3)) := by
  have h := run_make_ints (c + 2) (by omega) w
  push_cast at h
  exact h
theorem set_row {w : World} {A : Option Addr} {t t' : TypeId} {xs : List Value} {g j : Nat} {ys : List Value} {u : Value} (h : Own w A t xs) (hw : Whole w g t' ys) (hne : t ≠ t') : Own (w.setCell ⟨g, j, none⟩ u) A t xs :=
  h.apart hw hne ⟨rfl, rfl, rfl, by rw [World.size_setCell]; exact Nat.le_refl _, fun k _ hk => Below.heap_setCell _ _ _ _ (fun e => hk (by rw [e]))⟩
end Go.Proofs.Ytoflhjekldlaiaa
