/- strings.Join of four short texts, by a blank. -/
import Derived.Test.YtlambflmabecfaaDoorBuilder2
import Derived.Test.YtlambflmabecfaaDoorShelf
import Derived.Deep.Cut
import Derived.Test.YtlambflmabecfaaDoorBText
namespace Go.Proofs.YtlambflmabecfaaDoor
open Go.ChangeShapes Go.WideShapes Go.ChangeAt Go.RowKit Go.Joins Go.Deep
set_option linter.unusedSimpArgs false
set_option linter.unusedVariables false
set_option maxRecDepth 100000
set_option maxHeartbeats 4000000
def jnW (xs : List (List UInt8)) : Nat → List UInt8
  | 0 => xs.getD 0 []
  | k + 1 => jnW xs k ++ [32] ++ xs.getD (k + 1) []
def sumW (xs : List (List UInt8)) : Nat → Nat
  | 0 => 0
  | k + 1 => sumW xs k + (xs.getD k []).length
theorem getD_le {xs : List (List UInt8)} (hl : ∀ x ∈ xs, x.length ≤ 20) (k : Nat) : (xs.getD k []).length ≤ 20 := by
  rw [List.getD_eq_getElem?_getD]
  cases h : xs[k]? with
  | none => exact Nat.zero_le _
  | some x => exact hl x (List.mem_of_getElem? h)
theorem jnW_le {xs : List (List UInt8)} (hl : ∀ x ∈ xs, x.length ≤ 20) : ∀ k, (jnW xs k).length ≤ 21 * (k + 1)
  | 0 => Nat.le_trans (getD_le hl 0) (by omega)
  | k + 1 => by
    have h1 := jnW_le hl k
    have h2 := getD_le hl (k + 1)
    unfold jnW
    simp only [List.length_append, List.length_singleton]
    omega
theorem sumW_le {xs : List (List UInt8)} (hl : ∀ x ∈ xs, x.length ≤ 20) : ∀ k, sumW xs k ≤ 20 * k
  | 0 => Nat.le_refl _
  | k + 1 => by
    have h1 := sumW_le hl k
    have h2 := getD_le hl k
    unfold sumW
    omega
theorem bytes_back (l : List UInt8) : (⟨l.toArray⟩ : ByteArray).data.toList = l := rfl
theorem join_four (g : Nat) (xs : List (List UInt8)) (hl : ∀ x ∈ xs, x.length ≤ 20) (w : World) (hc : ∀ k, k < 4 → w.cell? ⟨g, k, none⟩ = some (.string ⟨(xs.getD k []).toArray⟩)) (hg : g < w.heap.size) :
    Calls Tryd.prog 36 #[.slice (some ⟨g, 0, none⟩) 4 4, .string ⟨#[32]⟩] w fun e w' => e = .returned (.string ⟨(jnW xs 3).toArray⟩) ∧ Below w.heap.size w w' := by
  have HC := Lib.hid hc
  have HG := Lib.hid (fun k => getD_le hl k)
  have HJ := Lib.hid (fun k => jnW_le hl k)
  have HS := Lib.hid (fun k => sumW_le hl k)
  clear hc hl
  go_enter Tryd.func36, Tryd.ntmps36
  go_wp2
  go_loop [5, 41] (fun n i => ∃ k : Nat, k ≤ 4 ∧ i = .int .i64 k ∧ n = .int .i64 ((3 + sumW xs k : Nat) : Int)) (fun _ i => 4 - (intOf i).toNat)
  case atStart => exact ⟨0, by omega, rfl, rfl⟩
  case round =>
    obtain ⟨k, hk, rfl, rfl⟩ := hrel
    by_cases hlt : k < 4
    · have h0 := HC.out k hlt
      have h1 := HG.out k
      have h2 := HS.out k
      have HT := Lib.hid (show sumW xs (k + 1) = sumW xs k + (xs.getD k []).length from rfl)
      have hsz : (⟨(xs.getD k []).toArray⟩ : ByteArray).size = (xs.getD k []).length := List.size_toArray ..
      generalize (xs.getD k []).length = n at *
      generalize (⟨(xs.getD k []).toArray⟩ : ByteArray) = bx at *
      generalize sumW xs k = s at *
      have hki : (k : Int) < 4 := by omega
      go_wp2
      first
        | exact ⟨⟨k + 1, by omega, by go_num, by rw [HT.out]; go_num⟩, by simp [intOf]; omega⟩
        | (go_round
           case rel => exact ⟨k + 1, by omega, by go_num, by rw [HT.out]; go_num⟩
           case measure => simp [intOf]; omega)
    · obtain rfl : k = 4 := by omega
      have h2 := HS.out 4
      generalize sumW xs 4 = s at *
      have h00 := HC.out 0 (by omega)
      obtain ⟨v0, hv0⟩ : ∃ v, v = w.alloc (.cells #[.pointer none, .slice none 0 0] 47) := ⟨_, rfl⟩
      have hbk : v0.heap[w.heap.size]? = some (.cells #[.pointer none, .slice none 0 0] 47 (0, 0)) := by rw [hv0]; exact heap_alloc_new w _
      have b0 : Below w.heap.size w v0 := by rw [hv0]; exact (Below.refl _ _).alloc (Nat.le_refl _) _
      have HV := Lib.hid hv0.symm
      clear hv0
      go_upto_region 19 with (fail)
      rewrite [HV.out]
      clear HV
      go_wp2_with fail
      refine (Tryd.Builder_Grow_fresh w.heap.size w.heap.size (3 + s) v0 (Nat.le_refl _) hbk b0.size (by omega)).mono ?_; rintro e w1 ⟨rfl, hbd0, b1⟩
      have hbd : Bld w.heap.size w.heap.size [] w1 := .inr hbd0
      have B1 := b0.trans b1
      clear hbd0 b0 b1 hbk
      have h01 : w1.cell? ⟨g, 0, none⟩ = some (.string ⟨(xs.getD 0 []).toArray⟩) := (B1.cell (p := ⟨g, 0, none⟩) hg).trans h00
      have hz1 := B1.size
      have HJ0 := Lib.hid (show jnW xs 0 = xs.getD 0 [] from rfl)
      have hx0 := HG.out 0
      generalize xs.getD 0 [] = x0 at *
      go_wp2_with fail
      refine (WriteString_any _ _ _ _ _ hbd (by simp) (by show x0.toArray.size ≤ _; rw [List.size_toArray]; omega) hz1).mono ?_; rintro e w2 ⟨rfl, hbd2, b2⟩
      have B2 := B1.trans b2
      have hz2 := B2.size
      rw [List.nil_append, bytes_back, ← HJ0.out] at hbd2
      clear h01 hz1 b2 B1 hbd h00
      go_wp2
      go_loopw [65] (fun i wr => ∃ k : Nat, k ≤ 3 ∧ i = .int .i64 k ∧ Bld w.heap.size w.heap.size (jnW xs k) wr ∧ Below w.heap.size w wr) (fun i _ => 3 - (intOf i).toNat)
      case atStart => exact ⟨0, by omega, rfl, hbd2, B2⟩
      case round =>
        clear hbd2 B2 hz2
        obtain ⟨k, hk, rfl, hbd, hb⟩ := hrel
        have hs := hb.size
        by_cases hlt : k < 3
        · have h0 := (hb.cell (p := ⟨g, k + 1, none⟩) hg).trans (HC.out (k + 1) (by omega))
          have h0' : wr.cell? ⟨g, 1 + k, none⟩ = some (.string ⟨(xs.getD (k + 1) []).toArray⟩) := by rw [Nat.add_comm]; exact h0
          have HT := Lib.hid (show jnW xs (k + 1) = jnW xs k ++ [32] ++ xs.getD (k + 1) [] from rfl)
          have h1 := HG.out (k + 1)
          have h2 := HJ.out k
          clear HJ0
          generalize xs.getD (k + 1) [] = y at *
          generalize jnW xs k = J at *
          have hki : (k : Int) < 3 := by omega
          go_wp2_with fail
          refine (WriteString_any _ _ _ ⟨#[32]⟩ _ hbd (by omega) (by decide) hs).mono ?_; rintro e w3 ⟨rfl, hbd3, b3⟩
          have B3 := hb.trans b3
          have hz3 := B3.size
          clear h0 h0' b3 hbd hb
          go_wp2_with fail
          refine (WriteString_any _ _ _ _ _ hbd3 (by rw [List.length_append]; show _ + 1 ≤ _; omega) (by show y.toArray.size ≤ _; rw [List.size_toArray]; omega) hz3).mono ?_; rintro e w4 ⟨rfl, hbd4, b4⟩
          have B4 := B3.trans b4
          clear b4 hbd3 B3
          rw [bytes_back] at hbd4
          have hbd5 : Bld w.heap.size w.heap.size (jnW xs (k + 1)) w4 := by rw [HT.out]; exact hbd4
          clear hbd4
          go_wp2
          first
            | exact ⟨⟨k + 1, by omega, by go_num, hbd5, B4⟩, by simp [intOf]; omega⟩
            | (go_roundw
               case rel => exact ⟨k + 1, by omega, by go_num, hbd5, B4⟩
               case measure => simp [intOf]; omega)
        · obtain rfl : k = 3 := by omega
          go_wp2_with fail
          refine (String_any _ _ _ _ hbd hs).mono ?_; rintro e w2 ⟨rfl, b2⟩
          go_wp2
          go_returns
          exact ⟨rfl, hb.trans b2⟩
end Go.Proofs.YtlambflmabecfaaDoor
