/- A slice of bytes as an argument. -/
import Derived.WideShapes4
import Derived.Test.YtpfjbecpfdgnpaaDrawC
namespace Go.Proofs.Ytpfjbecpfdgnpaa
open Go.ChangeShapes Go.WideShapes Go.ChangeAt Go.RowKit Go.Joins Go.Deep
set_option linter.unusedSimpArgs false
set_option linter.unusedVariables false
set_option maxRecDepth 100000
theorem open_bytesB {H : Type} {enc : TypeId × Value → H} {W : World} {r : Reach} {b0 : Nat} {v : Value} {d : DataW H} {p : List MemPlace}
    (hv : Value.okWide Try.prog W r b0 22 v) (h : DataW.Trod enc Try.prog W 0 (fun _ => true) true 22 v d p) :
    ∃ (A : Option Addr) (cap : Nat) (l : List Int), v = .slice A l.length cap ∧ Bytes W A l := by
  obtain ⟨A, n, cap, rfl⟩ := okWide_slice Try.underlying22 hv
  obtain ⟨fuel, hf⟩ := h
  rcases Go.ChangeShapes.open_ints Try.underlying22 Try.underlying5 (by kernel_rfl) hf with ⟨hcs, hx⟩ | ⟨a, len, cap', zs, hcs, _, hl, hm, hz, hx, hi, hw⟩
  · obtain h1 := List.head_eq_of_cons_eq hcs
    rw [h1]
    exact ⟨none, 0, [], rfl, by simp, by simp, fun h => absurd h (by simp [bytesV])⟩
  · obtain h1 := List.head_eq_of_cons_eq hcs
    rw [h1]
    simp only [if_true] at hz
    have hlen : (zs.take len).length = len := by rw [List.length_take]; omega
    refine ⟨some a, cap', zs.take len, by rw [hlen], by unfold maxLen at *; omega, fun x hx => ?_, fun hpos => ?_⟩
    · obtain ⟨j, hj, rfl⟩ := List.getElem_of_mem hx
      rw [hlen] at hj
      have hb := range_u8 hw j
      rw [List.getElem?_eq_getElem (by omega)] at hb
      rw [List.getElem_take]
      simpa using hb
    · rw [bytesV, List.length_map, hlen] at hpos
      have h0 := hi 0 (by omega)
      obtain ⟨b, off, spot⟩ := a
      have hspot : spot = none := by simpa [Addr.add] using World.cell?_spot h0
      subst hspot
      refine ⟨b, off, rfl, by simpa [Addr.add] using lt_of_cell h0, fun j u hu => ?_⟩
      have hj : j < len := by
        have := (List.getElem?_eq_some_iff.1 hu).1
        rw [bytesV, List.length_map, hlen] at this
        exact this
      have h2 := hi j (by omega)
      rw [add_plain] at h2
      rw [h2, ← hu, bytesV, List.getElem?_map, List.getElem?_eq_getElem (by rw [hlen]; exact hj), List.getElem_take, List.getD_eq_getElem?_getD, List.getElem?_eq_getElem (by omega)]
      rfl
end Go.Proofs.Ytpfjbecpfdgnpaa
