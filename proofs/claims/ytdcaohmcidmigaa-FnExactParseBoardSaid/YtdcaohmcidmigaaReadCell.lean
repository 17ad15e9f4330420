/- ReadCell, program and model. -/
import Derived.Test.YtdcaohmcidmigaaWith
namespace Go.Proofs.Ytdcaohmcidmigaa
open Go.ChangeShapes Go.WideShapes Go.ChangeAt Go.RowKit Go.Joins Go.Deep
set_option linter.unusedSimpArgs false
set_option linter.unusedVariables false
set_option maxRecDepth 100000
set_option maxHeartbeats 400000
theorem data_one {s : ByteArray} (h : s.size = 1) (h0 : 0 < s.size) : s.toList = [s[0]] := by
  rw [ByteArray.toList_eq]
  have hl : s.data.toList.length = 1 := by simpa using h
  match hd : s.data.toList, hl with
  | [b], _ =>
    have : s[0] = b := by
      have h1 : s.data.toList[0]? = some b := by rw [hd]; rfl
      have h2 : s.data[0]? = some b := by simpa using h1
      have h3 : s.data[0]? = some (s.data[0]'(by simpa using h0)) := by simp
      rw [h3] at h2
      exact Option.some.inj h2
    rw [this]
theorem rd_one {s : ByteArray} (h : s.size = 1) (h0 : 0 < s.size) : rdC s = rrC (s[0].toNat : Int) := by
  unfold rdC rrC
  congr 1
  funext c
  unfold isLet isR
  rw [data_one h h0, Bool.eq_iff_iff]
  simp only [beq_iff_eq, List.cons.injEq, and_true]
  rw [← UInt8.toNat_inj]
  omega
theorem rd_not {s : ByteArray} (h : ¬ s.size = 1) : rdC s = none := by
  unfold rdC
  rw [List.find?_eq_none]
  intro c _ hc
  unfold isLet at hc
  simp only [beq_iff_eq] at hc
  have h2 : s.toList.length = 1 := by rw [← hc]; rfl
  rw [ByteArray.toList_eq] at h2
  exact h (by simpa using h2)
theorem byte32 (b : UInt8) : wrap32 (b.toNat : Int) = (b.toNat : Int) := by
  have := b.toNat_lt
  unfold wrap32
  omega
end Go.Proofs.Ytdcaohmcidmigaa
