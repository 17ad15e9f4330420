/- Contracts of the program and of the model, walked, part 4 of 5. No condition but what each says. -/
import Derived.Test.YtpfjbecpfdgnpabDoorM3
import Derived.Shelf.Strings.Builder1
import Derived.Shelf.Strings.BuilderK
import Derived.Test.YtpfjbecpfdgnpabDoorM1
import Derived.Lib.AppendStr
import Derived.Test.YtpfjbecpfdgnpabDoorM2
import Derived.Deep.RegionWith
import Derived.Lib.ItoaNum
import Derived.Laws.IdiomStrings
import Derived.Lib.Join
import Derived.Test.YtpfjbecpfdgnpabDoorShelf
namespace Go.Proofs.YtpfjbecpfdgnpabDoor
open Go.ChangeShapes Go.WideShapes Go.ChangeAt Go.RowKit Go.Joins Go.Deep
set_option linter.unusedSimpArgs false
set_option linter.unusedVariables false
set_option maxRecDepth 100000
set_option maxHeartbeats 2000000
theorem impl_isHopper (n : Int) (w : World) :
    Calls Tryd.prog 26 #[.int .i64 n] w fun e w' => e = .returned (.bool (decide (0 ≤ n) && decide (n ≤ 30))) ∧ Below w.heap.size w w' := by
  by_cases h0 : 0 ≤ n
  · by_cases h1 : n ≤ 30
    · have HE := Lib.hid (show (decide (0 ≤ n) && decide (n ≤ 30)) = true by rw [decide_eq_true h0, decide_eq_true h1]; rfl)
      rewrite [HE.out]
      go_enter Tryd.func26, Tryd.ntmps26
      go_wp2
      go_returns
      exact ⟨rfl, by (repeat' (first | (with_reducible exact Below.refl _ _) | (with_reducible assumption) | (with_reducible refine Below.alloc ?_ ?_ _) | (with_reducible refine Below.setCell ?_ ?_ _) | (with_reducible refine Below.drew ?_) | (with_reducible refine below_drewN ?_ _) | (with_reducible refine Below.trans ?_ (Below.mono (by assumption) ?_)) | (with_reducible exact Nat.le_refl _) | (simp; done) | omega | (simp at *; omega)))⟩
    · have HE := Lib.hid (show (decide (0 ≤ n) && decide (n ≤ 30)) = false by rw [decide_eq_true h0, decide_eq_false h1]; rfl)
      rewrite [HE.out]
      go_enter Tryd.func26, Tryd.ntmps26
      go_wp2
      go_returns
      exact ⟨rfl, by (repeat' (first | (with_reducible exact Below.refl _ _) | (with_reducible assumption) | (with_reducible refine Below.alloc ?_ ?_ _) | (with_reducible refine Below.setCell ?_ ?_ _) | (with_reducible refine Below.drew ?_) | (with_reducible refine below_drewN ?_ _) | (with_reducible refine Below.trans ?_ (Below.mono (by assumption) ?_)) | (with_reducible exact Nat.le_refl _) | (simp; done) | omega | (simp at *; omega)))⟩
  · have HE := Lib.hid (show (decide (0 ≤ n) && decide (n ≤ 30)) = false by rw [decide_eq_false h0]; rfl)
    rewrite [HE.out]
    go_enter Tryd.func26, Tryd.ntmps26
    go_wp2
    go_returns
    exact ⟨rfl, by (repeat' (first | (with_reducible exact Below.refl _ _) | (with_reducible assumption) | (with_reducible refine Below.alloc ?_ ?_ _) | (with_reducible refine Below.setCell ?_ ?_ _) | (with_reducible refine Below.drew ?_) | (with_reducible refine below_drewN ?_ _) | (with_reducible refine Below.trans ?_ (Below.mono (by assumption) ?_)) | (with_reducible exact Nat.le_refl _) | (simp; done) | omega | (simp at *; omega)))⟩
theorem okC'_two (R C : Int) (l : List (Int × Int)) (j k : Int) : okC' R C l [j, k] = (okF R C l j && okF R C l k) := by
  unfold okC' okF allI
  rw [List.all_cons, List.all_cons, List.all_nil, Bool.and_true, inI_lt, inI_lt]
  cases goodB R C l <;> simp
theorem impl_areEntries2 (R C : Int) (A : Option Addr) (cap : Nat) (l : List (Int × Int)) (j k : Int) (g : Nat) (w : World) (hn : l.length ≤ 1048576) (hr : Rd w w.heap.size A (flat l)) (hg : Whole w g 3 [.int .i64 j, .int .i64 k]) :
    Calls Tryd.prog 25 #[.agg #[.int .i64 R, .int .i64 C, .slice A l.length cap], .slice (some ⟨g, 0, none⟩) 2 2] w fun e w' => e = .returned (.bool (okF R C l j && okF R C l k)) ∧ Below w.heap.size w w' := by
  rw [← okC'_two]
  exact impl_areEntries R C A cap l (some ⟨g, 0, none⟩) 2 [j, k] w hn (by simp) hr (hg.rd hg.lt)
theorem impl_IsMachine (R C : Int) (A : Option Addr) (cap : Nat) (l : List (Int × Int)) (p q bl rd nx : Int) (w : World) (hn : l.length ≤ 1048576) (hr : Rd w w.heap.size A (flat l)) :
    Calls Tryd.prog 14 #[.agg #[.int .i64 R, .int .i64 C, .slice A l.length cap, .int .i64 p, .int .i64 q, .int .i64 bl, .int .i64 rd, .int .i64 nx]] w fun e w' => e = .returned (.bool (okM R C l p q bl rd nx)) ∧ Below w.heap.size w w' := by
  have HE := Lib.hid (show okM R C l p q bl rd nx = ((okF R C l p && okF R C l q) && (decide (0 ≤ bl) && decide (bl ≤ 30)) && (decide (0 ≤ rd) && decide (rd ≤ 30)) && decide (0 ≤ nx) && decide (nx ≤ 2)) by unfold okM inM; cases okF R C l p <;> cases okF R C l q <;> simp [Bool.and_assoc])
  rewrite [HE.out]
  clear HE
  go_enter Tryd.func14, Tryd.ntmps14
  obtain ⟨v0, hv0⟩ : ∃ v, v = w.alloc (.cells #[.int .i64 R, .int .i64 C, .slice A l.length cap, .int .i64 p, .int .i64 q, .int .i64 bl, .int .i64 rd, .int .i64 nx] 34) := ⟨_, rfl⟩; have X0 : Whole v0 w.heap.size 34 [.int .i64 R, .int .i64 C, .slice A l.length cap, .int .i64 p, .int .i64 q, .int .i64 bl, .int .i64 rd, .int .i64 nx] := (by rw [hv0]; exact heap_alloc_new w _); have hb : Below w.heap.size w v0 := (by rw [hv0]; exact (Below.refl _ _).alloc (Nat.le_refl _) _); have HV := Lib.hid hv0.symm; clear hv0; go_upto_region 1 with (fail); rewrite [HV.out]; clear HV; have hy := X0.lt
  have X0k0 : v0.cell? ⟨w.heap.size, 0, none⟩ = some (.int .i64 R) := (X0.cell 0).trans rfl; have X0k1 : v0.cell? ⟨w.heap.size, 1, none⟩ = some (.int .i64 C) := (X0.cell 1).trans rfl; have X0k2 : v0.cell? ⟨w.heap.size, 2, none⟩ = some (.slice A l.length cap) := (X0.cell 2).trans rfl; have X0k3 : v0.cell? ⟨w.heap.size, 3, none⟩ = some (.int .i64 p) := (X0.cell 3).trans rfl; have X0k4 : v0.cell? ⟨w.heap.size, 4, none⟩ = some (.int .i64 q) := (X0.cell 4).trans rfl; have X0k5 : v0.cell? ⟨w.heap.size, 5, none⟩ = some (.int .i64 bl) := (X0.cell 5).trans rfl; have X0k6 : v0.cell? ⟨w.heap.size, 6, none⟩ = some (.int .i64 rd) := (X0.cell 6).trans rfl; have X0k7 : v0.cell? ⟨w.heap.size, 7, none⟩ = some (.int .i64 nx) := (X0.cell 7).trans rfl
  go_wp2_with fail
  have bl1 : Below v0.heap.size v0 (v0.alloc (.cells #[.int .i64 p, .int .i64 q] 3)) := (Below.refl _ _).alloc (Nat.le_refl _) _
  have Xl : Whole (v0.alloc (.cells #[.int .i64 p, .int .i64 q] 3)) v0.heap.size 3 [.int .i64 p, .int .i64 q] := heap_alloc_new v0 _
  clear X0k0 X0k1 X0k2 X0k3 X0k4 X0k5 X0k6 X0k7
  replace X0 := X0.below bl1 X0.lt
  replace hb := hb.trans (bl1.mono hb.size)
  clear bl1
  generalize v0.alloc (.cells #[.int .i64 p, .int .i64 q] 3) = v1 at *
  refine (impl_areEntries2 _ _ _ _ l _ _ _ _ hn ((hr.below hb).mono hb.size) Xl).mono ?_; rintro e w1 ⟨rfl, b1⟩
  clear Xl
  (replace X0 := X0.below b1 X0.lt; replace hb := hb.trans (b1.mono hb.size); have hy := X0.lt; clear b1)
  rcases Bool.eq_false_or_eq_true (okF R C l p && okF R C l q) with h1 | h1
  · rewrite [h1]
    have X0k0 : w1.cell? ⟨w.heap.size, 0, none⟩ = some (.int .i64 R) := (X0.cell 0).trans rfl; have X0k1 : w1.cell? ⟨w.heap.size, 1, none⟩ = some (.int .i64 C) := (X0.cell 1).trans rfl; have X0k2 : w1.cell? ⟨w.heap.size, 2, none⟩ = some (.slice A l.length cap) := (X0.cell 2).trans rfl; have X0k3 : w1.cell? ⟨w.heap.size, 3, none⟩ = some (.int .i64 p) := (X0.cell 3).trans rfl; have X0k4 : w1.cell? ⟨w.heap.size, 4, none⟩ = some (.int .i64 q) := (X0.cell 4).trans rfl; have X0k5 : w1.cell? ⟨w.heap.size, 5, none⟩ = some (.int .i64 bl) := (X0.cell 5).trans rfl; have X0k6 : w1.cell? ⟨w.heap.size, 6, none⟩ = some (.int .i64 rd) := (X0.cell 6).trans rfl; have X0k7 : w1.cell? ⟨w.heap.size, 7, none⟩ = some (.int .i64 nx) := (X0.cell 7).trans rfl
    go_wp2_with fail
    refine (impl_isHopper _ _).mono ?_; rintro e w3 ⟨rfl, b2⟩
    clear X0k0 X0k1 X0k2 X0k3 X0k4 X0k5 X0k6 X0k7
    (replace X0 := X0.below b2 X0.lt; replace hb := hb.trans (b2.mono hb.size); have hy := X0.lt; clear b2)
    rcases Bool.eq_false_or_eq_true (decide (0 ≤ bl) && decide (bl ≤ 30)) with h3 | h3
    · rewrite [h3]
      have X0k0 : w3.cell? ⟨w.heap.size, 0, none⟩ = some (.int .i64 R) := (X0.cell 0).trans rfl; have X0k1 : w3.cell? ⟨w.heap.size, 1, none⟩ = some (.int .i64 C) := (X0.cell 1).trans rfl; have X0k2 : w3.cell? ⟨w.heap.size, 2, none⟩ = some (.slice A l.length cap) := (X0.cell 2).trans rfl; have X0k3 : w3.cell? ⟨w.heap.size, 3, none⟩ = some (.int .i64 p) := (X0.cell 3).trans rfl; have X0k4 : w3.cell? ⟨w.heap.size, 4, none⟩ = some (.int .i64 q) := (X0.cell 4).trans rfl; have X0k5 : w3.cell? ⟨w.heap.size, 5, none⟩ = some (.int .i64 bl) := (X0.cell 5).trans rfl; have X0k6 : w3.cell? ⟨w.heap.size, 6, none⟩ = some (.int .i64 rd) := (X0.cell 6).trans rfl; have X0k7 : w3.cell? ⟨w.heap.size, 7, none⟩ = some (.int .i64 nx) := (X0.cell 7).trans rfl
      go_wp2_with fail
      refine (impl_isHopper _ _).mono ?_; rintro e w4 ⟨rfl, b3⟩
      clear X0k0 X0k1 X0k2 X0k3 X0k4 X0k5 X0k6 X0k7
      (replace X0 := X0.below b3 X0.lt; replace hb := hb.trans (b3.mono hb.size); have hy := X0.lt; clear b3)
      rcases Bool.eq_false_or_eq_true (decide (0 ≤ rd) && decide (rd ≤ 30)) with h4 | h4
      · rewrite [h4]
        have X0k0 : w4.cell? ⟨w.heap.size, 0, none⟩ = some (.int .i64 R) := (X0.cell 0).trans rfl; have X0k1 : w4.cell? ⟨w.heap.size, 1, none⟩ = some (.int .i64 C) := (X0.cell 1).trans rfl; have X0k2 : w4.cell? ⟨w.heap.size, 2, none⟩ = some (.slice A l.length cap) := (X0.cell 2).trans rfl; have X0k3 : w4.cell? ⟨w.heap.size, 3, none⟩ = some (.int .i64 p) := (X0.cell 3).trans rfl; have X0k4 : w4.cell? ⟨w.heap.size, 4, none⟩ = some (.int .i64 q) := (X0.cell 4).trans rfl; have X0k5 : w4.cell? ⟨w.heap.size, 5, none⟩ = some (.int .i64 bl) := (X0.cell 5).trans rfl; have X0k6 : w4.cell? ⟨w.heap.size, 6, none⟩ = some (.int .i64 rd) := (X0.cell 6).trans rfl; have X0k7 : w4.cell? ⟨w.heap.size, 7, none⟩ = some (.int .i64 nx) := (X0.cell 7).trans rfl
        rcases Bool.eq_false_or_eq_true (decide (0 ≤ nx)) with h5 | h5
        · have h6 := of_decide_eq_true h5
          have h7 := Lib.hid h5
          clear h5
          go_wp2
          go_returns
          exact ⟨by (first | (rw [h1, h3, h4, h7.out]; rfl) | (rw [h7.out]; rfl)), hb⟩
        · have h6 := of_decide_eq_false h5
          have h7 := Lib.hid h5
          clear h5
          go_wp2
          go_returns
          exact ⟨by (first | (rw [h1, h3, h4, h7.out]; rfl) | (rw [h7.out]; rfl)), hb⟩
      · rewrite [h4]
        go_wp2
        go_returns
        exact ⟨by rw [h1, h3, h4]; rfl, hb⟩
    · rewrite [h3]
      go_wp2
      go_returns
      exact ⟨by rw [h1, h3]; rfl, hb⟩
  · rewrite [h1]
    go_wp2
    go_returns
    exact ⟨by rw [h1]; rfl, hb⟩
end Go.Proofs.YtpfjbecpfdgnpabDoor
namespace Go.Proofs.YtpfjbecpfdgnpabDoor
open Go.ChangeShapes Go.WideShapes Go.ChangeAt Go.RowKit Go.Joins Go.Deep
set_option linter.unusedSimpArgs false
set_option linter.unusedVariables false
set_option maxRecDepth 100000
open Go.Shelf
set_option maxRecDepth 100000
def renS : Go.Shelf.Ren := ⟨fun | 169 => 33 | n => n, fun | 70 => 58 | 9 => 9 | 0 => 0 | 72 => 60 | 37 => 51 | 127 => 80 | 3 => 3 | 5 => 5 | n => n, fun | n => n⟩
theorem laysS : Go.Proofs.Lays.n169 Tryd.prog renS := {
  mixed := by kernel_rfl
  f169 := Tryd.func33.trans (congrArg some (by kernel_rfl))
  t0 := Tryd.underlying0, a0 := Tryd.isAgg0, z0 := Tryd.sizeOf0, v0 := Tryd.zeroValue0
  t3 := Tryd.underlying3, a3 := Tryd.isAgg3, z3 := Tryd.sizeOf3, v3 := Tryd.zeroValue3
  t9 := Tryd.underlying9, a9 := Tryd.isAgg9, z9 := Tryd.sizeOf9, v9 := Tryd.zeroValue9
  t37 := Tryd.underlying51, a37 := Tryd.isAgg51, z37 := Tryd.sizeOf51, v37 := Tryd.zeroValue51
  t70 := Tryd.underlying58, a70 := Tryd.isAgg58, z70 := Tryd.sizeOf58, v70 := Tryd.zeroValue58
  t72 := Tryd.underlying60, a72 := Tryd.isAgg60, z72 := Tryd.sizeOf60, v72 := Tryd.zeroValue60
  t127 := Tryd.underlying80, a127 := Tryd.isAgg80, z127 := Tryd.sizeOf80, v127 := Tryd.zeroValue80 }
theorem extraS : Builder.Extra Tryd.prog renS := {
  sizeBuilder := by kernel_rfl
  liesBuilder := by kernel_rfl
  t5 := Tryd.underlying5
  a5 := Tryd.isAgg5
  z5 := Tryd.sizeOf5
  v5 := Tryd.zeroValue5
  infoByte := by kernel_rfl
  cellsByte := by kernel_rfl
  sizeByte := by kernel_rfl
  neB5 := by decide }
/-- A builder of the call's own that holds these bytes. -/
def Bld (B b : Nat) (l : List UInt8) (w : World) : Prop := Lib.IsBuilder 60 5 B b (Lib.byteCells l) w
theorem bldAt_keep {B b : Nat} {p : Value} {bs : List Value} {w w' : World} (h : Lib.BuilderAt 60 5 B b p bs w) (hb : Below w.heap.size w w') : Lib.BuilderAt 60 5 B b p bs w' := by
  obtain ⟨hB, v, hbk, hown, hne⟩ := h
  refine ⟨hB, v, (hb.block b (Array.getElem?_eq_some_iff.1 hbk).1).trans hbk, ?_, hne⟩
  exact hown.kept (row := none) ⟨hb.os, hb.tape, hb.output, hb.size, fun i hi _ => hb.block i hi⟩ (by cases hv : v.ownBlock <;> simp)
theorem Bld.keep {B b : Nat} {l : List UInt8} {w w' : World} (h : Bld B b l w) (hb : Below w.heap.size w w') : Bld B b l w' :=
  h.elim (fun h => .inl (bldAt_keep h hb)) (fun h => .inr (bldAt_keep h hb))
theorem bld_alloc {B b : Nat} {l : List UInt8} {w : World} (h : Bld B b l w) (o : Obj) : Bld B b l (w.alloc o) := h.keep ((Below.refl _ _).alloc (Nat.le_refl _) o)
theorem String_any (B b : Nat) (l : List UInt8) (w : World) (h : Bld B b l w) (hBw : B ≤ w.heap.size) :
    Calls Tryd.prog 33 #[.pointer (some ⟨b, 0, none⟩)] w fun e w' => e = .returned (.string ⟨l.toArray⟩) ∧ Below B w w' :=
  (Any.Builder_String_any_k laysS extraS B b l w (Lib.IsBuilderF.of h) hBw).mono fun e w' ⟨h1, _, h2, _⟩ => ⟨h1, h2⟩
set_option maxHeartbeats 1000000
theorem sizeBuilder : (Tryd.prog.info? 60).map (fun i => i.size) = some 2 := by kernel_rfl
theorem copyCheck_used (b : Nat) (w : World) (h0 : w.cell? ⟨b, 0, none⟩ = some (.pointer (some ⟨b, 0, none⟩))) :
    Calls Tryd.prog 45 #[.pointer (some ⟨b, 0, none⟩)] w fun e w' => e = .returned (.tuple #[]) ∧ w = w' := by
  obtain ⟨j, hj, _⟩ := Option.map_eq_some_iff.1 sizeBuilder
  go_enter Tryd.func45, Tryd.ntmps45
  go_wp2
  rw [Lib.run_neq_ptr_same w _ Tryd.underlying58 hj]
  go_wp2
  go_end0
  exact ⟨rfl, rfl⟩
theorem copyCheck_fresh (b : Nat) (w : World) (h0 : w.cell? ⟨b, 0, none⟩ = some (.pointer none)) (hsh : w.shape? b = some (60, 2)) (hfz : w.frozen? ⟨b, 0, none⟩ = false) :
    Calls Tryd.prog 45 #[.pointer (some ⟨b, 0, none⟩)] w fun e w' => e = .returned (.tuple #[]) ∧ w.setCell ⟨b, 0, none⟩ (.pointer (some ⟨b, 0, none⟩)) = w' := by
  obtain ⟨j, hj, hjs⟩ := Option.map_eq_some_iff.1 sizeBuilder
  go_enter Tryd.func45, Tryd.ntmps45
  go_wp2
  rw [Lib.run_to_unsafe w ⟨b, 0, none⟩ Tryd.underlying58 Tryd.underlying90 hj (by rw [hjs]; decide) hsh (Nat.zero_lt_succ 1)]
  simp only [Result.andThen]
  rw [Oper.upon_value]
  go_wp2
  rw [run_callFunc_extern Tryd.func55 (by kernel_rfl) (by kernel_rfl) (by kernel_rfl) (e := Extern.AbiNoEscape.same) (by kernel_rfl)]
  rw [Lib.run_noEscape]
  simp only [Result.andThen]
  rw [Oper.upon_value]
  go_wp2
  rw [Lib.run_from_unsafe w ⟨b, 0, none⟩ Tryd.underlying90 Tryd.underlying58 hj hsh (by kernel_rfl)]
  simp only [Result.andThen]
  rw [Oper.upon_value]
  go_wp2
  go_end0
  exact ⟨rfl, rfl⟩
theorem copyCheck_any (B b : Nat) (l : List UInt8) (w : World) (h : Bld B b l w) :
    Calls Tryd.prog 45 #[.pointer (some ⟨b, 0, none⟩)] w fun e w' => e = .returned (.tuple #[]) ∧ Lib.BuilderAt 60 5 B b (.pointer (some ⟨b, 0, none⟩)) (Lib.byteCells l) w' ∧ Below B w w' := by
  rcases h with h | h
  · refine (copyCheck_fresh b w h.cell0 h.shape h.frozen0).mono ?_
    rintro e w' ⟨rfl, rfl⟩
    exact ⟨rfl, h.used _, (Below.refl B w).setCell (p := ⟨b, 0, none⟩) h.1 _⟩
  · refine (copyCheck_used b w h.cell0).mono ?_
    rintro e w' ⟨rfl, rfl⟩
    exact ⟨rfl, h, Below.refl B _⟩
theorem one_cell {w : World} {x : Value} {t : TypeId} : ∀ j u, [x][j]? = some u → (w.alloc (.cells #[x] t)).cell? ((⟨w.heap.size, 0, none⟩ : Addr).add j) = some u := by
  intro j u h
  rw [add_plain, Nat.zero_add]
  have hw : (w.alloc (.cells #[x] t)).heap[w.heap.size]? = some (.cells #[x] t (0, 0)) := heap_alloc_new w _
  rw [cell_of_row _ _ _ _ _ _ hw]
  simpa using h
theorem one_one {k : IntKind} {a : Int} : ∀ u ∈ [Value.int k a], u.oneCell' = true := by
  intro u hu
  simp only [List.mem_cons, List.not_mem_nil, or_false] at hu
  rw [hu]; rfl
theorem row_below0 {a w w' : World} {B : Nat} {e : TypeId} {size n : Nat} {v : Value} {xs : List Value} (h : w.ownsRow B e size v n xs) (hb : Below B a w) (hB : B ≤ w.heap.size) (hg : w.grownBy w' v.ownBlock) : Below B a w' :=
  hb.grown hg hB (fun k hk => (h.lt k hk).1)
theorem byteInfo : (Tryd.prog.info? 5).map (fun i => (i.zero, i.size, i.bytes)) = some (some (.int .u8 0), 1, 1) := by kernel_rfl
theorem WriteRune_any (B b : Nat) (l : List UInt8) (r : UInt8) (hr : r.toNat < 128) (w : World) (h : Bld B b l w) (hlen : l.length ≤ 1048576) (hBw : B ≤ w.heap.size) :
    Calls Tryd.prog 43 #[.pointer (some ⟨b, 0, none⟩), .int .i32 (r.toNat : Int)] w fun e w' => (∃ k : Int, e = .returned (.tuple #[.int .i64 k, .nilIface])) ∧ Bld B b (l ++ [r]) w' ∧ Below B w w' := by
  obtain ⟨i0, hi, hz0, hz1, hz2⟩ := info_parts byteInfo
  go_enter Tryd.func43, Tryd.ntmps43
  go_wp2_with fail
  refine (copyCheck_any B b l w h).mono ?_; rintro e w1 ⟨rfl, h1, hb1⟩
  obtain ⟨hB, v, hbk, hown, hne⟩ := h1
  have c0 : w1.cell? ⟨b, 0, none⟩ = some (.pointer (some ⟨b, 0, none⟩)) := by rw [Lib.cell_of_heap hbk]; rfl
  have c1 : w1.cell? ⟨b, 1, none⟩ = some v := by rw [Lib.cell_of_heap hbk]; rfl
  have hv : ∃ A cap, v = .slice A l.length cap := by
    rcases hown.2 with ⟨rfl, h0⟩ | ⟨g, cap, _, rfl, _⟩
    · exact ⟨none, 0, by rw [Lib.byteCells_length] at h0; rw [h0]⟩
    · exact ⟨_, cap, by rw [Lib.byteCells_length]⟩
  obtain ⟨A, cap, rfl⟩ := hv
  rw [Lib.byteCells_length] at hown
  have hs1 := hb1.size
  go_wp2_with (first | (go_at_call 54; go_in) | (at_builtin; refine wpList_append_own _ rfl (.tmp 8) (.tmp 11) 51 rfl B 5 i0 (.int .u8 0) 1 1 Tryd.underlying51 hi hz0 hz1 hz2 rfl (by omega) (.slice A l.length cap) l.length (Lib.byteCells l) rfl (hown.alloc _) ⟨w1.heap.size, 0, none⟩ 1 1 [.int .u8 (r.toNat : Int)] rfl rfl one_cell one_one (by unfold maxLen; omega) (by omega) (by simp; omega) ?_))
  intro v' w2 hown' hgrow _
  have hlt : b < w1.heap.size := (Array.getElem?_eq_some_iff.1 hbk).1
  have hb2 : w2.heap[b]? = some (.cells #[.pointer (some ⟨b, 0, none⟩), .slice A l.length cap] 60 (0, 0)) := by
    rw [hgrow.block b (by simp; omega) (fun e => hne e.symm), Below.heap_alloc _ _ _ hlt]
    exact hbk
  have d0 : w2.cell? ⟨b, 0, none⟩ = some (.pointer (some ⟨b, 0, none⟩)) := by rw [Lib.cell_of_heap hb2]; rfl
  have d1 : w2.cell? ⟨b, 1, none⟩ = some (.slice A l.length cap) := by rw [Lib.cell_of_heap hb2]; rfl
  have f1 : w2.frozen? ⟨b, 1, none⟩ = false := Lib.frozen_of_heap hb2 1
  obtain ⟨g, cap', rfl⟩ : ∃ g cap', v' = .slice (some ⟨g, 0, none⟩) (l.length + 1) cap' := by
    rcases hown'.2 with ⟨_, h0⟩ | ⟨g, cap', cur, hv, _⟩
    · omega
    · exact ⟨g, cap', hv⟩
  have hBld : Bld B b (l ++ [r]) (w2.setCell ⟨b, 1, none⟩ (.slice (some ⟨g, 0, none⟩) (l.length + 1) cap')) := by
    have e1 : Lib.byteCells (l ++ [r]) = Lib.byteCells l ++ [.int .u8 (r.toNat : Int)] := by simp [Lib.byteCells]
    refine .inr ?_
    rw [e1]
    exact Lib.BuilderAt.put (T := 60) (e := 5) hB hb2 (by simpa [Lib.byteCells_length] using hown') (by decide)
  have hbel : Below B w (w2.setCell ⟨b, 1, none⟩ (.slice (some ⟨g, 0, none⟩) (l.length + 1) cap')) :=
    (row_below0 (hown.alloc _) (hb1.alloc (by omega) _) (by simp; omega) hgrow).setCell (p := ⟨b, 1, none⟩) hB _
  have HB := Lib.hid hBld
  have HL := Lib.hid hbel
  clear hBld hbel hown' hgrow hown hb1 hbk hb2 c0 c1 hne
  go_wp2
  go_returns
  exact ⟨⟨_, rfl⟩, HB.out, HL.out⟩
end Go.Proofs.YtpfjbecpfdgnpabDoor
namespace Go.Proofs.YtpfjbecpfdgnpabDoor
open Go.ChangeShapes Go.WideShapes Go.ChangeAt Go.RowKit Go.Joins Go.Deep
set_option linter.unusedSimpArgs false
set_option linter.unusedVariables false
set_option maxRecDepth 100000
set_option maxHeartbeats 400000
/-- A valid cell is one of ten. -/
theorem good_cases {P : Int → Int → Prop} (h00 : P 0 0) (h10 : P 1 0) (h20 : P 2 0) (h30 : P 3 0) (h31 : P 3 1) (h40 : P 4 0) (h50 : P 5 0) (h60 : P 6 0) (h61 : P 6 1) (h70 : P 7 0) (a b : Int) (h : good a b = true) : P a b := by
  unfold good at h
  simp only [decide_eq_true_eq] at h
  obtain ⟨h1, h2, h3⟩ := h
  have ha : a = 0 ∨ a = 1 ∨ a = 2 ∨ a = 3 ∨ a = 4 ∨ a = 5 ∨ a = 6 ∨ a = 7 := by omega
  rcases ha with rfl | rfl | rfl | rfl | rfl | rfl | rfl | rfl <;> rcases h3 with rfl | ⟨rfl, h3⟩ <;> first | assumption | (exfalso; omega)
def letB (a b : Int) : UInt8 := if b = 1 then (if a = 3 then 70 else 71) else if a = 0 then 46 else if a = 1 then 108 else if a = 2 then 114 else if a = 3 then 102 else if a = 4 then 120 else if a = 5 then 111 else if a = 6 then 103 else 99
theorem spec_paLetter (a b : Int) (h : good a b = true) : ∀ w : World,
    Calls Tryd.prog 37 #[.agg #[.int .i64 a, .int .i64 b]] w fun e w' => e = .returned (.string ⟨#[letB a b]⟩) ∧ Below w.heap.size w w' := by
  refine good_cases (P := fun a b => ∀ w : World, Calls Tryd.prog 37 #[.agg #[.int .i64 a, .int .i64 b]] w fun e w' => e = .returned (.string ⟨#[letB a b]⟩) ∧ Below w.heap.size w w') ?_ ?_ ?_ ?_ ?_ ?_ ?_ ?_ ?_ ?_ a b h
  all_goals intro w
  all_goals go_enter Tryd.func37, Tryd.ntmps37
  all_goals go_wp2
  all_goals go_returns
  all_goals exact ⟨ret_eq (by first | rfl | decide), by (repeat' (first | (with_reducible exact Below.refl _ _) | (with_reducible assumption) | (with_reducible refine Below.alloc ?_ ?_ _) | (with_reducible refine Below.setCell ?_ ?_ _) | (with_reducible refine Below.drew ?_) | (with_reducible refine below_drewN ?_ _) | (with_reducible refine Below.trans ?_ (Below.mono (by assumption) ?_)) | (with_reducible exact Nat.le_refl _) | (simp; done) | omega | (simp at *; omega)))⟩
theorem impl_letterOf (a b : Int) (h : good a b = true) : ∀ w : World,
    Calls Tryd.prog 44 #[.agg #[.int .i64 a, .int .i64 b]] w fun e w' => e = .returned (.int .i32 (letB a b).toNat) ∧ Below w.heap.size w w' := by
  refine good_cases (P := fun a b => ∀ w : World, Calls Tryd.prog 44 #[.agg #[.int .i64 a, .int .i64 b]] w fun e w' => e = .returned (.int .i32 (letB a b).toNat) ∧ Below w.heap.size w w') ?_ ?_ ?_ ?_ ?_ ?_ ?_ ?_ ?_ ?_ a b h
  all_goals intro w
  all_goals go_enter Tryd.func44, Tryd.ntmps44
  all_goals go_wp2
  all_goals go_returns
  all_goals exact ⟨ret_eq (congrArg (Value.int .i32) (by decide +kernel)), by (repeat' (first | (with_reducible exact Below.refl _ _) | (with_reducible assumption) | (with_reducible refine Below.alloc ?_ ?_ _) | (with_reducible refine Below.setCell ?_ ?_ _) | (with_reducible refine Below.drew ?_) | (with_reducible refine below_drewN ?_ _) | (with_reducible refine Below.trans ?_ (Below.mono (by assumption) ?_)) | (with_reducible exact Nat.le_refl _) | (simp; done) | omega | (simp at *; omega)))⟩
def selS (ok : Bool) (s : ByteArray) : ByteArray := if ok then s else ⟨#[]⟩
theorem ret_strb {a c : ByteArray} {x y : Bool} (h : x = y) (h1 : y = true → a = c) (h3 : y = false → a = ⟨#[]⟩) :
    Ending.returned (.tuple #[.string a, .bool x]) = .returned (.tuple #[.string (selS y c), .bool y]) := by
  subst h
  cases x
  · rw [h3 rfl]; rfl
  · rw [h1 rfl]; rfl
theorem enc_letB (a b : Int) (h : good a b = true) : Utf8.encode (letB a b).toNat = ⟨#[letB a b]⟩ :=
  good_cases (P := fun a b => Utf8.encode (letB a b).toNat = ⟨#[letB a b]⟩) (by decide +kernel) (by decide +kernel) (by decide +kernel) (by decide +kernel) (by decide +kernel) (by decide +kernel) (by decide +kernel) (by decide +kernel) (by decide +kernel) (by decide +kernel) a b h
end Go.Proofs.YtpfjbecpfdgnpabDoor
namespace Go.Proofs.YtpfjbecpfdgnpabDoor
open Go.ChangeShapes Go.WideShapes Go.ChangeAt Go.RowKit Go.Joins Go.Deep
set_option linter.unusedSimpArgs false
set_option linter.unusedVariables false
set_option maxRecDepth 100000
set_option maxHeartbeats 400000
def textOf (l : List (Int × Int)) : List UInt8 := l.map fun c => letB c.1 c.2
def textOr (l : List (Int × Int)) : List UInt8 := if goodL l then textOf l else []
theorem textOf_step {l : List (Int × Int)} {k : Nat} (h : k < l.length) : textOf (l.take (k + 1)) = textOf (l.take k) ++ [letB l[k].1 l[k].2] := by
  rw [List.take_succ_eq_append_getElem h, textOf, List.map_append]; rfl
theorem textOf_len {l : List (Int × Int)} {k : Nat} (h : k ≤ l.length) : (textOf (l.take k)).length = k := by
  rw [textOf, List.length_map, List.length_take]; omega
theorem good_of {l : List (Int × Int)} (hg : goodL l = true) {k : Nat} (h : k < l.length) : good l[k].1 l[k].2 = true := by
  unfold goodL at hg
  rw [Bool.and_eq_true, List.all_eq_true] at hg
  exact hg.2 _ (List.getElem_mem h)
theorem bytes_snoc (l : List UInt8) (b : UInt8) : (⟨l.toArray⟩ : ByteArray) ++ (⟨#[b]⟩ : ByteArray) = ⟨(l ++ [b]).toArray⟩ := by
  apply ByteArray.ext
  simp
theorem spec_paText (A : Option Addr) (cap : Nat) (l : List (Int × Int)) (w : World) (hg : goodL l = true) (hr : Rd w w.heap.size A (flat l)) :
    Calls Tryd.prog 22 #[.slice A l.length cap] w fun e w' => e = .returned (.string ⟨(textOf l).toArray⟩) ∧ Below w.heap.size w w' := by
  have h90 : l.length ≤ 90 := by unfold goodL at hg; simp at hg; exact hg.1
  have HG := Lib.hid hg
  clear hg
  go_enter Tryd.func22, Tryd.ntmps22
  go_wp2

  go_loopw [3, 8] (fun t i wr => ∃ k : Nat, k ≤ l.length ∧ i = .int .i64 k ∧ t = .string ⟨(textOf (l.take k)).toArray⟩ ∧ Below w.heap.size w wr) (fun _ i _ => l.length - (intOf i).toNat)
  case atStart => exact ⟨0, Nat.zero_le _, rfl, rfl, by (repeat' (first | (with_reducible exact Below.refl _ _) | (with_reducible assumption) | (with_reducible refine Below.alloc ?_ ?_ _) | (with_reducible refine Below.setCell ?_ ?_ _) | (with_reducible refine Below.drew ?_) | (with_reducible refine below_drewN ?_ _) | (with_reducible refine Below.trans ?_ (Below.mono (by assumption) ?_)) | (with_reducible exact Nat.le_refl _) | (simp; done) | omega | (simp at *; omega)))⟩
  case round =>
    obtain ⟨k, hk, rfl, rfl, hb⟩ := hrel
    by_cases hlt : k < l.length
    · obtain ⟨b, o, rfl, hbl, hc⟩ := hr (by rw [flat_length]; omega)
      have hc0 : wr.cell? ⟨b, o + k * 2, none⟩ = some (.int .i64 l[k].1) := (hb.cell (p := ⟨b, _, none⟩) hbl).trans (hc _ _ (flat_at l k hlt).1)
      have hc1 : wr.cell? ⟨b, o + k * 2 + 1, none⟩ = some (.int .i64 l[k].2) := (hb.cell (p := ⟨b, _, none⟩) hbl).trans (hc _ _ (flat_at l k hlt).2)
      have hgk := good_of HG.out hlt
      have HT := Lib.hid (textOf_step hlt)
      have hs := hb.size
      have hlen := textOf_len hk
      clear hr hc
      generalize l[k].1 = x at *
      generalize l[k].2 = y at *
      go_wp2_with fail
      refine (spec_paLetter _ _ hgk _).mono ?_; rintro e w1 ⟨rfl, b1⟩
      clear hc0 hc1
      generalize textOf (l.take k) = tx at *
      go_wp2
      go_roundw
      case rel => exact ⟨k + 1, by omega, by go_num, by rw [HT.out, bytes_snoc], (hb.trans ((Below.refl _ _).alloc hs _)).trans (b1.mono (by simp; omega))⟩
      case measure => simp [intOf]; omega
    · obtain rfl : k = l.length := by omega
      have ht : l.take l.length = l := List.take_length
      rw [ht]
      clear ht
      go_wp2
      go_returns
      exact ⟨rfl, hb⟩
theorem ret_strl {a c : List UInt8} {x y : Bool} (h : x = y) (h1 : a = c) : Ending.returned (.tuple #[.string ⟨a.toArray⟩, .bool x]) = .returned (.tuple #[.string ⟨c.toArray⟩, .bool y]) := by rw [h, h1]
theorem let_low (a b : Int) (h : good a b = true) : (letB a b).toNat < 128 :=
  good_cases (P := fun a b => (letB a b).toNat < 128) (by decide +kernel) (by decide +kernel) (by decide +kernel) (by decide +kernel) (by decide +kernel) (by decide +kernel) (by decide +kernel) (by decide +kernel) (by decide +kernel) (by decide +kernel) a b h
theorem impl_CellsText (A : Option Addr) (cap : Nat) (l : List (Int × Int)) (w : World) (hn : l.length ≤ 1048576) (hr : Rd w w.heap.size A (flat l)) :
    Calls Tryd.prog 29 #[.slice A l.length cap] w fun e w' => e = .returned (.tuple #[.string ⟨(textOr l).toArray⟩, .bool (goodL l)]) ∧ Below w.heap.size w w' := by
  rcases Bool.eq_false_or_eq_true (goodL l) with hg | hg
  · have HG := Lib.hid hg
    have h90 : l.length ≤ 90 := by unfold goodL at hg; simp at hg; exact hg.1
    go_enter Tryd.func29, Tryd.ntmps29
    go_wp2_with fail
    refine (impl_areCells _ _ _ _ hn hr).mono ?_; rintro e w1 ⟨rfl, b1⟩
    rw [hg]
    clear hg
    have hr1 := hr.below b1
    have hs1 := b1.size
    clear hr
    go_wp2
    go_loopw [12] (fun i wr => ∃ k : Nat, k ≤ l.length ∧ i = .int .i64 k ∧ Bld w1.heap.size w1.heap.size (textOf (l.take k)) wr ∧ Below w1.heap.size w1 wr ∧ w1.heap.size < wr.heap.size) (fun i _ => l.length - (intOf i).toNat)
    case atStart =>
      refine ⟨0, Nat.zero_le _, rfl, ?_, by (repeat' (first | (with_reducible exact Below.refl _ _) | (with_reducible assumption) | (with_reducible refine Below.alloc ?_ ?_ _) | (with_reducible refine Below.setCell ?_ ?_ _) | (with_reducible refine Below.drew ?_) | (with_reducible refine below_drewN ?_ _) | (with_reducible refine Below.trans ?_ (Below.mono (by assumption) ?_)) | (with_reducible exact Nat.le_refl _) | (simp; done) | omega | (simp at *; omega))), by simp⟩
      exact .inl ⟨Nat.le_refl _, .slice none 0 0, heap_alloc_new w1 _, World.ownsRow_nil _ _ _ _, by simp [Value.ownBlock]⟩
    case round =>
      obtain ⟨k, hk, rfl, hbd, hb, hz⟩ := hrel
      by_cases hlt : k < l.length
      · obtain ⟨b, o, rfl, hbl, hc⟩ := hr1 (by rw [flat_length]; omega)
        have hbl1 : b < w1.heap.size := Nat.lt_of_lt_of_le hbl hs1
        have hc0 : wr.cell? ⟨b, o + k * 2, none⟩ = some (.int .i64 l[k].1) := (hb.cell (p := ⟨b, _, none⟩) hbl1).trans (hc _ _ (flat_at l k hlt).1)
        have hc1 : wr.cell? ⟨b, o + k * 2 + 1, none⟩ = some (.int .i64 l[k].2) := (hb.cell (p := ⟨b, _, none⟩) hbl1).trans (hc _ _ (flat_at l k hlt).2)
        have hgk := good_of HG.out hlt
        have HT := Lib.hid (textOf_step hlt)
        have hlen := textOf_len hk
        clear hr1 hc
        generalize l[k].1 = x at *
        generalize l[k].2 = y at *
        go_wp2_with fail
        refine (impl_letterOf _ _ hgk _).mono ?_; rintro e w2 ⟨rfl, b2⟩
        have hbd2 : Bld w1.heap.size w1.heap.size (textOf (l.take k)) w2 := (bld_alloc hbd _).keep b2
        have hz2 : w1.heap.size < w2.heap.size := by have := b2.size; simp at this; omega
        have hb2 : Below w1.heap.size w1 w2 := (hb.alloc (by omega) _).trans (b2.mono (by simp; omega))
        clear hc0 hc1 b2 hbd hb
        generalize textOf (l.take k) = tx at *
        go_wp2_with fail
        refine (WriteRune_any _ _ _ _ (let_low _ _ hgk) _ hbd2 (by omega) (by omega)).mono ?_; rintro e w3 ⟨⟨n, rfl⟩, hbd3, b3⟩
        have hb3 := hb2.trans b3
        have hz3 := Nat.lt_of_lt_of_le hz2 b3.size
        clear b3 hbd2 hb2
        go_wp2
        go_roundw
        case rel => exact ⟨k + 1, by omega, by go_num, by rw [HT.out]; exact hbd3, hb3, hz3⟩
        case measure => simp [intOf]; omega
      · obtain rfl : k = l.length := by omega
        have ht : l.take l.length = l := List.take_length
        rw [ht] at hbd
        clear ht
        go_wp2_with fail
        refine (String_any _ _ _ _ hbd (by omega)).mono ?_; rintro e w2 ⟨rfl, b2⟩
        go_wp2
        go_returns
        exact ⟨ret_strl HG.out.symm (by simp [textOr, HG.out]), b1.trans ((hb.trans b2).mono hs1)⟩
  · have HG := Lib.hid hg
    go_enter Tryd.func29, Tryd.ntmps29
    go_wp2_with fail
    refine (impl_areCells _ _ _ _ hn hr).mono ?_; rintro e w1 ⟨rfl, b1⟩
    rw [hg]
    clear hg
    go_wp2
    go_returns
    exact ⟨ret_strl (a := []) HG.out.symm (by simp [textOr, HG.out]), b1⟩
end Go.Proofs.YtpfjbecpfdgnpabDoor
namespace Go.Proofs.YtpfjbecpfdgnpabDoor
open Go.ChangeShapes Go.WideShapes Go.ChangeAt Go.RowKit Go.Joins Go.Deep
set_option linter.unusedSimpArgs false
set_option linter.unusedVariables false
set_option maxRecDepth 100000
open Go.Shelf
set_option maxHeartbeats 1000000
def Wrote (B b : Nat) (l : List UInt8) (w : World) (e : Ending) (w' : World) : Prop := (∃ v, e = .returned v) ∧ Bld B b l w' ∧ Below B w w'
theorem strCells_bytes (s : ByteArray) : Lib.strCells s = Lib.byteCells s.data.toList := by simp [Lib.strCells, Lib.byteCells]
theorem slice_of_row0 {w : World} {base : Nat} {e : TypeId} {size n : Nat} {v : Value} {xs : List Value} (h : w.ownsRow base e size v n xs) : ∃ A cap, v = .slice A n cap := by
  rcases h.2 with ⟨rfl, h0⟩ | ⟨g, cap, _, rfl, _⟩
  · exact ⟨none, 0, by rw [h0]⟩
  · exact ⟨_, _, rfl⟩
theorem WriteString_any (B b : Nat) (l : List UInt8) (s : ByteArray) (w : World) (h : Bld B b l w) (hlen : l.length ≤ 1048576) (hs : s.size ≤ 1048576) (hBw : B ≤ w.heap.size) :
    Calls Tryd.prog 31 #[.pointer (some ⟨b, 0, none⟩), .string s] w fun e w' => e = .returned (.tuple #[.int .i64 s.size, .nilIface]) ∧ Bld B b (l ++ s.data.toList) w' ∧ Below B w w' := by
  obtain ⟨i0, hi, hz0, hz1, hz2⟩ := info_parts byteInfo
  go_enter Tryd.func31, Tryd.ntmps31
  go_wp2_with fail
  refine (copyCheck_any B b l w h).mono ?_; rintro e w1 ⟨rfl, h1, hb1⟩
  obtain ⟨hB, v, hbk, hown, hne⟩ := h1
  have c0 : w1.cell? ⟨b, 0, none⟩ = some (.pointer (some ⟨b, 0, none⟩)) := by rw [Lib.cell_of_heap hbk]; rfl
  have c1 : w1.cell? ⟨b, 1, none⟩ = some v := by rw [Lib.cell_of_heap hbk]; rfl
  have hv : ∃ A cap, v = .slice A l.length cap := by
    rcases hown.2 with ⟨rfl, h0⟩ | ⟨g, cap, _, rfl, _⟩
    · exact ⟨none, 0, by rw [Lib.byteCells_length] at h0; rw [h0]⟩
    · exact ⟨_, cap, by rw [Lib.byteCells_length]⟩
  obtain ⟨A, cap, rfl⟩ := hv
  rw [Lib.byteCells_length] at hown
  have hs1 := hb1.size
  go_wp2_with (first | (at_builtin; refine Lib.wpList_append_own_string _ rfl (.tmp 12) (.tmp 13) 51 9 rfl B 5 i0 Tryd.underlying51 Tryd.underlying9 hi hz0 hz1 hz2 (.slice A l.length cap) l.length (Lib.byteCells l) rfl hown s rfl (by unfold maxLen; omega) (by omega) (by omega) ?_) | fail)
  intro v' w2 hown' hgrow _
  have hlt : b < w1.heap.size := (Array.getElem?_eq_some_iff.1 hbk).1
  have hb2 : w2.heap[b]? = some (.cells #[.pointer (some ⟨b, 0, none⟩), .slice A l.length cap] 60 (0, 0)) := by
    rw [hgrow.block b hlt (fun e => hne e.symm)]
    exact hbk
  have d0 : w2.cell? ⟨b, 0, none⟩ = some (.pointer (some ⟨b, 0, none⟩)) := by rw [Lib.cell_of_heap hb2]; rfl
  have d1 : w2.cell? ⟨b, 1, none⟩ = some (.slice A l.length cap) := by rw [Lib.cell_of_heap hb2]; rfl
  have f1 : w2.frozen? ⟨b, 1, none⟩ = false := Lib.frozen_of_heap hb2 1
  obtain ⟨A2, cap2, rfl⟩ := slice_of_row0 hown'
  have hBld : Bld B b (l ++ s.data.toList) (w2.setCell ⟨b, 1, none⟩ (.slice A2 (l.length + s.size) cap2)) := by
    have e1 : Lib.byteCells (l ++ s.data.toList) = Lib.byteCells l ++ Lib.strCells s := by simp [Lib.byteCells, Lib.strCells]
    refine .inr ?_
    rw [e1]
    exact Lib.BuilderAt.put (T := 60) (e := 5) hB hb2 (by simpa [Lib.byteCells_length, Lib.strCells_length] using hown') (by decide)
  have hbel : Below B w (w2.setCell ⟨b, 1, none⟩ (.slice A2 (l.length + s.size) cap2)) := (row_below0 hown hb1 (by omega) hgrow).setCell (p := ⟨b, 1, none⟩) hB _
  have HB := Lib.hid hBld
  have HL := Lib.hid hbel
  clear hBld hbel hown' hgrow hown hb1 hbk hb2 c0 c1 hne
  go_wp2
  go_returns
  exact ⟨rfl, HB.out, HL.out⟩
theorem WriteByte_any (B b : Nat) (l : List UInt8) (r : UInt8) (w : World) (h : Bld B b l w) (hlen : l.length ≤ 1048576) (hBw : B ≤ w.heap.size) :
    Calls Tryd.prog 32 #[.pointer (some ⟨b, 0, none⟩), .int .u8 (r.toNat : Int)] w fun e w' => e = .returned .nilIface ∧ Bld B b (l ++ [r]) w' ∧ Below B w w' := by
  obtain ⟨i0, hi, hz0, hz1, hz2⟩ := info_parts byteInfo
  go_enter Tryd.func32, Tryd.ntmps32
  go_wp2_with fail
  refine (copyCheck_any B b l w h).mono ?_; rintro e w1 ⟨rfl, h1, hb1⟩
  obtain ⟨hB, v, hbk, hown, hne⟩ := h1
  have c0 : w1.cell? ⟨b, 0, none⟩ = some (.pointer (some ⟨b, 0, none⟩)) := by rw [Lib.cell_of_heap hbk]; rfl
  have c1 : w1.cell? ⟨b, 1, none⟩ = some v := by rw [Lib.cell_of_heap hbk]; rfl
  have hv : ∃ A cap, v = .slice A l.length cap := by
    rcases hown.2 with ⟨rfl, h0⟩ | ⟨g, cap, _, rfl, _⟩
    · exact ⟨none, 0, by rw [Lib.byteCells_length] at h0; rw [h0]⟩
    · exact ⟨_, cap, by rw [Lib.byteCells_length]⟩
  obtain ⟨A, cap, rfl⟩ := hv
  rw [Lib.byteCells_length] at hown
  have hs1 := hb1.size
  go_wp2_with (first | (at_builtin; refine wpList_append_own _ rfl (.tmp 11) (.tmp 13) 51 rfl B 5 i0 (.int .u8 0) 1 1 Tryd.underlying51 hi hz0 hz1 hz2 rfl (by omega) (.slice A l.length cap) l.length (Lib.byteCells l) rfl (hown.alloc _) ⟨w1.heap.size, 0, none⟩ 1 1 [.int .u8 (r.toNat : Int)] rfl rfl one_cell one_one (by unfold maxLen; omega) (by omega) (by simp; omega) ?_) | fail)
  intro v' w2 hown' hgrow _
  have hlt : b < w1.heap.size := (Array.getElem?_eq_some_iff.1 hbk).1
  have hb2 : w2.heap[b]? = some (.cells #[.pointer (some ⟨b, 0, none⟩), .slice A l.length cap] 60 (0, 0)) := by
    rw [hgrow.block b (by simp; omega) (fun e => hne e.symm), Below.heap_alloc _ _ _ hlt]
    exact hbk
  have d0 : w2.cell? ⟨b, 0, none⟩ = some (.pointer (some ⟨b, 0, none⟩)) := by rw [Lib.cell_of_heap hb2]; rfl
  have d1 : w2.cell? ⟨b, 1, none⟩ = some (.slice A l.length cap) := by rw [Lib.cell_of_heap hb2]; rfl
  have f1 : w2.frozen? ⟨b, 1, none⟩ = false := Lib.frozen_of_heap hb2 1
  obtain ⟨A2, cap2, rfl⟩ := slice_of_row0 hown'
  have hBld : Bld B b (l ++ [r]) (w2.setCell ⟨b, 1, none⟩ (.slice A2 (l.length + 1) cap2)) := by
    have e1 : Lib.byteCells (l ++ [r]) = Lib.byteCells l ++ [.int .u8 (r.toNat : Int)] := by simp [Lib.byteCells, Lib.strCells]
    refine .inr ?_
    rw [e1]
    exact Lib.BuilderAt.put (T := 60) (e := 5) hB hb2 (by simpa [Lib.byteCells_length, Lib.strCells_length] using hown') (by decide)
  have hbel : Below B w (w2.setCell ⟨b, 1, none⟩ (.slice A2 (l.length + 1) cap2)) := (row_below0 (hown.alloc _) (hb1.alloc (by omega) _) (by simp; omega) hgrow).setCell (p := ⟨b, 1, none⟩) hB _
  have HB := Lib.hid hBld
  have HL := Lib.hid hbel
  clear hBld hbel hown' hgrow hown hb1 hbk hb2 c0 c1 hne
  go_wp2
  go_returns
  exact ⟨rfl, HB.out, HL.out⟩
end Go.Proofs.YtpfjbecpfdgnpabDoor
namespace Go.Proofs.YtpfjbecpfdgnpabDoor
open Go.ChangeShapes Go.WideShapes Go.ChangeAt Go.RowKit Go.Joins Go.Deep
set_option linter.unusedSimpArgs false
set_option linter.unusedVariables false
set_option maxRecDepth 100000
set_option maxHeartbeats 1000000
def cutIn (R f t : Int) : Bool := decide (0 ≤ f ∧ f < t ∧ t ≤ R)
def okCut (R C : Int) (l : List (Int × Int)) (f t : Int) : Bool := goodB R C l && cutIn R f t
def piece (l : List (Int × Int)) (p q : Nat) : List (Int × Int) := (l.drop p).take (q - p)
def cutL (R C : Int) (l : List (Int × Int)) (f t : Int) : List (Int × Int) := if okCut R C l f t then piece l (f * C).toNat (t * C).toNat else []
theorem piece_len {l : List (Int × Int)} {p q : Nat} (hq : q ≤ l.length) : (piece l p q).length = q - p := by
  unfold piece
  rw [List.length_take, List.length_drop]
  omega
theorem cutL_len (R C : Int) (l : List (Int × Int)) (f t : Int) (h : l.length ≤ 1048576) : (cutL R C l f t).length ≤ 1048576 := by
  unfold cutL piece
  split
  · rw [List.length_take, List.length_drop]; omega
  · simp
theorem flat_drop (l : List (Int × Int)) (p : Nat) : flat (l.drop p) = (flat l).drop (p * 2) := by
  induction p generalizing l with
  | zero => rfl
  | succ p ih =>
    cases l with
    | nil => simp [flat]
    | cons c l =>
      rw [List.drop_succ_cons, ih, show (p + 1) * 2 = p * 2 + 1 + 1 by omega]
      rfl
theorem piece_rd {w : World} {B b o : Nat} {l : List (Int × Int)} {p q : Nat} (hr : Rd w B (some ⟨b, o, none⟩) (flat l)) (hq : q ≤ l.length) (hpq : p < q) : Rd w B (some ⟨b, o + p * 2, none⟩) (flat (piece l p q)) := by
  intro _
  obtain ⟨b', o', e, hlt, hc⟩ := hr (by rw [flat_length]; omega)
  cases e
  refine ⟨b, o + p * 2, rfl, hlt, fun j u hj => ?_⟩
  have hl := flat_length (piece l p q)
  rw [piece_len hq] at hl
  have hj' := (List.getElem?_eq_some_iff.1 hj).1
  rw [Nat.add_assoc]
  refine hc (p * 2 + j) u ?_
  rw [← List.getElem?_drop, ← flat_drop, ← hj]
  have e1 : l.drop p = piece l p q ++ (l.drop p).drop (q - p) := (List.take_append_drop (q - p) (l.drop p)).symm
  rw [e1, flat_append, List.getElem?_append_left hj']
theorem cut_bound {R C : Int} {l : List (Int × Int)} {f t : Int} (hg : goodB R C l = true) (hc : cutIn R f t = true) :
    (f * C).toNat < (t * C).toNat ∧ (t * C).toNat ≤ l.length ∧ l.length ≤ 90 ∧ IntKind.i64.wrap (f * C) = ((f * C).toNat : Int) ∧ IntKind.i64.wrap (t * C) = ((t * C).toNat : Int) := by
  obtain ⟨hs, hl, _⟩ := goodB_iff.1 hg
  unfold cutIn at hc
  rw [decide_eq_true_eq] at hc
  have hm := mul_bound hs
  obtain ⟨s1, s2, s3, s4⟩ := sizeB_iff.1 hs
  have h1 : f * C < t * C := Int.mul_lt_mul_of_pos_right (by omega) (by omega)
  have h2 : t * C ≤ R * C := Int.mul_le_mul_of_nonneg_right (by omega) (by omega)
  have h3 : 0 ≤ f * C := Int.mul_nonneg (by omega) (by omega)
  refine ⟨by omega, by omega, by omega, ?_, ?_⟩
  · rw [IntWalk.i64_in (f * C) (by omega)]; omega
  · rw [IntWalk.i64_in (t * C) (by omega)]; omega
theorem cutB_post {w w' : World} {R C : Int} {l : List (Int × Int)} {f t : Int} {e : Ending} {ok : Bool} (h : okCut R C l f t = ok) (hp : if ok then PostB w (t - f) C (piece l (f * C).toNat (t * C).toNat) true e w' else PostB w 0 0 [] false e w') :
    PostB w (selI (okCut R C l f t) (t - f)) (selI (okCut R C l f t) C) (cutL R C l f t) (okCut R C l f t) e w' := by
  unfold cutL
  rw [h]
  cases ok
  · exact hp
  · exact hp
end Go.Proofs.YtpfjbecpfdgnpabDoor
namespace Go.Proofs.YtpfjbecpfdgnpabDoor
open Go.ChangeShapes Go.WideShapes Go.ChangeAt Go.RowKit Go.Joins Go.Deep
set_option linter.unusedSimpArgs false
set_option linter.unusedVariables false
set_option maxRecDepth 100000
set_option maxHeartbeats 1000000
def rowL (C : Int) (l : List (Int × Int)) (k : Nat) : List (Int × Int) := piece l (k * C.toNat) ((k + 1) * C.toNat)
theorem row_facts {R C : Int} {l : List (Int × Int)} {k : Nat} (hg : goodB R C l = true) (hk : (k : Int) < R) :
    (k + 1) * C.toNat ≤ l.length ∧ k * C.toNat < (k + 1) * C.toNat ∧ l.length ≤ 90 ∧ k ≤ 9 ∧ C.toNat ≤ 9 ∧ 0 < C.toNat ∧
      IntKind.i64.wrap ((k : Int) * C) = ((k * C.toNat : Nat) : Int) ∧ IntKind.i64.wrap (((k : Int) + 1) * C) = (((k + 1) * C.toNat : Nat) : Int) ∧ (k + 1) * C.toNat - k * C.toNat = C.toNat := by
  obtain ⟨hs, hl, _⟩ := goodB_iff.1 hg
  have hm := mul_bound hs
  obtain ⟨s1, s2, s3, s4⟩ := sizeB_iff.1 hs
  obtain ⟨n, rfl⟩ : ∃ n : Nat, C = (n : Int) := ⟨C.toNat, by omega⟩
  obtain ⟨r, rfl⟩ : ∃ r : Nat, R = (r : Int) := ⟨R.toNat, by omega⟩
  simp only [Int.toNat_natCast]
  have hrn : l.length = r * n := by exact_mod_cast hl
  have hk' : k + 1 ≤ r := by omega
  have h1 : (k + 1) * n ≤ r * n := Nat.mul_le_mul_right n hk'
  have h2 : (k + 1) * n = k * n + n := Nat.succ_mul k n
  have h3 : r * n ≤ 90 := by omega
  have e1 : (k : Int) * (n : Int) = ((k * n : Nat) : Int) := by push_cast; rfl
  have e2 : ((k : Int) + 1) * (n : Int) = (((k + 1) * n : Nat) : Int) := by push_cast; rfl
  refine ⟨by omega, by omega, by omega, by omega, by omega, by omega, ?_, ?_, by omega⟩
  · rw [e1]; exact IntWalk.i64_in _ (by omega)
  · rw [e2]; exact IntWalk.i64_in _ (by omega)
theorem rowL_len {R C : Int} {l : List (Int × Int)} {k : Nat} (hg : goodB R C l = true) (hk : (k : Int) < R) : (rowL C l k).length = C.toNat := by
  have h := row_facts hg hk
  unfold rowL
  rw [piece_len h.1]
  exact h.2.2.2.2.2.2.2.2
theorem rowL_good {R C : Int} {l : List (Int × Int)} {k : Nat} (hg : goodB R C l = true) (hk : (k : Int) < R) : goodL (rowL C l k) = true := by
  have h := row_facts hg hk
  have hlen := rowL_len hg hk
  unfold goodL
  rw [hlen, decide_eq_true (by omega), Bool.true_and, List.all_eq_true]
  intro c hc
  refine (goodB_iff.1 hg).2.2 c ?_
  unfold rowL piece at hc
  exact List.mem_of_mem_drop (List.mem_of_mem_take hc)
theorem rowL_rd {w : World} {B b o : Nat} {R C : Int} {l : List (Int × Int)} {k : Nat} (hg : goodB R C l = true) (hk : (k : Int) < R) (hr : Rd w B (some ⟨b, o, none⟩) (flat l)) : Rd w B (some ⟨b, o + (k * C.toNat) * 2, none⟩) (flat (rowL C l k)) :=
  piece_rd hr (row_facts hg hk).1 (row_facts hg hk).2.1
theorem spec_boRow (R C : Int) (b o cap : Nat) (l : List (Int × Int)) (k : Nat) (w : World) (hg : goodB R C l = true) (hk : (k : Int) < R) (hcap : l.length ≤ cap) :
    Calls Tryd.prog 23 #[.agg #[.int .i64 R, .int .i64 C, .slice (some ⟨b, o, none⟩) l.length cap], .int .i64 (k : Int)] w fun e w' => e = .returned (.slice (some ⟨b, o + (k * C.toNat) * 2, none⟩) (rowL C l k).length (cap - k * C.toNat)) ∧ Below w.heap.size w w' := by
  obtain ⟨f1, f2, f3, f4, f5, f6, m1, m2, f7⟩ := row_facts hg hk
  rw [rowL_len hg hk]
  have H7 := Lib.hid f7
  clear hg f7
  generalize k * C.toNat = p at *
  generalize (k + 1) * C.toNat = q at *
  have hne : ¬ cap = p := by omega
  have hpc : p ≤ q := by omega
  have hqc : q ≤ cap := by omega
  go_enter Tryd.func23, Tryd.ntmps23
  go_wp2
  go_returns
  exact ⟨ret_eq (by rw [← H7.out]; rfl), by (repeat' (first | (with_reducible exact Below.refl _ _) | (with_reducible assumption) | (with_reducible refine Below.alloc ?_ ?_ _) | (with_reducible refine Below.setCell ?_ ?_ _) | (with_reducible refine Below.drew ?_) | (with_reducible refine below_drewN ?_ _) | (with_reducible refine Below.trans ?_ (Below.mono (by assumption) ?_)) | (with_reducible exact Nat.le_refl _) | (simp; done) | omega | (simp at *; omega)))⟩
theorem impl_rowCells (R C : Int) (b o cap : Nat) (l : List (Int × Int)) (k : Nat) (w : World) (hg : goodB R C l = true) (hk : (k : Int) < R) (hcap : l.length ≤ cap) :
    Calls Tryd.prog 30 #[.agg #[.int .i64 R, .int .i64 C, .slice (some ⟨b, o, none⟩) l.length cap], .int .i64 (k : Int)] w fun e w' => e = .returned (.slice (some ⟨b, o + (k * C.toNat) * 2, none⟩) (rowL C l k).length (cap - k * C.toNat)) ∧ Below w.heap.size w w' := by
  obtain ⟨f1, f2, f3, f4, f5, f6, m1, m2, f7⟩ := row_facts hg hk
  rw [rowL_len hg hk]
  have H7 := Lib.hid f7
  clear hg f7
  generalize k * C.toNat = p at *
  generalize (k + 1) * C.toNat = q at *
  have hne : ¬ cap = p := by omega
  have hpc : p ≤ q := by omega
  have hqc : q ≤ cap := by omega
  go_enter Tryd.func30, Tryd.ntmps30
  go_wp2
  go_returns
  exact ⟨ret_eq (by rw [← H7.out]; rfl), by (repeat' (first | (with_reducible exact Below.refl _ _) | (with_reducible assumption) | (with_reducible refine Below.alloc ?_ ?_ _) | (with_reducible refine Below.setCell ?_ ?_ _) | (with_reducible refine Below.drew ?_) | (with_reducible refine below_drewN ?_ _) | (with_reducible refine Below.trans ?_ (Below.mono (by assumption) ?_)) | (with_reducible exact Nat.le_refl _) | (simp; done) | omega | (simp at *; omega)))⟩
end Go.Proofs.YtpfjbecpfdgnpabDoor
namespace Go.Proofs.YtpfjbecpfdgnpabDoor
open Go.ChangeShapes Go.WideShapes Go.ChangeAt Go.RowKit Go.Joins Go.Deep
set_option linter.unusedSimpArgs false
set_option linter.unusedVariables false
set_option maxRecDepth 100000
set_option maxHeartbeats 1000000
def rowsText (C : Int) (l : List (Int × Int)) (k : Nat) : List UInt8 := (List.range k).flatMap fun i => textOf (rowL C l i) ++ [10]
def boardText (R C : Int) (l : List (Int × Int)) : List UInt8 := if goodB R C l then rowsText C l R.toNat else []
theorem rowsText_succ (C : Int) (l : List (Int × Int)) (k : Nat) : rowsText C l (k + 1) = rowsText C l k ++ (textOf (rowL C l k) ++ [10]) := by
  unfold rowsText
  rw [List.range_succ, List.flatMap_append]
  simp
theorem rowsText_le {R C : Int} {l : List (Int × Int)} (hg : goodB R C l = true) {k : Nat} (hk : (k : Int) ≤ R) : (rowsText C l k).length ≤ 10 * k := by
  induction k with
  | zero => exact Nat.le_refl 0
  | succ k ih =>
    have hk' : (k : Int) < R := by omega
    have h1 := ih (by omega)
    have h2 := rowL_len hg hk'
    have h3 := row_facts hg hk'
    rw [rowsText_succ, List.length_append, List.length_append]
    have h4 : (textOf (rowL C l k)).length = (rowL C l k).length := by simp [textOf]
    rw [h4, h2]
    simp only [List.length_singleton]
    omega
theorem bytes_app (a b : List UInt8) : (⟨a.toArray⟩ : ByteArray) ++ (⟨b.toArray⟩ : ByteArray) = ⟨(a ++ b).toArray⟩ := by
  apply ByteArray.ext
  simp
theorem spec_boText (R C : Int) (b o cap : Nat) (l : List (Int × Int)) (w : World) (hg : goodB R C l = true) (hr : Rd w w.heap.size (some ⟨b, o, none⟩) (flat l)) (hcap : l.length ≤ cap) :
    Calls Tryd.prog 12 #[.agg #[.int .i64 R, .int .i64 C, .slice (some ⟨b, o, none⟩) l.length cap]] w fun e w' => e = .returned (.string ⟨(rowsText C l R.toNat).toArray⟩) ∧ Below w.heap.size w w' := by
  obtain ⟨s1, s2, s3, s4⟩ := sizeB_iff.1 (goodB_iff.1 hg).1
  have HG := Lib.hid hg
  clear hg
  go_enter Tryd.func12, Tryd.ntmps12
  go_wp2
  go_loopw [3, 4] (fun t i wr => ∃ k : Nat, (k : Int) ≤ R ∧ i = .int .i64 k ∧ t = .string ⟨(rowsText C l k).toArray⟩ ∧ Whole wr w.heap.size 32 [.int .i64 R, .int .i64 C, .slice (some ⟨b, o, none⟩) l.length cap] ∧ Below w.heap.size w wr) (fun _ i _ => R.toNat - (intOf i).toNat)
  case atStart => exact ⟨0, by omega, rfl, rfl, heap_alloc_new w _, by (repeat' (first | (with_reducible exact Below.refl _ _) | (with_reducible assumption) | (with_reducible refine Below.alloc ?_ ?_ _) | (with_reducible refine Below.setCell ?_ ?_ _) | (with_reducible refine Below.drew ?_) | (with_reducible refine below_drewN ?_ _) | (with_reducible refine Below.trans ?_ (Below.mono (by assumption) ?_)) | (with_reducible exact Nat.le_refl _) | (simp; done) | omega | (simp at *; omega)))⟩
  case round =>
    obtain ⟨k, hk, rfl, rfl, hw, hb⟩ := hrel
    have k0 : wr.cell? ⟨w.heap.size, 0, none⟩ = some (.int .i64 R) := (hw.cell 0).trans rfl
    by_cases hlt : (k : Int) < R
    · have k1 : wr.cell? ⟨w.heap.size, 1, none⟩ = some (.int .i64 C) := (hw.cell 1).trans rfl
      have k2 : wr.cell? ⟨w.heap.size, 2, none⟩ = some (.slice (some ⟨b, o, none⟩) l.length cap) := (hw.cell 2).trans rfl
      have HS := Lib.hid (rowsText_succ C l k)
      have hle := rowsText_le HG.out hk
      have hle2 : (textOf (rowL C l k)).length = (rowL C l k).length := by simp [textOf]
      have hle3 : (rowL C l k).length ≤ 9 := by rw [rowL_len HG.out hlt]; exact (row_facts HG.out hlt).2.2.2.2.1
      have hgr := Lib.hid (rowL_good HG.out hlt)
      have hs := hb.size
      generalize hTX : rowsText C l k = tx at *
      have HT := Lib.hid hTX
      clear hTX
      go_wp2_with fail
      refine (spec_boRow _ _ _ _ _ l k _ HG.out hlt hcap).mono ?_; rintro e w1 ⟨rfl, b1⟩
      have B1 := hb.trans (b1.mono hs)
      have hw1 := hw.below b1 hw.lt
      clear k0 k1 k2
      go_wp2_with fail
      refine (spec_paText _ _ (rowL C l k) _ hgr.out (((rowL_rd HG.out hlt hr).below B1).mono B1.size)).mono ?_; rintro e w2 ⟨rfl, b2⟩
      have B2 := B1.trans (b2.mono B1.size)
      have hw2 := hw1.below b2 hw1.lt
      generalize textOf (rowL C l k) = ty at *
      go_wp2
      go_roundw
      case rel => exact ⟨k + 1, by omega, by go_num, by rw [HS.out, ← bytes_app, ← bytes_app], hw2, B2⟩
      case measure => simp [intOf]; omega
    · obtain rfl : R = (k : Int) := by omega
      go_wp2
      go_returns
      exact ⟨rfl, hb⟩
theorem impl_BoardText (R C : Int) (A : Option Addr) (cap : Nat) (l : List (Int × Int)) (w : World) (hn : l.length ≤ 1048576) (hr : Rd w w.heap.size A (flat l)) (hcap : l.length ≤ cap) :
    Calls Tryd.prog 16 #[.agg #[.int .i64 R, .int .i64 C, .slice A l.length cap]] w fun e w' => e = .returned (.tuple #[.string ⟨(boardText R C l).toArray⟩, .bool (goodB R C l)]) ∧ Below w.heap.size w w' := by
  unfold boardText
  rcases Bool.eq_false_or_eq_true (goodB R C l) with hg | hg
  · have HG := Lib.hid hg
    obtain ⟨s1, s2, s3, s4⟩ := sizeB_iff.1 (goodB_iff.1 hg).1
    obtain ⟨_, hl90, hlp⟩ := goodB_parts hg
    obtain ⟨b, o, rfl, hbl, hc⟩ := hr (by rw [flat_length]; omega)
    have hr' : Rd w w.heap.size (some ⟨b, o, none⟩) (flat l) := fun _ => ⟨b, o, rfl, hbl, hc⟩
    rw [hg]
    clear hg hr hc
    go_enter Tryd.func16, Tryd.ntmps16
    go_wp2_with fail
    have X0 : Whole (w.alloc (.cells #[.int .i64 R, .int .i64 C, .slice (some ⟨b, o, none⟩) l.length cap] 32)) w.heap.size 32 [.int .i64 R, .int .i64 C, .slice (some ⟨b, o, none⟩) l.length cap] := heap_alloc_new w _
    have B0 : Below w.heap.size w (w.alloc (.cells #[.int .i64 R, .int .i64 C, .slice (some ⟨b, o, none⟩) l.length cap] 32)) := (Below.refl _ _).alloc (Nat.le_refl _) _
    generalize w.alloc (.cells #[.int .i64 R, .int .i64 C, .slice (some ⟨b, o, none⟩) l.length cap] 32) = v0 at *
    refine (impl_IsBoard _ _ _ _ l _ hn ((hr'.below B0).mono B0.size)).mono ?_; rintro e w1 ⟨rfl, b1⟩
    rw [HG.out]
    have X1 := X0.below b1 X0.lt
    have B1 := B0.trans (b1.mono B0.size)
    have hs1 := B1.size
    have k0 : w1.cell? ⟨w.heap.size, 0, none⟩ = some (.int .i64 R) := (X1.cell 0).trans rfl
    have hx1 := X1.lt
    clear b1 X0 B0
    go_wp2
    clear k0
    go_loopw [13] (fun i wr => ∃ k : Nat, (k : Int) ≤ R ∧ i = .int .i64 k ∧ Bld w1.heap.size w1.heap.size (rowsText C l k) wr ∧ Whole wr w.heap.size 32 [.int .i64 R, .int .i64 C, .slice (some ⟨b, o, none⟩) l.length cap] ∧ Below w1.heap.size w1 wr) (fun i _ => R.toNat - (intOf i).toNat)
    case atStart =>
      refine ⟨0, by omega, rfl, ?_, X1.alloc _, by (repeat' (first | (with_reducible exact Below.refl _ _) | (with_reducible assumption) | (with_reducible refine Below.alloc ?_ ?_ _) | (with_reducible refine Below.setCell ?_ ?_ _) | (with_reducible refine Below.drew ?_) | (with_reducible refine below_drewN ?_ _) | (with_reducible refine Below.trans ?_ (Below.mono (by assumption) ?_)) | (with_reducible exact Nat.le_refl _) | (simp; done) | omega | (simp at *; omega)))⟩
      exact .inl ⟨Nat.le_refl _, .slice none 0 0, heap_alloc_new w1 _, World.ownsRow_nil _ _ _ _, by simp [Value.ownBlock]⟩
    case round =>
      obtain ⟨k, hk, rfl, hbd, hw, hb⟩ := hrel
      by_cases hlt : (k : Int) < R
      · have k0 : wr.cell? ⟨w.heap.size, 0, none⟩ = some (.int .i64 R) := (hw.cell 0).trans rfl
        have k1 : wr.cell? ⟨w.heap.size, 1, none⟩ = some (.int .i64 C) := (hw.cell 1).trans rfl
        have k2 : wr.cell? ⟨w.heap.size, 2, none⟩ = some (.slice (some ⟨b, o, none⟩) l.length cap) := (hw.cell 2).trans rfl
        have HS := Lib.hid (rowsText_succ C l k)
        have hle := rowsText_le HG.out hk
        have hle1 : k ≤ 9 := (row_facts HG.out hlt).2.2.2.1
        have hle2 : (textOf (rowL C l k)).length = (rowL C l k).length := by simp [textOf]
        have hle3 : (rowL C l k).length ≤ 9 := by rw [rowL_len HG.out hlt]; exact (row_facts HG.out hlt).2.2.2.2.1
        have hgr := Lib.hid (rowL_good HG.out hlt)
        have hs := hb.size
        go_wp2_with fail
        refine (impl_rowCells _ _ _ _ _ l k _ HG.out hlt hcap).mono ?_; rintro e w2 ⟨rfl, b2⟩
        have B2 := hb.trans (b2.mono hs)
        have hw2 := hw.below b2 hw.lt
        have hbd2 := hbd.keep b2
        clear k0 k1 k2 b2 hbd hb hw
        go_wp2_with fail
        refine (impl_CellsText _ _ (rowL C l k) _ (by omega) (((rowL_rd HG.out hlt hr').below (B1.trans (B2.mono hs1))).mono (Nat.le_trans hs1 B2.size))).mono ?_; rintro e w3 ⟨rfl, b3⟩
        have B3 := B2.trans (b3.mono B2.size)
        have hw3 := hw2.below b3 hw2.lt
        have hbd3 := hbd2.keep b3
        have et : textOr (rowL C l k) = textOf (rowL C l k) := by unfold textOr; rw [hgr.out]; rfl
        rw [et, hgr.out]
        clear et b3 hbd2 B2 hw2
        have hz3 := B3.size
        go_wp2_with fail
        refine (WriteString_any _ _ _ _ _ hbd3 (by omega) (by show (textOf (rowL C l k)).toArray.size ≤ _; simp only [List.size_toArray]; omega) hz3).mono ?_; rintro e w4 ⟨rfl, hbd4, b4⟩
        have B4 := B3.trans b4
        have hz4 := B4.size
        have hw4 := hw3.below b4 (by have := hw3.lt; omega)
        clear b4 hbd3 B3 hw3
        go_wp2_with fail
        refine (WriteByte_any _ _ _ 10 _ hbd4 (by simp only [List.length_append]; show _ + (textOf (rowL C l k)).length ≤ _; omega) hz4).mono ?_; rintro e w5 ⟨rfl, hbd5, b5⟩
        have B5 := B4.trans b5
        have hz5 := B5.size
        have hw5 := hw4.below b5 (by have := hw4.lt; omega)
        clear b5 hbd4 B4 hw4
        rw [List.append_assoc, ← HS.out] at hbd5
        go_wp2
        go_roundw
        case rel => exact ⟨k + 1, by omega, by go_num, hbd5, hw5, B5⟩
        case measure => simp [intOf]; omega
      · obtain rfl : R = (k : Int) := by omega
        have hle := rowsText_le HG.out hk
        go_wp2_with fail
        refine (String_any _ _ _ _ hbd hb.size).mono ?_; rintro e w2 ⟨rfl, b2⟩
        go_wp2
        go_returns
        exact ⟨rfl, B1.trans ((hb.trans b2).mono hs1)⟩
  · have HG := Lib.hid hg
    rw [hg]
    clear hg
    go_enter Tryd.func16, Tryd.ntmps16
    go_wp2_with fail
    refine (impl_IsBoard _ _ _ _ l _ hn ((hr.below (by (repeat' (first | (with_reducible exact Below.refl _ _) | (with_reducible assumption) | (with_reducible refine Below.alloc ?_ ?_ _) | (with_reducible refine Below.setCell ?_ ?_ _) | (with_reducible refine Below.drew ?_) | (with_reducible refine below_drewN ?_ _) | (with_reducible refine Below.trans ?_ (Below.mono (by assumption) ?_)) | (with_reducible exact Nat.le_refl _) | (simp; done) | omega | (simp at *; omega))) : Below w.heap.size w _)).mono (by go_size))).mono ?_; rintro e w1 ⟨rfl, b1⟩
    rw [HG.out]
    have B1 : Below w.heap.size w w1 := by (repeat' (first | (with_reducible exact Below.refl _ _) | (with_reducible assumption) | (with_reducible refine Below.alloc ?_ ?_ _) | (with_reducible refine Below.setCell ?_ ?_ _) | (with_reducible refine Below.drew ?_) | (with_reducible refine below_drewN ?_ _) | (with_reducible refine Below.trans ?_ (Below.mono (by assumption) ?_)) | (with_reducible exact Nat.le_refl _) | (simp; done) | omega | (simp at *; omega)))
    go_wp2
    go_returns
    exact ⟨rfl, B1⟩
end Go.Proofs.YtpfjbecpfdgnpabDoor
namespace Go.Proofs.YtpfjbecpfdgnpabDoor
open Go.ChangeShapes Go.WideShapes Go.ChangeAt Go.RowKit Go.Joins Go.Deep
set_option linter.unusedSimpArgs false
set_option linter.unusedVariables false
set_option maxRecDepth 100000
set_option maxHeartbeats 2000000
theorem conv_at (w : World) (g n : Nat) (h : n ≤ 9) (hw : w.cell? ⟨g, 0, none⟩ = some (.int .u8 (48 + (n : Int)))) :
    (convert 51 9 (.slice (some ⟨g, 0, none⟩) 1 1)).run Tryd.prog w = .ok (.string ⟨#[UInt8.ofNat (48 + n)]⟩) w := by
  refine run_convert_bytes_back w _ _ 5 ⟨g, 0, none⟩ 1 [UInt8.ofNat (48 + n)] Tryd.underlying51 Tryd.underlying5 Tryd.underlying9 (fun j hj => ?_)
  have hj0 : j = 0 := by simpa using hj
  subst hj0
  rw [add_plain, Nat.zero_add, hw]
  have e : (UInt8.ofNat (48 + n)).toNat = 48 + n := by
    rw [UInt8.toNat_ofNat']
    omega
  show some (Value.int .u8 (48 + (n : Int))) = some (Value.int .u8 (((UInt8.ofNat (48 + n)).toNat : Nat) : Int))
  rw [e]
  push_cast
  rfl
theorem conv_one (w : World) (n : Nat) (h : n ≤ 9) :
    (convert 51 9 (.slice (some ⟨w.heap.size, 0, none⟩) 1 1)).run Tryd.prog (w.alloc (.cells #[.int .u8 (48 + (n : Int))] 5)) = .ok (.string ⟨#[UInt8.ofNat (48 + n)]⟩) (w.alloc (.cells #[.int .u8 (48 + (n : Int))] 5)) := by
  have hw : Whole (w.alloc (.cells #[.int .u8 (48 + (n : Int))] 5)) w.heap.size 5 [.int .u8 (48 + (n : Int))] := heap_alloc_new w _
  exact conv_at _ _ n h ((hw.cell 0).trans rfl)
theorem conv_drew (w : World) (n : Nat) (h : n ≤ 9) :
    (convert 51 9 (.slice (some ⟨w.heap.size, 0, none⟩) 1 1)).run Tryd.prog (w.alloc (.cells #[.int .u8 (48 + (n : Int))] 5)).drew = .ok (.string ⟨#[UInt8.ofNat (48 + n)]⟩) (w.alloc (.cells #[.int .u8 (48 + (n : Int))] 5)).drew := by
  have hw : Whole (w.alloc (.cells #[.int .u8 (48 + (n : Int))] 5)) w.heap.size 5 [.int .u8 (48 + (n : Int))] := heap_alloc_new w _
  exact conv_at _ _ n h ((hw.cell 0).trans rfl)
theorem newB_cell {w w1 : World} {t : TypeId} {x : Value} (b : Below (w.alloc (.cells #[x] t)).heap.size (w.alloc (.cells #[x] t)) w1) : w1.cell? ⟨w.heap.size, 0, none⟩ = some x := by
  have h : Whole w1 w.heap.size t [x] := Whole.below (heap_alloc_new w _) b (by rw [World.size_alloc]; omega)
  exact (h.cell 0).trans rfl
theorem newD_cell {w w1 : World} {t : TypeId} {x : Value} (b : Below (w.alloc (.cells #[x] t)).drew.heap.size (w.alloc (.cells #[x] t)).drew w1) : w1.cell? ⟨w.heap.size, 0, none⟩ = some x := by
  have h : Whole w1 w.heap.size t [x] := newD (xs := [x]) b
  exact (h.cell 0).trans rfl
theorem spec_l1Num1 (n : Nat) (w : World) (hn : n < 10) :
    Calls Tryd.prog 11 #[.int .i64 (n : Int)] w fun e w' => e = .returned (.string ⟨(Lib.decDigits n).toArray⟩) ∧ Below w.heap.size w w' := by
  rw [Lib.decDigits_one hn]
  have m1 : IntKind.i64.wrap (48 + (n : Int)) = 48 + (n : Int) := IntWalk.i64_in _ (by omega)
  have m2 : IntKind.u8.wrap (48 + (n : Int)) = 48 + (n : Int) := by
    show (48 + (n : Int)) % 256 = _
    omega
  have hcv := fun w => conv_one w n (by omega)
  generalize UInt8.ofNat (48 + n) = b8 at *
  go_enter Tryd.func11, Tryd.ntmps11
  go_wp2
  go_returns
  exact ⟨rfl, by (repeat' (first | (with_reducible exact Below.refl _ _) | (with_reducible assumption) | (with_reducible refine Below.alloc ?_ ?_ _) | (with_reducible refine Below.setCell ?_ ?_ _) | (with_reducible refine Below.drew ?_) | (with_reducible refine below_drewN ?_ _) | (with_reducible refine Below.trans ?_ (Below.mono (by assumption) ?_)) | (with_reducible exact Nat.le_refl _) | (simp; done) | omega | (simp at *; omega)))⟩
theorem spec_l1Num2 (n : Nat) (w : World) (h10 : ¬ n < 10) (hn : n < 100) :
    Calls Tryd.prog 11 #[.int .i64 (n : Int)] w fun e w' => e = .returned (.string ⟨(Lib.decDigits n).toArray⟩) ∧ Below w.heap.size w w' := by
  have hD : Lib.decDigits n = Lib.decDigits (n / 10) ++ [UInt8.ofNat (48 + n % 10)] := by rw [Lib.decDigits_two h10 hn, Lib.decDigits_one (by omega)]; rfl
  obtain ⟨q, hq⟩ : ∃ q, n / 10 = q := ⟨_, rfl⟩
  obtain ⟨r, hr⟩ : ∃ r, n % 10 = r := ⟨_, rfl⟩
  rw [hq, hr] at hD
  have hq' : (n : Int).tdiv 10 = (q : Int) := by rw [Int.tdiv_eq_ediv_of_nonneg (by omega)]; omega
  have hr' : (n : Int).tmod 10 = (r : Int) := by rw [Int.tmod_eq_emod_of_nonneg (by omega)]; omega
  have hq1 : q < 10 := by omega
  have hr1 : r < 10 := by omega
  have m1 : IntKind.i64.wrap (48 + (r : Int)) = 48 + (r : Int) := IntWalk.i64_in _ (by omega)
  have m2 : IntKind.u8.wrap (48 + (r : Int)) = 48 + (r : Int) := by
    show (48 + (r : Int)) % 256 = _
    omega
  have m3 : IntKind.i64.wrap (q : Int) = (q : Int) := IntWalk.i64_in _ (by omega)
  have m4 : IntKind.i64.wrap (r : Int) = (r : Int) := IntWalk.i64_in _ (by omega)
  have hcv := fun w => conv_one w r (by omega)
  have hcd := fun w => conv_drew w r (by omega)
  have HL := Lib.hid (fun w => spec_l1Num1 q w hq1)
  have hca := fun (v : World) => conv_at v w.heap.size r (by omega)
  have hlen : (Lib.decDigits q).length = 1 := by rw [Lib.decDigits_one hq1]; rfl
  rw [hD]
  clear hD hq hr
  generalize UInt8.ofNat (48 + r) = b8 at *
  generalize Lib.decDigits q = dq at *
  have hn10 : ¬ (n : Int) < 10 := by omega
  have HA := Lib.hid hca
  clear hca
  go_enter Tryd.func11, Tryd.ntmps11
  go_upto_region 3 with (fail)
  go_region_with (go_at_call 11; refine (HL.out _).mono ?_; rintro e w7 ⟨rfl, b7⟩; (first | have hcv7 := HA.out w7 (newD_cell b7) | have hcv7 := HA.out w7 (newB_cell b7) | skip); have s7 : w.heap.size ≤ w7.heap.size := (by have h : w.heap.size ≤ _ := Nat.le_trans (by first | exact Nat.le_refl _ | (show w.heap.size ≤ (w.alloc _).heap.size; rw [World.size_alloc]; omega)) b7.size; exact h))
  all_goals go_wp2
  all_goals go_returns
  all_goals exact ⟨by (first | rfl | rw [bytes_snoc] | (rw [← bytes_snoc])), by (repeat' (first | (with_reducible exact Below.refl _ _) | (with_reducible assumption) | (with_reducible refine Below.alloc ?_ ?_ _) | (with_reducible refine Below.setCell ?_ ?_ _) | (with_reducible refine Below.drew ?_) | (with_reducible refine below_drewN ?_ _) | (with_reducible refine Below.trans ?_ (Below.mono (by assumption) ?_)) | (with_reducible exact Nat.le_refl _) | (simp; done) | omega | (simp at *; omega)))⟩
theorem spec_l1Num (n : Nat) (w : World) (hn : n < 100) :
    Calls Tryd.prog 11 #[.int .i64 (n : Int)] w fun e w' => e = .returned (.string ⟨(Lib.decDigits n).toArray⟩) ∧ Below w.heap.size w w' := by
  by_cases h : n < 10
  · exact spec_l1Num1 n w h
  · exact spec_l1Num2 n w h hn
end Go.Proofs.YtpfjbecpfdgnpabDoor
namespace Go.Proofs.YtpfjbecpfdgnpabDoor
open Go.ChangeShapes Go.WideShapes Go.ChangeAt Go.RowKit Go.Joins Go.Deep
set_option linter.unusedSimpArgs false
set_option linter.unusedVariables false
set_option maxRecDepth 100000
set_option maxHeartbeats 2000000
/-- The numbers' texts, one behind the other. -/
def jnT (xs : List Nat) : List UInt8 := Lib.join (xs.map Lib.decDigits) [32]
theorem jnT_snoc (xs : List Nat) (n : Nat) : jnT (xs ++ [n]) = if xs = [] then Lib.decDigits n else jnT xs ++ [32] ++ Lib.decDigits n := by
  unfold jnT
  cases xs with
  | nil => exact Lib.join_one _ _
  | cons x xs =>
    rw [if_neg (by simp), List.map_append, List.map_cons, List.cons_append, Lib.join_cons, Lib.join_cons]
    simp [Lib.joinTail, List.append_assoc]
theorem dec_len {n : Nat} (h : n < 100) : (Lib.decDigits n).length ≤ 2 := by
  by_cases h1 : n < 10
  · rw [Lib.decDigits_one h1]; exact Nat.le_succ 1
  · rw [Lib.decDigits_two h1 h]; exact Nat.le_refl 2
theorem jnT_len (xs : List Nat) (h : ∀ n ∈ xs, n < 100) : (jnT xs).length ≤ 3 * xs.length := by
  cases xs with
  | nil => exact Nat.le_refl 0
  | cons x xs =>
    unfold jnT
    rw [List.map_cons, Lib.join_cons, List.length_append]
    have h0 := dec_len (h x (by simp))
    have h1 : (Lib.joinTail [32] (xs.map Lib.decDigits)).length ≤ 3 * xs.length := by
      have h2 : ∀ n ∈ xs, n < 100 := fun n hn => h n (by simp [hn])
      clear h h0
      induction xs with
      | nil => exact Nat.le_refl 0
      | cons y ys ih =>
        have := ih (fun n hn => h2 n (by simp [hn]))
        have h3 := dec_len (h2 y (by simp))
        unfold Lib.joinTail at this ⊢
        rw [List.map_cons, List.map_cons, List.flatten_cons, List.length_append, List.length_append]
        simp only [List.length_cons, List.length_nil]
        omega
    rw [List.length_cons]
    omega
def numsM (p q bl rd nx : Int) : List Nat := [p.toNat, q.toNat, bl.toNat, rd.toNat, nx.toNat]
def textM (R C : Int) (l : List (Int × Int)) (p q bl rd nx : Int) : List UInt8 := if okM R C l p q bl rd nx then jnT (numsM p q bl rd nx) ++ [10] ++ rowsText C l R.toNat else []
theorem okM_nums {R C : Int} {l : List (Int × Int)} {p q bl rd nx : Int} (h : okM R C l p q bl rd nx = true) : ∃ p' q' b' r' n' : Nat, p = (p' : Int) ∧ q = (q' : Int) ∧ bl = (b' : Int) ∧ rd = (r' : Int) ∧ nx = (n' : Int) ∧ numsM p q bl rd nx = [p', q', b', r', n'] ∧ ∀ n ∈ [p', q', b', r', n'], n < 100 := by
  obtain ⟨h1, h2, h3, h4, h5, h6, h7, h8⟩ := okM_parts h
  obtain ⟨r, c, rfl, rfl, hG, hg, hp, hq⟩ := okM_ints h
  obtain ⟨s1, s2, s3, s4⟩ := sizeB_iff.1 (goodB_iff.1 hg).1
  refine ⟨p.toNat, q.toNat, bl.toNat, rd.toNat, nx.toNat, by omega, by omega, by omega, by omega, by omega, rfl, ?_⟩
  intro n hn
  simp only [List.mem_cons, List.not_mem_nil, or_false] at hn
  omega
theorem spec_MachineText (R C : Int) (A : Option Addr) (cap : Nat) (l : List (Int × Int)) (p q bl rd nx : Int) (w : World) (hn : l.length ≤ 1048576) (hr : Rd w w.heap.size A (flat l)) (hcap : l.length ≤ cap) :
    Calls Tryd.prog 5 #[.agg #[.int .i64 R, .int .i64 C, .slice A l.length cap, .int .i64 p, .int .i64 q, .int .i64 bl, .int .i64 rd, .int .i64 nx]] w fun e w' => e = .returned (.tuple #[.string ⟨(textM R C l p q bl rd nx).toArray⟩, .bool (okM R C l p q bl rd nx)]) ∧ Below w.heap.size w w' := by
  unfold textM
  rcases Bool.eq_false_or_eq_true (okM R C l p q bl rd nx) with ho | ho
  · have HO := Lib.hid ho
    rw [ho, if_pos rfl]
    obtain ⟨r, c, rfl, rfl, hG, hg, hp, hq⟩ := okM_ints ho
    obtain ⟨_, h90, hpos⟩ := goodB_parts hg
    obtain ⟨s1, s2, s3, s4⟩ := sizeB_iff.1 (goodB_iff.1 hg).1
    have HG := Lib.hid hg
    have hrt := rowsText_le (k := r) hg (by omega)
    obtain ⟨b, o, rfl, hbl, hc⟩ := hr (by rw [flat_length]; omega)
    have hr' : Rd w w.heap.size (some ⟨b, o, none⟩) (flat l) := fun _ => ⟨b, o, rfl, hbl, hc⟩
    obtain ⟨p', q', b', r', n', rfl, rfl, rfl, rfl, rfl, hN, hlt⟩ := okM_nums ho
    rw [hN, Int.toNat_natCast]
    obtain ⟨xs, hxs⟩ : ∃ xs, xs = [p', q', b', r', n'] := ⟨_, rfl⟩
    have h5 : xs.length = 5 := by rw [hxs]; rfl
    have hI : ints (List.map (fun n : Nat => (n : Int)) xs) = [.int .i64 (p' : Int), .int .i64 (q' : Int), .int .i64 (b' : Int), .int .i64 (r' : Int), .int .i64 (n' : Int)] := by rw [hxs]; rfl
    rw [← hxs] at hlt ⊢
    clear ho hG hg hp hq hc hbl hr hN hxs
    generalize hRT : rowsText (c : Int) l r = rt at *
    have HRT := Lib.hid hRT
    clear hRT
    go_enter Tryd.func5, Tryd.ntmps5
    obtain ⟨v0, hv0⟩ : ∃ v, v = w.alloc (.cells #[.int .i64 (r : Int), .int .i64 (c : Int), .slice (some ⟨b, o, none⟩) l.length cap, .int .i64 (p' : Int), .int .i64 (q' : Int), .int .i64 (b' : Int), .int .i64 (r' : Int), .int .i64 (n' : Int)] 34) := ⟨_, rfl⟩
    have X0 : Whole v0 w.heap.size 34 [.int .i64 (r : Int), .int .i64 (c : Int), .slice (some ⟨b, o, none⟩) l.length cap, .int .i64 (p' : Int), .int .i64 (q' : Int), .int .i64 (b' : Int), .int .i64 (r' : Int), .int .i64 (n' : Int)] := by rw [hv0]; exact heap_alloc_new w _
    have hb : Below w.heap.size w v0 := by rw [hv0]; exact (Below.refl _ _).alloc (Nat.le_refl _) _
    have HV := Lib.hid hv0.symm
    clear hv0
    go_upto_region 1 with (fail)
    rewrite [HV.out]
    clear HV
    have hy := X0.lt
    have X0k0 : v0.cell? ⟨w.heap.size, 0, none⟩ = some (.int .i64 (r : Int)) := (X0.cell 0).trans rfl; have X0k1 : v0.cell? ⟨w.heap.size, 1, none⟩ = some (.int .i64 (c : Int)) := (X0.cell 1).trans rfl; have X0k2 : v0.cell? ⟨w.heap.size, 2, none⟩ = some (.slice (some ⟨b, o, none⟩) l.length cap) := (X0.cell 2).trans rfl; have X0k3 : v0.cell? ⟨w.heap.size, 3, none⟩ = some (.int .i64 (p' : Int)) := (X0.cell 3).trans rfl; have X0k4 : v0.cell? ⟨w.heap.size, 4, none⟩ = some (.int .i64 (q' : Int)) := (X0.cell 4).trans rfl; have X0k5 : v0.cell? ⟨w.heap.size, 5, none⟩ = some (.int .i64 (b' : Int)) := (X0.cell 5).trans rfl
    have X0k6 : v0.cell? ⟨w.heap.size, 6, none⟩ = some (.int .i64 (r' : Int)) := (X0.cell 6).trans rfl; have X0k7 : v0.cell? ⟨w.heap.size, 7, none⟩ = some (.int .i64 (n' : Int)) := (X0.cell 7).trans rfl
    go_wp2_with fail
    refine (spec_maGood _ _ _ _ l _ _ _ _ _ _ hn ((hr'.below hb).mono hb.size)).mono ?_; rintro e w1 ⟨rfl, b1⟩
    clear X0k0 X0k1 X0k2 X0k3 X0k4 X0k5 X0k6 X0k7
    (replace X0 := X0.below b1 X0.lt; replace hb := hb.trans (b1.mono hb.size); have hy := X0.lt; clear b1)
    rewrite [HO.out]
    have hy := X0.lt
    have X0k0 : w1.cell? ⟨w.heap.size, 0, none⟩ = some (.int .i64 (r : Int)) := (X0.cell 0).trans rfl; have X0k1 : w1.cell? ⟨w.heap.size, 1, none⟩ = some (.int .i64 (c : Int)) := (X0.cell 1).trans rfl; have X0k2 : w1.cell? ⟨w.heap.size, 2, none⟩ = some (.slice (some ⟨b, o, none⟩) l.length cap) := (X0.cell 2).trans rfl; have X0k3 : w1.cell? ⟨w.heap.size, 3, none⟩ = some (.int .i64 (p' : Int)) := (X0.cell 3).trans rfl; have X0k4 : w1.cell? ⟨w.heap.size, 4, none⟩ = some (.int .i64 (q' : Int)) := (X0.cell 4).trans rfl; have X0k5 : w1.cell? ⟨w.heap.size, 5, none⟩ = some (.int .i64 (b' : Int)) := (X0.cell 5).trans rfl
    have X0k6 : w1.cell? ⟨w.heap.size, 6, none⟩ = some (.int .i64 (r' : Int)) := (X0.cell 6).trans rfl; have X0k7 : w1.cell? ⟨w.heap.size, 7, none⟩ = some (.int .i64 (n' : Int)) := (X0.cell 7).trans rfl
    have XS : Whole (w1.alloc (.cells #[.int .i64 (p' : Int), .int .i64 (q' : Int), .int .i64 (b' : Int), .int .i64 (r' : Int), .int .i64 (n' : Int)] 3)) w1.heap.size 3 (ints (List.map (fun n : Nat => (n : Int)) xs)) := by rw [hI]; exact heap_alloc_new w1 _
    have X0a := X0.alloc (.cells #[.int .i64 (p' : Int), .int .i64 (q' : Int), .int .i64 (b' : Int), .int .i64 (r' : Int), .int .i64 (n' : Int)] 3)
    have hba : Below w.heap.size w (w1.alloc (.cells #[.int .i64 (p' : Int), .int .i64 (q' : Int), .int .i64 (b' : Int), .int .i64 (r' : Int), .int .i64 (n' : Int)] 3)) := hb.alloc hb.size _
    clear hI
    go_wp2
    clear X0k0 X0k1 X0k2 X0k3 X0k4 X0k5 X0k6 X0k7
    go_loopw [4, 22] (fun t i wr => ∃ k : Nat, i = .int .i64 k ∧ k ≤ 5 ∧ t = .string ⟨(jnT (xs.take k)).toArray⟩ ∧ Whole wr w.heap.size 34 [.int .i64 (r : Int), .int .i64 (c : Int), .slice (some ⟨b, o, none⟩) l.length cap, .int .i64 (p' : Int), .int .i64 (q' : Int), .int .i64 (b' : Int), .int .i64 (r' : Int), .int .i64 (n' : Int)] ∧ Whole wr w1.heap.size 3 (ints (List.map (fun n : Nat => (n : Int)) xs)) ∧ Below w.heap.size w wr) (fun _ i _ => 5 - (intOf i).toNat)
    case atStart => exact ⟨0, rfl, Nat.zero_le _, rfl, X0a, XS, hba⟩
    case round =>
      clear X0a XS hba X0 hb
      obtain ⟨k, rfl, hk, rfl, X0, XS, hb⟩ := hrel
      have hs := hb.size
      have hjl := jnT_len (xs.take k) (fun n hn => hlt n (List.mem_of_mem_take hn))
      rw [List.length_take] at hjl
      by_cases hk5 : k < 5
      · have hkx : k < xs.length := by omega
        have hkc : wr.cell? ⟨w1.heap.size, k, none⟩ = some (.int .i64 ((xs[k] : Nat) : Int)) := (XS.cell k).trans (by rw [ints_at _ k (by rw [List.length_map]; omega), List.getElem_map])
        have hn100 := hlt xs[k] (List.getElem_mem _)
        have HT := Lib.hid (show jnT (xs.take (k + 1)) = if xs.take k = [] then Lib.decDigits xs[k] else jnT (xs.take k) ++ [32] ++ Lib.decDigits xs[k] by rw [List.take_succ_eq_append_getElem hkx]; exact jnT_snoc _ _)
        have hdl := dec_len hn100
        have HL := Lib.hid (fun w => spec_l1Num xs[k] w hn100)
        have hgs := XS.lt
        generalize xs[k] = n at *
        generalize Lib.decDigits n = dn at *
        by_cases h0 : k = 0
        · subst h0
          have HT0 := Lib.hid (HT.out.trans (if_pos rfl))
          clear HT
          rewrite [show jnT (xs.take 0) = [] from rfl]
          go_wp2_with fail
          refine (HL.out _).mono ?_; rintro e w2 ⟨rfl, b2⟩
          clear hkc hgs
          replace X0 := X0.below b2 X0.lt
          replace XS := XS.below b2 XS.lt
          replace hb := hb.trans (b2.mono hs)
          go_wp2
          refine ⟨⟨1, by go_num, by omega, by (first | (rw [HT0.out]; done) | (rw [HT0.out]; rfl) | (rw [HT0.out]; simp)), X0, XS, hb⟩, by simp [intOf]⟩
        · have hkp : 0 < k := by omega
          have HT0 := Lib.hid (HT.out.trans (if_neg (by intro h; have h2 := congrArg List.length h; rw [List.length_take, List.length_nil] at h2; omega)))
          clear HT h0
          generalize jnT (xs.take k) = jt at *
          go_wp2_with fail
          refine (HL.out _).mono ?_; rintro e w2 ⟨rfl, b2⟩
          clear hkc hgs
          replace X0 := X0.below b2 X0.lt
          replace XS := XS.below b2 XS.lt
          replace hb := hb.trans (b2.mono hs)
          go_wp2
          refine ⟨⟨k + 1, by go_num, by omega, by rw [HT0.out, ← bytes_app, ← bytes_app], X0, XS, hb⟩, by simp [intOf]; omega⟩
      · obtain rfl : k = 5 := by omega
        have e5 : xs.take 5 = xs := by rw [← h5]; exact List.take_length
        rw [e5] at hjl ⊢
        clear e5
        have hy := X0.lt
        have X0k0 : wr.cell? ⟨w.heap.size, 0, none⟩ = some (.int .i64 (r : Int)) := (X0.cell 0).trans rfl; have X0k1 : wr.cell? ⟨w.heap.size, 1, none⟩ = some (.int .i64 (c : Int)) := (X0.cell 1).trans rfl; have X0k2 : wr.cell? ⟨w.heap.size, 2, none⟩ = some (.slice (some ⟨b, o, none⟩) l.length cap) := (X0.cell 2).trans rfl
        generalize hJT : jnT xs = jt at *
        have HJT := Lib.hid hJT
        clear hJT
        go_wp2_with fail
        have HBT := spec_boText (r : Int) (c : Int) b o cap l wr HG.out ((hr'.below hb).mono hb.size) hcap
        rw [Int.toNat_natCast, HRT.out] at HBT
        refine HBT.mono ?_; rintro e w2 ⟨rfl, b2⟩
        clear HBT
        go_wp2
        go_returns
        exact ⟨by rw [HJT.out, ← bytes_app, ← bytes_app]; rfl, hb.trans (b2.mono hs)⟩
  · have HO := Lib.hid ho
    rw [ho, if_neg (by decide)]
    clear ho
    go_enter Tryd.func5, Tryd.ntmps5
    obtain ⟨v0, hv0⟩ : ∃ v, v = w.alloc (.cells #[.int .i64 R, .int .i64 C, .slice A l.length cap, .int .i64 p, .int .i64 q, .int .i64 bl, .int .i64 rd, .int .i64 nx] 34) := ⟨_, rfl⟩; have X0 : Whole v0 w.heap.size 34 [.int .i64 R, .int .i64 C, .slice A l.length cap, .int .i64 p, .int .i64 q, .int .i64 bl, .int .i64 rd, .int .i64 nx] := (by rw [hv0]; exact heap_alloc_new w _); have hb : Below w.heap.size w v0 := (by rw [hv0]; exact (Below.refl _ _).alloc (Nat.le_refl _) _); have HV := Lib.hid hv0.symm; clear hv0; go_upto_region 1 with (fail); rewrite [HV.out]; clear HV; have hy := X0.lt
    have X0k0 : v0.cell? ⟨w.heap.size, 0, none⟩ = some (.int .i64 R) := (X0.cell 0).trans rfl; have X0k1 : v0.cell? ⟨w.heap.size, 1, none⟩ = some (.int .i64 C) := (X0.cell 1).trans rfl; have X0k2 : v0.cell? ⟨w.heap.size, 2, none⟩ = some (.slice A l.length cap) := (X0.cell 2).trans rfl; have X0k3 : v0.cell? ⟨w.heap.size, 3, none⟩ = some (.int .i64 p) := (X0.cell 3).trans rfl; have X0k4 : v0.cell? ⟨w.heap.size, 4, none⟩ = some (.int .i64 q) := (X0.cell 4).trans rfl; have X0k5 : v0.cell? ⟨w.heap.size, 5, none⟩ = some (.int .i64 bl) := (X0.cell 5).trans rfl; have X0k6 : v0.cell? ⟨w.heap.size, 6, none⟩ = some (.int .i64 rd) := (X0.cell 6).trans rfl; have X0k7 : v0.cell? ⟨w.heap.size, 7, none⟩ = some (.int .i64 nx) := (X0.cell 7).trans rfl
    go_wp2_with fail
    refine (spec_maGood _ _ _ _ l _ _ _ _ _ _ hn ((hr.below hb).mono hb.size)).mono ?_; rintro e w1 ⟨rfl, b1⟩
    clear X0k0 X0k1 X0k2 X0k3 X0k4 X0k5 X0k6 X0k7
    (replace X0 := X0.below b1 X0.lt; replace hb := hb.trans (b1.mono hb.size); have hy := X0.lt; clear b1)
    rewrite [HO.out]
    go_wp2
    go_returns
    exact ⟨rfl, hb⟩
def strsT (xs : List Nat) : List Value := xs.map fun n => .string ⟨(Lib.decDigits n).toArray⟩
theorem strsT_len (xs : List Nat) : (strsT xs).length = xs.length := List.length_map ..
theorem joinT (xs : List Nat) : Lib.join ((xs.map fun n => (⟨(Lib.decDigits n).toArray⟩ : ByteArray)).map (·.data.toList)) (⟨#[32]⟩ : ByteArray).data.toList = jnT xs := by
  unfold jnT
  rw [List.map_map]
  congr 1
theorem strInfo : (Tryd.prog.info? 9).map (fun i => (i.zero, i.size, i.bytes)) = some (some (.string ⟨#[]⟩), 1, 16) := by kernel_rfl
theorem one_oneS {b : ByteArray} : ∀ u ∈ [Value.string b], u.oneCell' = true := by
  intro u hu
  simp only [List.mem_cons, List.not_mem_nil, or_false] at hu
  rw [hu]; rfl
theorem row_cap {w : World} {base : Nat} {e : TypeId} {size n cap : Nat} {A : Option Addr} {xs : List Value} (h : w.ownsRow base e size (.slice A n cap) n xs) (hp : 0 < n) : n ≤ cap := by
  rcases h.2 with ⟨_, h0⟩ | ⟨g, cap', cur, e', _, _, h1, _⟩
  · omega
  · injection e' with _ _ e3
    omega
theorem own_slice' {w : World} {base : Nat} {e : TypeId} {size n : Nat} {v : Value} {xs : List Value} (h : w.ownsRow base e size v n xs) : ∃ A cap, v = .slice A n cap ∧ Own w A e xs ∧ ∀ a, A = some a → base ≤ a.block := by
  obtain ⟨A, cap, rfl⟩ := slice_of_row h
  exact ⟨A, cap, rfl, own_of_row h⟩
theorem impl_MachineText (R C : Int) (A : Option Addr) (cap : Nat) (l : List (Int × Int)) (p q bl rd nx : Int) (w : World) (hn : l.length ≤ 1048576) (hr : Rd w w.heap.size A (flat l)) (hcap : l.length ≤ cap) :
    Calls Tryd.prog 7 #[.agg #[.int .i64 R, .int .i64 C, .slice A l.length cap, .int .i64 p, .int .i64 q, .int .i64 bl, .int .i64 rd, .int .i64 nx]] w fun e w' => e = .returned (.tuple #[.string ⟨(textM R C l p q bl rd nx).toArray⟩, .bool (okM R C l p q bl rd nx)]) ∧ Below w.heap.size w w' := by
  unfold textM
  rcases Bool.eq_false_or_eq_true (okM R C l p q bl rd nx) with ho | ho
  · have HO := Lib.hid ho
    rw [ho, if_pos rfl]
    obtain ⟨r, c, rfl, rfl, hG, hg, hp, hq⟩ := okM_ints ho
    obtain ⟨_, h90, hpos⟩ := goodB_parts hg
    obtain ⟨s1, s2, s3, s4⟩ := sizeB_iff.1 (goodB_iff.1 hg).1
    have HG := Lib.hid hg
    have hrt := rowsText_le (k := r) hg (by omega)
    obtain ⟨b, o, rfl, hbl, hc⟩ := hr (by rw [flat_length]; omega)
    have hr' : Rd w w.heap.size (some ⟨b, o, none⟩) (flat l) := fun _ => ⟨b, o, rfl, hbl, hc⟩
    obtain ⟨p', q', b', r', n', rfl, rfl, rfl, rfl, rfl, hN, hlt⟩ := okM_nums ho
    rw [hN, Int.toNat_natCast]
    obtain ⟨xs, hxs⟩ : ∃ xs, xs = [p', q', b', r', n'] := ⟨_, rfl⟩
    have h5 : xs.length = 5 := by rw [hxs]; rfl
    have hI : ints (List.map (fun n : Nat => (n : Int)) xs) = [.int .i64 (p' : Int), .int .i64 (q' : Int), .int .i64 (b' : Int), .int .i64 (r' : Int), .int .i64 (n' : Int)] := by rw [hxs]; rfl
    rw [← hxs] at hlt ⊢
    clear ho hG hg hp hq hc hbl hr hN hxs
    generalize hRT : rowsText (c : Int) l r = rt at *
    have HRT := Lib.hid hRT
    clear hRT
    obtain ⟨i0, hi, hz0, hz1, hz2⟩ := info_parts strInfo
    go_enter Tryd.func7, Tryd.ntmps7
    obtain ⟨v0, hv0⟩ : ∃ v, v = w.alloc (.cells #[.int .i64 (r : Int), .int .i64 (c : Int), .slice (some ⟨b, o, none⟩) l.length cap, .int .i64 (p' : Int), .int .i64 (q' : Int), .int .i64 (b' : Int), .int .i64 (r' : Int), .int .i64 (n' : Int)] 34) := ⟨_, rfl⟩
    have X0 : Whole v0 w.heap.size 34 [.int .i64 (r : Int), .int .i64 (c : Int), .slice (some ⟨b, o, none⟩) l.length cap, .int .i64 (p' : Int), .int .i64 (q' : Int), .int .i64 (b' : Int), .int .i64 (r' : Int), .int .i64 (n' : Int)] := by rw [hv0]; exact heap_alloc_new w _
    have hb : Below w.heap.size w v0 := by rw [hv0]; exact (Below.refl _ _).alloc (Nat.le_refl _) _
    have HV := Lib.hid hv0.symm
    clear hv0
    go_upto_region 1 with (fail)
    rewrite [HV.out]
    clear HV
    have hy := X0.lt
    have X0k0 : v0.cell? ⟨w.heap.size, 0, none⟩ = some (.int .i64 (r : Int)) := (X0.cell 0).trans rfl; have X0k1 : v0.cell? ⟨w.heap.size, 1, none⟩ = some (.int .i64 (c : Int)) := (X0.cell 1).trans rfl; have X0k2 : v0.cell? ⟨w.heap.size, 2, none⟩ = some (.slice (some ⟨b, o, none⟩) l.length cap) := (X0.cell 2).trans rfl; have X0k3 : v0.cell? ⟨w.heap.size, 3, none⟩ = some (.int .i64 (p' : Int)) := (X0.cell 3).trans rfl; have X0k4 : v0.cell? ⟨w.heap.size, 4, none⟩ = some (.int .i64 (q' : Int)) := (X0.cell 4).trans rfl; have X0k5 : v0.cell? ⟨w.heap.size, 5, none⟩ = some (.int .i64 (b' : Int)) := (X0.cell 5).trans rfl
    have X0k6 : v0.cell? ⟨w.heap.size, 6, none⟩ = some (.int .i64 (r' : Int)) := (X0.cell 6).trans rfl; have X0k7 : v0.cell? ⟨w.heap.size, 7, none⟩ = some (.int .i64 (n' : Int)) := (X0.cell 7).trans rfl
    go_wp2_with fail
    refine (impl_IsMachine _ _ _ _ l _ _ _ _ _ _ hn ((hr'.below hb).mono hb.size)).mono ?_; rintro e w1 ⟨rfl, b1⟩
    clear X0k0 X0k1 X0k2 X0k3 X0k4 X0k5 X0k6 X0k7
    (replace X0 := X0.below b1 X0.lt; replace hb := hb.trans (b1.mono hb.size); have hy := X0.lt; clear b1)
    rewrite [HO.out]
    have hy := X0.lt
    have X0k0 : w1.cell? ⟨w.heap.size, 0, none⟩ = some (.int .i64 (r : Int)) := (X0.cell 0).trans rfl; have X0k1 : w1.cell? ⟨w.heap.size, 1, none⟩ = some (.int .i64 (c : Int)) := (X0.cell 1).trans rfl; have X0k2 : w1.cell? ⟨w.heap.size, 2, none⟩ = some (.slice (some ⟨b, o, none⟩) l.length cap) := (X0.cell 2).trans rfl; have X0k3 : w1.cell? ⟨w.heap.size, 3, none⟩ = some (.int .i64 (p' : Int)) := (X0.cell 3).trans rfl; have X0k4 : w1.cell? ⟨w.heap.size, 4, none⟩ = some (.int .i64 (q' : Int)) := (X0.cell 4).trans rfl; have X0k5 : w1.cell? ⟨w.heap.size, 5, none⟩ = some (.int .i64 (b' : Int)) := (X0.cell 5).trans rfl
    have X0k6 : w1.cell? ⟨w.heap.size, 6, none⟩ = some (.int .i64 (r' : Int)) := (X0.cell 6).trans rfl; have X0k7 : w1.cell? ⟨w.heap.size, 7, none⟩ = some (.int .i64 (n' : Int)) := (X0.cell 7).trans rfl
    have XS : Whole (w1.alloc (.cells #[.int .i64 (p' : Int), .int .i64 (q' : Int), .int .i64 (b' : Int), .int .i64 (r' : Int), .int .i64 (n' : Int)] 3)) w1.heap.size 3 (ints (List.map (fun n : Nat => (n : Int)) xs)) := by rw [hI]; exact heap_alloc_new w1 _
    have X0a := X0.alloc (.cells #[.int .i64 (p' : Int), .int .i64 (q' : Int), .int .i64 (b' : Int), .int .i64 (r' : Int), .int .i64 (n' : Int)] 3)
    have hba : Below w.heap.size w (w1.alloc (.cells #[.int .i64 (p' : Int), .int .i64 (q' : Int), .int .i64 (b' : Int), .int .i64 (r' : Int), .int .i64 (n' : Int)] 3)) := hb.alloc hb.size _
    clear hI
    go_wp2
    clear X0k0 X0k1 X0k2 X0k3 X0k4 X0k5 X0k6 X0k7
    have hown : (w1.alloc (.cells #[.int .i64 (p' : Int), .int .i64 (q' : Int), .int .i64 (b' : Int), .int .i64 (r' : Int), .int .i64 (n' : Int)] 3)).ownsRow w.heap.size 9 1 (.slice none 0 0) 0 [] := World.ownsRow_nil _ _ _ _
    go_loopw [4, 24] (fun t i wr => ∃ k : Nat, i = .int .i64 k ∧ k ≤ 5 ∧ wr.ownsRow w.heap.size 9 1 t k (strsT (xs.take k)) ∧ Whole wr w.heap.size 34 [.int .i64 (r : Int), .int .i64 (c : Int), .slice (some ⟨b, o, none⟩) l.length cap, .int .i64 (p' : Int), .int .i64 (q' : Int), .int .i64 (b' : Int), .int .i64 (r' : Int), .int .i64 (n' : Int)] ∧ Whole wr w1.heap.size 3 (ints (List.map (fun n : Nat => (n : Int)) xs)) ∧ Below w.heap.size w wr) (fun _ i _ => 5 - (intOf i).toNat)
    case atStart => exact ⟨0, rfl, Nat.zero_le _, hown, X0a, XS, hba⟩
    case round =>
      clear X0a XS hba X0 hb hown
      obtain ⟨k, rfl, hk, hown, X0, XS, hb⟩ := hrel
      have hs := hb.size
      by_cases hk5 : k < 5
      · have hkx : k < xs.length := by omega
        have hkc : wr.cell? ⟨w1.heap.size, k, none⟩ = some (.int .i64 ((xs[k] : Nat) : Int)) := (XS.cell k).trans (by rw [ints_at _ k (by rw [List.length_map]; omega), List.getElem_map])
        have hn100 := hlt xs[k] (List.getElem_mem _)
        have HT := Lib.hid (show strsT (xs.take (k + 1)) = strsT (xs.take k) ++ [.string ⟨(Lib.decDigits xs[k]).toArray⟩] by rw [List.take_succ_eq_append_getElem hkx]; unfold strsT; rw [List.map_append]; rfl)
        have HL := Lib.hid (fun w => Tryd.strconv_Itoa_small xs[k] hn100 w)
        have hgs := XS.lt
        generalize xs[k] = n at *
        generalize Lib.decDigits n = dn at *
        go_wp2_with fail
        refine (HL.out _).mono ?_; rintro e w2 ⟨rfl, rfl⟩
        have hownY := hown.alloc (.cells #[.string ⟨dn.toArray⟩] 9)
        have ba : Below w2.heap.size w2 (w2.alloc (.cells #[.string ⟨dn.toArray⟩] 9)) := (Below.refl _ _).alloc (Nat.le_refl _) _
        have X0Y := X0.below ba X0.lt
        have XSY := XS.below ba XS.lt
        have hbY := hb.trans (ba.mono hs)
        go_upto_region 8 with (first | (at_builtin; go_loud (refine wpList_append_own _ rfl (.tmp 28) (.tmp 31) 44 rfl w.heap.size 9 i0 _ 1 16 Tryd.underlying44 hi hz0 hz1 hz2 rfl (by omega) u4 k _ rfl (hown.alloc _) ⟨w2.heap.size, 0, none⟩ 1 1 [.string ⟨dn.toArray⟩] rfl rfl one_cellI one_oneS (by unfold maxLen; omega) (by omega) (by rw [World.size_alloc]; omega) ?_; intro v7 w7 hown7 hg7 _)) | fail)
        have X07 := X0Y.grown hg7 (row_apart hownY X0Y (by decide))
        have XS7 := XSY.grown hg7 (row_apart hownY XSY (by decide))
        have hb7 := row_below hownY hbY (by rw [World.size_alloc]; omega) hg7
        clear hownY X0Y XSY hbY hg7 hown X0 XS hb hs hkc ba hgs
        go_wp2
        refine ⟨⟨k + 1, by go_num, by omega, ?_, X07, XS7, hb7⟩, by simp [intOf]; omega⟩
        rw [HT.out]
        exact hown7
      · obtain rfl : k = 5 := by omega
        have e5 : xs.take 5 = xs := by rw [← h5]; exact List.take_length
        rw [e5] at hown
        clear e5
        have hjl := jnT_len xs hlt
        obtain ⟨A6, c6, rfl, O6, N6⟩ := own_slice' hown
        have hcap6 : 5 ≤ c6 := row_cap hown (by omega)
        obtain ⟨gw, rest, rfl, Xw⟩ := O6 (by rw [strsT_len]; omega)
        have hy := X0.lt
        have X0k0 : wr.cell? ⟨w.heap.size, 0, none⟩ = some (.int .i64 (r : Int)) := (X0.cell 0).trans rfl; have X0k1 : wr.cell? ⟨w.heap.size, 1, none⟩ = some (.int .i64 (c : Int)) := (X0.cell 1).trans rfl; have X0k2 : wr.cell? ⟨w.heap.size, 2, none⟩ = some (.slice (some ⟨b, o, none⟩) l.length cap) := (X0.cell 2).trans rfl
        go_wp2_with fail
        have HBT := impl_BoardText (r : Int) (c : Int) (some ⟨b, o, none⟩) cap l wr hn ((hr'.below hb).mono hb.size) hcap
        unfold boardText at HBT
        rw [HG.out, if_pos rfl, Int.toNat_natCast, HRT.out] at HBT
        refine HBT.mono ?_; rintro e w2 ⟨rfl, b2⟩
        clear HBT
        replace Xw := Xw.below b2 Xw.lt
        replace hb := hb.trans (b2.mono hs)
        have hgw := Xw.lt
        have hJ := Tryd.strings_Join gw 0 c6 (xs.map fun n => ⟨(Lib.decDigits n).toArray⟩) ⟨#[32]⟩ w2 (fun j x hx => by
          have hj := Xw.cell j
          rw [Nat.zero_add, hj, List.getElem?_append_left (by
            rw [strsT_len]
            have := (List.getElem?_eq_some_iff.1 hx).1
            rwa [List.length_map] at this)]
          unfold strsT
          rw [List.getElem?_map] at hx ⊢
          cases hq : xs[j]? with
          | none => rw [hq] at hx; cases hx
          | some n => rw [hq] at hx; cases hx; rfl) hgw (by rw [List.length_map]; omega) (by rw [List.length_map, h5]; exact hcap6) (by rw [joinT]; omega)
        rw [joinT, List.length_map, h5] at hJ
        generalize hJT : jnT xs = jt at *
        have HJT := Lib.hid hJT
        clear hJT
        go_wp2_with fail
        refine hJ.mono ?_; rintro e w3 ⟨rfl, b3⟩
        clear hJ
        go_wp2
        go_returns
        exact ⟨by rw [HJT.out, ← bytes_app, ← bytes_app]; rfl, hb.trans (b3.mono hb.size)⟩
  · have HO := Lib.hid ho
    rw [ho, if_neg (by decide)]
    clear ho
    go_enter Tryd.func7, Tryd.ntmps7
    obtain ⟨v0, hv0⟩ : ∃ v, v = w.alloc (.cells #[.int .i64 R, .int .i64 C, .slice A l.length cap, .int .i64 p, .int .i64 q, .int .i64 bl, .int .i64 rd, .int .i64 nx] 34) := ⟨_, rfl⟩; have X0 : Whole v0 w.heap.size 34 [.int .i64 R, .int .i64 C, .slice A l.length cap, .int .i64 p, .int .i64 q, .int .i64 bl, .int .i64 rd, .int .i64 nx] := (by rw [hv0]; exact heap_alloc_new w _); have hb : Below w.heap.size w v0 := (by rw [hv0]; exact (Below.refl _ _).alloc (Nat.le_refl _) _); have HV := Lib.hid hv0.symm; clear hv0; go_upto_region 1 with (fail); rewrite [HV.out]; clear HV; have hy := X0.lt
    have X0k0 : v0.cell? ⟨w.heap.size, 0, none⟩ = some (.int .i64 R) := (X0.cell 0).trans rfl; have X0k1 : v0.cell? ⟨w.heap.size, 1, none⟩ = some (.int .i64 C) := (X0.cell 1).trans rfl; have X0k2 : v0.cell? ⟨w.heap.size, 2, none⟩ = some (.slice A l.length cap) := (X0.cell 2).trans rfl; have X0k3 : v0.cell? ⟨w.heap.size, 3, none⟩ = some (.int .i64 p) := (X0.cell 3).trans rfl; have X0k4 : v0.cell? ⟨w.heap.size, 4, none⟩ = some (.int .i64 q) := (X0.cell 4).trans rfl; have X0k5 : v0.cell? ⟨w.heap.size, 5, none⟩ = some (.int .i64 bl) := (X0.cell 5).trans rfl; have X0k6 : v0.cell? ⟨w.heap.size, 6, none⟩ = some (.int .i64 rd) := (X0.cell 6).trans rfl; have X0k7 : v0.cell? ⟨w.heap.size, 7, none⟩ = some (.int .i64 nx) := (X0.cell 7).trans rfl
    go_wp2_with fail
    refine (impl_IsMachine _ _ _ _ l _ _ _ _ _ _ hn ((hr.below hb).mono hb.size)).mono ?_; rintro e w1 ⟨rfl, b1⟩
    clear X0k0 X0k1 X0k2 X0k3 X0k4 X0k5 X0k6 X0k7
    (replace X0 := X0.below b1 X0.lt; replace hb := hb.trans (b1.mono hb.size); have hy := X0.lt; clear b1)
    rewrite [HO.out]
    go_wp2
    go_returns
    exact ⟨rfl, hb⟩
end Go.Proofs.YtpfjbecpfdgnpabDoor
