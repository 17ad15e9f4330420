/- CountEnds: the model's and the program's. -/
import Derived.BigQuiet
import Derived.Deep.Cut
import Derived.Test.YtlambflmabecfaaLogG
namespace Go.Proofs.Ytlambflmabecfaa
open Go.ChangeShapes Go.WideShapes Go.ChangeAt Go.RowKit Go.Joins Go.Deep
set_option linter.unusedSimpArgs false
set_option linter.unusedVariables false
set_option maxRecDepth 100000
set_option maxHeartbeats 4000000
def cntK (l : List LE) (k : Nat) (e : Int) : Nat := ((l.take k).filter fun x => decide (x.2.1 = e)).length
def cntL (l : List LE) (k : Nat) : List Int := [(cntK l k 1 : Int), (cntK l k 2 : Int), (cntK l k 3 : Int)]
def cntO (l : List LE) : List Int := if okLog l then cntL l l.length else []
theorem cntO_len (l : List LE) : (cntO l).length ≤ 3 := by
  unfold cntO
  split
  · exact Nat.le_refl _
  · exact Nat.zero_le _
theorem cntK_step {l : List LE} {k : Nat} (h : k < l.length) (e : Int) : cntK l (k + 1) e = if l[k].2.1 = e then cntK l k e + 1 else cntK l k e := by
  unfold cntK
  rw [List.take_succ_eq_append_getElem h, List.filter_append, List.length_append]
  split
  · next h1 => rw [List.filter_cons_of_pos (by simpa using h1)]; rfl
  · next h1 => rw [List.filter_cons_of_neg (by simpa using h1)]; rfl
theorem cntK_le (l : List LE) (k : Nat) (e : Int) : cntK l k e ≤ k := by
  unfold cntK
  exact Nat.le_trans (List.length_filter_le _ _) (by rw [List.length_take]; omega)
theorem cntL_1 {l : List LE} {k : Nat} (h : k < l.length) (e : l[k].2.1 = 1) : ints (cntL l (k + 1)) = [.int .i64 ((cntK l k 1 : Int) + 1), .int .i64 (cntK l k 2 : Int), .int .i64 (cntK l k 3 : Int)] := by
  unfold cntL
  rw [cntK_step h, cntK_step h, cntK_step h, e, if_pos rfl, if_neg (by decide), if_neg (by decide)]
  rfl
theorem cntL_2 {l : List LE} {k : Nat} (h : k < l.length) (e : l[k].2.1 = 2) : ints (cntL l (k + 1)) = [.int .i64 (cntK l k 1 : Int), .int .i64 ((cntK l k 2 : Int) + 1), .int .i64 (cntK l k 3 : Int)] := by
  unfold cntL
  rw [cntK_step h, cntK_step h, cntK_step h, e, if_neg (by decide), if_pos rfl, if_neg (by decide)]
  rfl
theorem cntL_3 {l : List LE} {k : Nat} (h : k < l.length) (e : l[k].2.1 = 3) : ints (cntL l (k + 1)) = [.int .i64 (cntK l k 1 : Int), .int .i64 (cntK l k 2 : Int), .int .i64 ((cntK l k 3 : Int) + 1)] := by
  unfold cntL
  rw [cntK_step h, cntK_step h, cntK_step h, e, if_neg (by decide), if_neg (by decide), if_pos rfl]
  rfl
theorem run_make_three (w : World) : (Instr.makeSlice 47 (.int .i64 3) (.int .i64 3)).run Try.prog w = .ok (.slice (some ⟨w.heap.size, 0, none⟩) 3 3) (w.alloc (.cells #[.int .i64 0, .int .i64 0, .int .i64 0] 3)) := run_make_ints 3 (by omega) w
theorem PostL.three {w w' : World} {l : List Int} {g : Nat} (h3 : l.length = 3) (X : Whole w' g 3 (ints l)) (hg : w.heap.size ≤ g) (b : Below w.heap.size w w') : PostL w l true (.returned (.tuple #[.slice (some ⟨g, 0, none⟩) 3 3, .bool true])) w' :=
  ⟨some ⟨g, 0, none⟩, 3, by rw [h3], X.own, fun a ha => by cases ha; exact hg, b⟩
theorem spec_CountEnds (A : Option Addr) (cap : Nat) (l : List LE) (w : World) (hn : l.length ≤ 1048576) (hr : Rd w w.heap.size A (flatL l)) :
    Calls Try.prog 23 #[.slice A l.length cap] w (PostL w (cntO l) (okLog l)) := by
  go_enter Try.func23, Try.ntmps23
  go_wp2_with fail
  refine (spec_loGood _ _ _ _ hn hr).mono ?_; rintro e w1 ⟨rfl, b1⟩
  rcases Bool.eq_false_or_eq_true (okLog l) with h1 | h1
  · have HC := Lib.hid (show cntO l = cntL l l.length by unfold cntO; rw [h1]; rfl)
    have HO := Lib.hid h1
    have HA := Lib.hid (okLog_parts h1).2
    rewrite [h1]
    clear h1
    have hmk := run_make_three
    go_wp2_with fail
    go_loopw [13] (fun i wr => ∃ k : Nat, k ≤ l.length ∧ i = .int .i64 k ∧ Whole wr w1.heap.size 3 (ints (cntL l k)) ∧ Below w.heap.size w wr) (fun i _ => l.length - (intOf i).toNat)
    case atStart => exact ⟨0, Nat.zero_le _, rfl, heap_alloc_new w1 _, b1.alloc b1.size _⟩
    case round =>
      clear hmk
      obtain ⟨k, hk, rfl, X, hb⟩ := hrel
      have hs := hb.size
      by_cases hlt : k < l.length
      · (obtain ⟨b, o, rfl, hbl, hc⟩ := hr (by rw [flatL_len]; omega); obtain ⟨a0, a1, a2, a3⟩ := flatL_at l k hlt; have hc0 : wr.cell? ⟨b, o + k * 4, none⟩ = some (.int .i64 l[k].1) := (hb.cell (p := ⟨b, _, none⟩) hbl).trans (hc _ _ a0); have hc1 : wr.cell? ⟨b, o + k * 4 + 1, none⟩ = some (.int .i64 l[k].2.1) := (hb.cell (p := ⟨b, _, none⟩) hbl).trans (hc _ _ a1); have hc2 : wr.cell? ⟨b, o + k * 4 + 2, none⟩ = some (.int .i64 l[k].2.2.1) := (hb.cell (p := ⟨b, _, none⟩) hbl).trans (hc _ _ a2); have hc3 : wr.cell? ⟨b, o + k * 4 + 3, none⟩ = some (.int .i64 l[k].2.2.2) := (hb.cell (p := ⟨b, _, none⟩) hbl).trans (hc _ _ a3); clear a0 a1 a2 a3)
        have hE := (okE1_parts (HA.out l[k] (List.getElem_mem hlt))).2.1
        have hC1 := Lib.hid (cntL_1 hlt)
        have hC2 := Lib.hid (cntL_2 hlt)
        have hC3 := Lib.hid (cntL_3 hlt)
        have k1 := cntK_le l k 1
        have k2 := cntK_le l k 2
        have k3 := cntK_le l k 3
        have X' : Whole wr w1.heap.size 3 [.int .i64 (cntK l k 1 : Int), .int .i64 (cntK l k 2 : Int), .int .i64 (cntK l k 3 : Int)] := X
        clear hc hr X
        generalize cntK l k 1 = n1 at *
        generalize cntK l k 2 = n2 at *
        generalize cntK l k 3 = n3 at *
        (generalize l[k].1 = x at *; generalize l[k].2.1 = y at *; generalize l[k].2.2.1 = z at *; generalize l[k].2.2.2 = u at *)
        have hgl := X'.lt
        have bl : Below wr.heap.size wr (wr.alloc (.cells #[.int .i64 x, .int .i64 y, .int .i64 z, .int .i64 u] 61)) := (Below.refl _ _).alloc (Nat.le_refl _) _
        have Xl := X'.alloc (.cells #[.int .i64 x, .int .i64 y, .int .i64 z, .int .i64 u] 61)
        have hbl2 := hb.trans (bl.mono hs)
        have hcx : (wr.alloc (.cells #[.int .i64 x, .int .i64 y, .int .i64 z, .int .i64 u] 61)).cell? ⟨wr.heap.size, 1, none⟩ = some (.int .i64 y) := Whole.cell (xs := [.int .i64 x, .int .i64 y, .int .i64 z, .int .i64 u]) (heap_alloc_new wr _) 1
        clear bl X'
        go_upto_region 7 with (fail)
        generalize wr.alloc (.cells #[.int .i64 x, .int .i64 y, .int .i64 z, .int .i64 u] 61) = wl at *
        rcases (show y = 1 ∨ y = 2 ∨ y = 3 by omega) with rfl | rfl | rfl
        · have HX := Lib.hid (hC1.out rfl)
          have q0 : wl.cell? ⟨w1.heap.size, 0, none⟩ = some (.int .i64 (n1 : Int)) := (Xl.cell 0).trans rfl
          have f0 := Xl.frozen 0
          clear hC1 hC2 hC3
          go_wp2
          refine ⟨⟨k + 1, by omega, by go_num, by rw [HX.out]; exact Xl.set 0 _, hbl2.setCell (p := ⟨w1.heap.size, 0, none⟩) b1.size _⟩, by simp [intOf]; omega⟩
        · have HX := Lib.hid (hC2.out rfl)
          have q0 : wl.cell? ⟨w1.heap.size, 1, none⟩ = some (.int .i64 (n2 : Int)) := (Xl.cell 1).trans rfl
          have f0 := Xl.frozen 1
          clear hC1 hC2 hC3
          go_wp2
          refine ⟨⟨k + 1, by omega, by go_num, by rw [HX.out]; exact Xl.set 1 _, hbl2.setCell (p := ⟨w1.heap.size, 1, none⟩) b1.size _⟩, by simp [intOf]; omega⟩
        · have HX := Lib.hid (hC3.out rfl)
          have q0 : wl.cell? ⟨w1.heap.size, 2, none⟩ = some (.int .i64 (n3 : Int)) := (Xl.cell 2).trans rfl
          have f0 := Xl.frozen 2
          clear hC1 hC2 hC3
          go_wp2
          refine ⟨⟨k + 1, by omega, by go_num, by rw [HX.out]; exact Xl.set 2 _, hbl2.setCell (p := ⟨w1.heap.size, 2, none⟩) b1.size _⟩, by simp [intOf]; omega⟩
      · obtain rfl : k = l.length := by omega
        go_wp2
        go_returns
        rewrite [HC.out, HO.out]
        exact PostL.three rfl X b1.size hb
  · have HC := Lib.hid (show cntO l = [] by unfold cntO; rw [h1]; rfl)
    have HO := Lib.hid h1
    rewrite [h1]
    clear h1
    go_wp2
    go_returns
    rewrite [HC.out, HO.out]
    exact PostL.none_ b1
theorem impl_CountEnds (A : Option Addr) (cap : Nat) (l : List LE) (w : World) (hn : l.length ≤ 1048576) (hr : Rd w w.heap.size A (flatL l)) :
    Calls Try.prog 24 #[.slice A l.length cap] w (PostL w (cntO l) (okLog l)) := by
  go_enter Try.func24, Try.ntmps24
  go_wp2_with fail
  refine (impl_IsLog _ _ _ _ hn hr).mono ?_; rintro e w1 ⟨rfl, b1⟩
  rcases Bool.eq_false_or_eq_true (okLog l) with h1 | h1
  · have HC := Lib.hid (show cntO l = cntL l l.length by unfold cntO; rw [h1]; rfl)
    have HO := Lib.hid h1
    have HA := Lib.hid (okLog_parts h1).2
    rewrite [h1]
    clear h1
    have hmk := run_make_three
    go_wp2_with fail
    go_loopw [13] (fun i wr => ∃ k : Nat, k ≤ l.length ∧ i = .int .i64 k ∧ Whole wr w1.heap.size 3 (ints (cntL l k)) ∧ Below w.heap.size w wr) (fun i _ => l.length - (intOf i).toNat)
    case atStart => exact ⟨0, Nat.zero_le _, rfl, heap_alloc_new w1 _, b1.alloc b1.size _⟩
    case round =>
      clear hmk
      obtain ⟨k, hk, rfl, X, hb⟩ := hrel
      have hs := hb.size
      by_cases hlt : k < l.length
      · (obtain ⟨b, o, rfl, hbl, hc⟩ := hr (by rw [flatL_len]; omega); obtain ⟨a0, a1, a2, a3⟩ := flatL_at l k hlt; have hc0 : wr.cell? ⟨b, o + k * 4, none⟩ = some (.int .i64 l[k].1) := (hb.cell (p := ⟨b, _, none⟩) hbl).trans (hc _ _ a0); have hc1 : wr.cell? ⟨b, o + k * 4 + 1, none⟩ = some (.int .i64 l[k].2.1) := (hb.cell (p := ⟨b, _, none⟩) hbl).trans (hc _ _ a1); have hc2 : wr.cell? ⟨b, o + k * 4 + 2, none⟩ = some (.int .i64 l[k].2.2.1) := (hb.cell (p := ⟨b, _, none⟩) hbl).trans (hc _ _ a2); have hc3 : wr.cell? ⟨b, o + k * 4 + 3, none⟩ = some (.int .i64 l[k].2.2.2) := (hb.cell (p := ⟨b, _, none⟩) hbl).trans (hc _ _ a3); clear a0 a1 a2 a3)
        have hE := (okE1_parts (HA.out l[k] (List.getElem_mem hlt))).2.1
        have hC1 := Lib.hid (cntL_1 hlt)
        have hC2 := Lib.hid (cntL_2 hlt)
        have hC3 := Lib.hid (cntL_3 hlt)
        have k1 := cntK_le l k 1
        have k2 := cntK_le l k 2
        have k3 := cntK_le l k 3
        have X' : Whole wr w1.heap.size 3 [.int .i64 (cntK l k 1 : Int), .int .i64 (cntK l k 2 : Int), .int .i64 (cntK l k 3 : Int)] := X
        clear hc hr X
        generalize cntK l k 1 = n1 at *
        generalize cntK l k 2 = n2 at *
        generalize cntK l k 3 = n3 at *
        (generalize l[k].1 = x at *; generalize l[k].2.1 = y at *; generalize l[k].2.2.1 = z at *; generalize l[k].2.2.2 = u at *)
        have hgl := X'.lt
        have bl : Below wr.heap.size wr (wr.alloc (.cells #[.int .i64 x, .int .i64 y, .int .i64 z, .int .i64 u] 61)) := (Below.refl _ _).alloc (Nat.le_refl _) _
        have Xl := X'.alloc (.cells #[.int .i64 x, .int .i64 y, .int .i64 z, .int .i64 u] 61)
        have hbl2 := hb.trans (bl.mono hs)
        have hcx : (wr.alloc (.cells #[.int .i64 x, .int .i64 y, .int .i64 z, .int .i64 u] 61)).cell? ⟨wr.heap.size, 1, none⟩ = some (.int .i64 y) := Whole.cell (xs := [.int .i64 x, .int .i64 y, .int .i64 z, .int .i64 u]) (heap_alloc_new wr _) 1
        clear bl X'
        go_upto_region 7 with (fail)
        generalize wr.alloc (.cells #[.int .i64 x, .int .i64 y, .int .i64 z, .int .i64 u] 61) = wl at *
        rcases (show y = 1 ∨ y = 2 ∨ y = 3 by omega) with rfl | rfl | rfl
        · have HX := Lib.hid (hC1.out rfl)
          have q0 : wl.cell? ⟨w1.heap.size, 0, none⟩ = some (.int .i64 (n1 : Int)) := (Xl.cell 0).trans rfl
          have f0 := Xl.frozen 0
          clear hC1 hC2 hC3
          go_wp2
          refine ⟨⟨k + 1, by omega, by go_num, by rw [HX.out]; exact Xl.set 0 _, hbl2.setCell (p := ⟨w1.heap.size, 0, none⟩) b1.size _⟩, by simp [intOf]; omega⟩
        · have HX := Lib.hid (hC2.out rfl)
          have q0 : wl.cell? ⟨w1.heap.size, 1, none⟩ = some (.int .i64 (n2 : Int)) := (Xl.cell 1).trans rfl
          have f0 := Xl.frozen 1
          clear hC1 hC2 hC3
          go_wp2
          refine ⟨⟨k + 1, by omega, by go_num, by rw [HX.out]; exact Xl.set 1 _, hbl2.setCell (p := ⟨w1.heap.size, 1, none⟩) b1.size _⟩, by simp [intOf]; omega⟩
        · have HX := Lib.hid (hC3.out rfl)
          have q0 : wl.cell? ⟨w1.heap.size, 2, none⟩ = some (.int .i64 (n3 : Int)) := (Xl.cell 2).trans rfl
          have f0 := Xl.frozen 2
          clear hC1 hC2 hC3
          go_wp2
          refine ⟨⟨k + 1, by omega, by go_num, by rw [HX.out]; exact Xl.set 2 _, hbl2.setCell (p := ⟨w1.heap.size, 2, none⟩) b1.size _⟩, by simp [intOf]; omega⟩
      · obtain rfl : k = l.length := by omega
        go_wp2
        go_returns
        rewrite [HC.out, HO.out]
        exact PostL.three rfl X b1.size hb
  · have HC := Lib.hid (show cntO l = [] by unfold cntO; rw [h1]; rfl)
    have HO := Lib.hid h1
    rewrite [h1]
    clear h1
    go_wp2
    go_returns
    rewrite [HC.out, HO.out]
    exact PostL.none_ b1
end Go.Proofs.Ytlambflmabecfaa
