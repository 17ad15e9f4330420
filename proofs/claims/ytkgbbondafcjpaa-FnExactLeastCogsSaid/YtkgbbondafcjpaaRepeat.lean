/- slices.Repeat of a list of one number. -/
import Derived.Laws.CopyOwn
import Derived.Test.YtkgbbondafcjpaaCountG
namespace Go.Proofs.Ytkgbbondafcjpaa
open Go.ChangeShapes Go.WideShapes Go.ChangeAt Go.RowKit Go.Joins Go.Deep
set_option linter.unusedSimpArgs false
set_option linter.unusedVariables false
set_option maxRecDepth 100000
set_option maxHeartbeats 2000000
def repR (v : Int) (n m : Nat) : List Value := List.replicate m (.int .i64 v) ++ List.replicate (n - m) (.int .i64 0)
theorem repR_len {v : Int} {n m : Nat} (h : m ≤ n) : (repR v n m).length = n := by simp [repR]; omega
theorem repR_splice {v : Int} {n m c : Nat} (h : m + c ≤ n) : splice (repR v n m) m (List.replicate c (.int .i64 v)) = repR v n (m + c) := by
  unfold splice repR
  rw [List.take_append_of_le_length (by simp), List.take_of_length_le (by simp), List.length_replicate, List.drop_append, List.drop_eq_nil_of_le (by simp), List.nil_append, List.length_replicate, List.drop_replicate, ← List.append_assoc, List.replicate_append_replicate]
  congr 2
  omega
theorem repR_at {v : Int} {n m j : Nat} (h : j < m) : (repR v n m)[j]? = some (.int .i64 v) := by
  unfold repR
  rw [List.getElem?_append_left (by simpa using h), List.getElem?_replicate, if_pos h]
theorem intSize : ((Try.prog.info? 3).map (·.size)) = some 1 := by
  obtain ⟨i0, hi, hz0, hz1, hz2⟩ := info_parts intInfo
  rw [hi]
  simp [hz1]
theorem wpList_copy_rep {w : World} {ops : Array Oper} {rest : List Oper} {o : Oper} {a : Act} {Q : Exit → Act → World → Prop} (hgd : o.guard = none) (d s : Operand)
    (ho : o.op = .call { callee := .builtin .copy, args := #[d, s], argTypes := #[26, 26] }) (g off dLen dCap sb so sLen sCap : Nat) (hd : a.eval d = .slice (some ⟨g, off, none⟩) dLen dCap) (hs : a.eval s = .slice (some ⟨sb, so, none⟩) sLen sCap)
    (cur : List Value) (hg : Whole w g 3 cur) (c : Nat) (v : Int) (hn : c = min sLen dLen) (hsrc : ∀ j, j < c → w.cell? ⟨sb, so + j, none⟩ = some (.int .i64 v)) (hfit : off + c ≤ cur.length) (B : Nat) (w0 : World) (hb : Below B w0 w) (hBg : B ≤ g)
    (h : ∀ w', Hid (Whole w' g 3 (splice cur off (List.replicate c (.int .i64 v)))) → Below B w0 w' → wpList Try.prog ops Q rest (a.put o.dst (goInt c)) w') : wpList Try.prog ops Q (o :: rest) a w :=
    wpList_copy_splice hgd d s _ _ ho 3 Try.underlying26 intSize _ _ dLen dCap sLen sCap hd hs g off cur 3 hg (List.replicate c (.int .i64 v))
      (by rw [List.length_replicate]; exact hn) (fun _ => ⟨rfl, ⟨sb, so, none⟩, rfl, fun j u hu => by
        have hj := (List.getElem?_eq_some_iff.1 hu).1
        rw [List.length_replicate] at hj
        rw [List.getElem?_replicate, if_pos hj] at hu
        rw [add_plain, hsrc j hj]
        exact hu⟩) (by rw [List.length_replicate]; exact hfit) (fun u hu => by rw [List.mem_replicate] at hu; rw [hu.2]; rfl) B w0 hb hBg (fun w' h1 h2 => by rw [List.length_replicate]; exact h w' h1 h2)
theorem step_copy_rep {ops : Array Oper} {o : Oper} {a : Act} {w : World} {K : Act → World → Prop} {Q : Exit → Act → World → Prop} {E : Prop} (hgd : o.guard = none) (d s : Operand)
    (ho : o.op = .call { callee := .builtin .copy, args := #[d, s], argTypes := #[26, 26] }) (g off dLen dCap sb so sLen sCap : Nat) (hd : a.eval d = .slice (some ⟨g, off, none⟩) dLen dCap) (hs : a.eval s = .slice (some ⟨sb, so, none⟩) sLen sCap)
    (cur : List Value) (hg : Whole w g 3 cur) (c : Nat) (v : Int) (hn : c = min sLen dLen) (hsrc : ∀ j, j < c → w.cell? ⟨sb, so + j, none⟩ = some (.int .i64 v)) (hfit : off + c ≤ cur.length) (B : Nat) (w0 : World) (hb : Below B w0 w) (hBg : B ≤ g)
    (h : ∀ w', Hid (Whole w' g 3 (splice cur off (List.replicate c (.int .i64 v)))) → Below B w0 w' → K (a.put o.dst (goInt c)) w') : if Region.wanted o (yielded ops a.tmps) = true then Oper.wp Try.prog o a w K Q else E :=
    step_copy_splice hgd d s _ _ ho 3 Try.underlying26 intSize _ _ dLen dCap sLen sCap hd hs g off cur 3 hg (List.replicate c (.int .i64 v))
      (by rw [List.length_replicate]; exact hn) (fun _ => ⟨rfl, ⟨sb, so, none⟩, rfl, fun j u hu => by
        have hj := (List.getElem?_eq_some_iff.1 hu).1
        rw [List.length_replicate] at hj
        rw [List.getElem?_replicate, if_pos hj] at hu
        rw [add_plain, hsrc j hj]
        exact hu⟩) (by rw [List.length_replicate]; exact hfit) (fun u hu => by rw [List.mem_replicate] at hu; rw [hu.2]; rfl) B w0 hb hBg (fun w' h1 h2 => by rw [List.length_replicate]; exact h w' h1 h2)
theorem mul_one_n {n : Nat} (h : n ≤ 90) (w : World) : Calls Try.prog 81 #[.int .u64 1, .int .u64 (n : Int)] w fun e w' => e = .returned (.tuple #[.int .u64 0, .int .u64 (n : Int)]) ∧ w' = w := by
  have hc := Try.bits_Mul 1 n (by omega) (by omega) w
  rw [Nat.one_mul, Nat.div_eq_of_lt (show n < 18446744073709551616 by omega), Nat.mod_eq_of_lt (show n < 18446744073709551616 by omega)] at hc
  exact hc
theorem impl_Repeat (b o cap0 : Nat) (v : Int) (n : Nat) (w : World) (hn : n ≤ 90) (hp : 1 ≤ n) (hc : w.cell? ⟨b, o, none⟩ = some (.int .i64 v)) :
    Calls Try.prog 49 #[.slice (some ⟨b, o, none⟩) 1 cap0, .int .i64 (n : Int)] w fun e w' => e = .returned (.slice (some ⟨w.heap.size, 0, none⟩) n n) ∧ Whole w' w.heap.size 3 (List.replicate n (.int .i64 v)) ∧ Below w.heap.size w w' := by
  have hmk := fun w => run_make_ints n (by omega) w
  have hb0 := lt_of_cell (a := ⟨b, o, none⟩) hc
  go_enter Try.func49, Try.ntmps49
  go_wp2_with fail
  refine (mul_one_n hn _).mono ?_; rintro e w1 ⟨rfl, rfl⟩
  go_upto_region 7 with (fail)
  have X0 : Whole (w1.alloc (.cells (zrow n).toArray 3)) w1.heap.size 3 (repR v n 0) := by
    have h : repR v n 0 = zrow n := by simp [repR, zrow]
    rw [h]
    exact heap_alloc_new w1 _
  have hb : Below w1.heap.size w1 (w1.alloc (.cells (zrow n).toArray 3)) := (Below.refl _ _).alloc (Nat.le_refl _) _
  have hc2 : (w1.alloc (.cells (zrow n).toArray 3)).cell? ⟨b, o, none⟩ = some (.int .i64 v) := (hb.cell (p := ⟨b, o, none⟩) hb0).trans hc
  generalize w1.alloc (.cells (zrow n).toArray 3) = w2 at *
  have hs0 : ∀ j, j < 1 → w2.cell? ⟨b, o + j, none⟩ = some (.int .i64 v) := fun j hj => by
    obtain rfl : j = 0 := by omega
    exact hc2
  have HX0 := Lib.hid X0
  have hlen0 := repR_len (v := v) (Nat.zero_le n)
  clear X0
  go_upto_region 8 with (first | (refine wpList_copy_rep rfl (.tmp 31) (.tmp 32) rfl w1.heap.size 0 n n b o 1 cap0 rfl rfl (repR v n 0) HX0.out 1 v (by omega) hs0 (by omega) w1.heap.size w1 hb (Nat.le_refl _) ?_; intro w3 HG3 hb3) | fail)
  have h1 := HG3.out
  rw [repR_splice (m := 0) (c := 1) (by omega)] at h1
  have X1 : Whole w3 w1.heap.size 3 (repR v n 1) := h1
  clear h1 HG3 HX0 hc2 hb hs0 hlen0
  go_wp2_with fail
  go_loopw [8] (fun t wr => ∃ m : Nat, t = .int .i64 m ∧ 1 ≤ m ∧ m ≤ n ∧ Whole wr w1.heap.size 3 (repR v n m) ∧ Below w1.heap.size w1 wr) (fun t _ => n - (intOf t).toNat)
  case atStart => exact ⟨1, rfl, Nat.le_refl _, hp, X1, hb3⟩
  case round =>
    clear X1 hb3
    obtain ⟨m, rfl, hm1, hmn, X1, hb⟩ := hrel
    by_cases hlt : m < n
    · have X1d : Whole wr.drew w1.heap.size 3 (repR v n m) := X1.below ((Below.refl _ _).drew) X1.lt
      have hbd : Below w1.heap.size w1 wr.drew := hb.drew
      have hs0 : ∀ j, j < min m (n - m) → wr.drew.cell? ⟨w1.heap.size, 0 + j, none⟩ = some (.int .i64 v) := fun j hj => by
        rw [Nat.zero_add, X1d.cell j, repR_at (by omega)]
      have HS0 := Lib.hid hs0
      have HX1 := Lib.hid X1d
      have HBD := Lib.hid hbd
      have hlen0 := repR_len (v := v) hmn
      have HSP := Lib.hid (repR_splice (v := v) (n := n) (m := m) (c := min m (n - m)) (by omega))
      have hnm : ¬ n = m := by omega
      clear X1 X1d hs0 hbd
      go_upto_region 9 with (fail)
      go_region_held3 (fun _ => True) (trivial) (first | (refine step_copy_rep (by rfl) (.tmp 41) (.tmp 44) (by rfl) w1.heap.size m (n - m) (n - m) w1.heap.size 0 m n (by simp [Act.eval, Act.put, hnm]) (by simp [Act.eval, Act.put]) (repR v n m) HX1.out (min m (n - m)) v rfl HS0.out (by omega) w1.heap.size w1 HBD.out (Nat.le_refl _) ?_; intro w4 HG4 hb4) | fail)
      have X4 : Whole w4 w1.heap.size 3 (repR v n (m + min m (n - m))) := by rw [← HSP.out]; exact HG4.out
      clear HS0 HX1 HBD HSP HG4
      have hwn : IntKind.i64.wrap ((m : Int) + ((min m (n - m) : Nat) : Int)) = ((m + min m (n - m) : Nat) : Int) := by rw [IntWalk.i64_in _ (by omega)]; omega
      go_wp2
      go_roundw
      case rel => exact ⟨m + min m (n - m), by first | rfl | go_num, by omega, by omega, X4, hb4⟩
      case measure => simp [intOf]; omega
    · obtain rfl : m = n := by omega
      have e : repR v m m = List.replicate m (.int .i64 v) := by simp [repR]
      rw [e] at X1
      go_wp2
      go_returns
      exact ⟨rfl, X1, hb⟩
end Go.Proofs.Ytkgbbondafcjpaa
