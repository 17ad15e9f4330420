/- slices.Repeat of a list of one number. -/
import Derived.Laws.CopyOwn
import Derived.Test.YtdpgbgniejlilaaCountG
namespace Go.Proofs.Ytdpgbgniejlilaa
open Go.ChangeShapes Go.WideShapes Go.ChangeAt Go.RowKit Go.Joins Go.Deep
set_option linter.unusedSimpArgs false
set_option linter.unusedVariables false
set_option maxRecDepth 100000
set_option maxHeartbeats 2000000
def repR (v : Int) (n m : Nat) : List Value := List.replicate m (.int .i64 v) ++ List.replicate (n - m) (.int .i64 0)
theorem repR_len {v : Int} {n m : Nat} (h : m ≤ n) : (repR v n m).length = n := by simp [repR]; omega
theorem repR_splice {v : Int} {n m c : Nat} (h : m + c ≤ n) : splice (repR v n m) m (List.replicate c (.int .i64 v)) = repR v n (m + c) := by
  unfold splice repR
  rw [List.take_append_of_le_length (by simp), List.take_of_length_le (by simp), List.length_replicate, List.drop_append, List.drop_eq_nil_of_le (by simp), List.nil_append, List.length_replicate, List.drop_replicate, ← List.append_assoc, List.replicate_append_replicate]
  congr 2
  omega
theorem repR_at {v : Int} {n m j : Nat} (h : j < m) : (repR v n m)[j]? = some (.int .i64 v) := by
  unfold repR
  rw [List.getElem?_append_left (by simpa using h), List.getElem?_replicate, if_pos h]
theorem intSize : ((Try.prog.info? 3).map (·.size)) = some 1 := by
  obtain ⟨i0, hi, hz0, hz1, hz2⟩ := info_parts intInfo
  rw [hi]
  simp [hz1]
theorem wpList_copy_rep {w : World} {ops : Array Oper} {rest : List Oper} {o : Oper} {a : Act} {Q : Exit → Act → World → Prop} (hgd : o.guard = none) (d s : Operand)
    (ho : o.op = .call { callee := .builtin .copy, args := #[d, s], argTypes := #[55, 55] }) (g off dLen dCap sb so sLen sCap : Nat) (hd : a.eval d = .slice (some ⟨g, off, none⟩) dLen dCap) (hs : a.eval s = .slice (some ⟨sb, so, none⟩) sLen sCap)
    (cur : List Value) (hg : Whole w g 3 cur) (c : Nat) (v : Int) (hn : c = min sLen dLen) (hsrc : ∀ j, j < c → w.cell? ⟨sb, so + j, none⟩ = some (.int .i64 v)) (hfit : off + c ≤ cur.length) (B : Nat) (w0 : World) (hb : Below B w0 w) (hBg : B ≤ g)
    (h : ∀ w', Hid (Whole w' g 3 (splice cur off (List.replicate c (.int .i64 v)))) → Below B w0 w' → wpList Try.prog ops Q rest (a.put o.dst (goInt c)) w') : wpList Try.prog ops Q (o :: rest) a w :=
    wpList_copy_splice hgd d s _ _ ho 3 Try.underlying55 intSize _ _ dLen dCap sLen sCap hd hs g off cur 3 hg (List.replicate c (.int .i64 v))
      (by rw [List.length_replicate]; exact hn) (fun _ => ⟨rfl, ⟨sb, so, none⟩, rfl, fun j u hu => by
        have hj := (List.getElem?_eq_some_iff.1 hu).1
        rw [List.length_replicate] at hj
        rw [List.getElem?_replicate, if_pos hj] at hu
        rw [add_plain, hsrc j hj]
        exact hu⟩) (by rw [List.length_replicate]; exact hfit) (fun u hu => by rw [List.mem_replicate] at hu; rw [hu.2]; rfl) B w0 hb hBg (fun w' h1 h2 => by rw [List.length_replicate]; exact h w' h1 h2)
theorem step_copy_rep {ops : Array Oper} {o : Oper} {a : Act} {w : World} {K : Act → World → Prop} {Q : Exit → Act → World → Prop} {E : Prop} (hgd : o.guard = none) (d s : Operand)
    (ho : o.op = .call { callee := .builtin .copy, args := #[d, s], argTypes := #[55, 55] }) (g off dLen dCap sb so sLen sCap : Nat) (hd : a.eval d = .slice (some ⟨g, off, none⟩) dLen dCap) (hs : a.eval s = .slice (some ⟨sb, so, none⟩) sLen sCap)
    (cur : List Value) (hg : Whole w g 3 cur) (c : Nat) (v : Int) (hn : c = min sLen dLen) (hsrc : ∀ j, j < c → w.cell? ⟨sb, so + j, none⟩ = some (.int .i64 v)) (hfit : off + c ≤ cur.length) (B : Nat) (w0 : World) (hb : Below B w0 w) (hBg : B ≤ g)
    (h : ∀ w', Hid (Whole w' g 3 (splice cur off (List.replicate c (.int .i64 v)))) → Below B w0 w' → K (a.put o.dst (goInt c)) w') : if Region.wanted o (yielded ops a.tmps) = true then Oper.wp Try.prog o a w K Q else E :=
    step_copy_splice hgd d s _ _ ho 3 Try.underlying55 intSize _ _ dLen dCap sLen sCap hd hs g off cur 3 hg (List.replicate c (.int .i64 v))
      (by rw [List.length_replicate]; exact hn) (fun _ => ⟨rfl, ⟨sb, so, none⟩, rfl, fun j u hu => by
        have hj := (List.getElem?_eq_some_iff.1 hu).1
        rw [List.length_replicate] at hj
        rw [List.getElem?_replicate, if_pos hj] at hu
        rw [add_plain, hsrc j hj]
        exact hu⟩) (by rw [List.length_replicate]; exact hfit) (fun u hu => by rw [List.mem_replicate] at hu; rw [hu.2]; rfl) B w0 hb hBg (fun w' h1 h2 => by rw [List.length_replicate]; exact h w' h1 h2)
end Go.Proofs.Ytdpgbgniejlilaa
