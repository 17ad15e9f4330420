/- Texts of boards: when a text is one, and of which board; a text cut at its newlines. -/
import Derived.Test.YtdcaohmcidmigaaParse0
namespace Go.Proofs.Ytdcaohmcidmigaa
open Go.ChangeShapes Go.WideShapes Go.ChangeAt Go.RowKit Go.Joins Go.Deep
set_option linter.unusedSimpArgs false
set_option linter.unusedVariables false
set_option maxRecDepth 100000
set_option maxHeartbeats 1000000
def prR (L : List UInt8) : Int := (L.count 10 : Int)
def prC (L : List UInt8) : Int := Lib.indexByte L 10
def okPl (c : Nat) (L : List UInt8) : Bool := (List.range L.length).all fun i => (L.getD i 0 == 10 && i % (c + 1) == c) || okB (L.getD i 0)
def okQ (L : List UInt8) : Bool := sizeB (prR L) (prC L) && decide ((L.length : Int) = prR L * (prC L + 1)) && okPl (prC L).toNat L
def prL (L : List UInt8) : List (Int × Int) := if okQ L then cellsB (L.filter (· != 10)) else []
theorem okPl_iff {c : Nat} {L : List UInt8} : okPl c L = true ↔ PlacesOk c L := by
  unfold okPl PlacesOk
  rw [List.all_eq_true]
  constructor
  · intro h i hi
    have := h i (List.mem_range.2 hi)
    simpa using this
  · intro h i hi
    have := h i (List.mem_range.1 hi)
    simpa using this
theorem okQ_rows {L : List UInt8} (h : okQ L = true) : ∃ rows, GoodRows (prC L).toNat rows ∧ L = glue rows ∧ (rows.length : Int) = prR L ∧ ((prC L).toNat : Int) = prC L := by
  unfold okQ at h
  rw [Bool.and_eq_true, Bool.and_eq_true, decide_eq_true_eq, okPl_iff, sizeB_iff] at h
  obtain ⟨⟨⟨h1, h2, h3, h4⟩, h5⟩, h6⟩ := h
  obtain ⟨c, hc⟩ : ∃ c : Nat, prC L = (c : Int) := ⟨(prC L).toNat, by omega⟩
  have hc2 : ((prC L).toNat : Int) = prC L := by omega
  rw [hc2]
  have hc3 : (prC L).toNat = c := by omega
  rw [hc3] at h6 ⊢
  rw [hc] at h5 h3 h4
  simp only [Int.toNat_natCast] at *
  have hl : L.length = L.count 10 * (c + 1) := by unfold prR at h5; exact_mod_cast h5
  obtain ⟨rows, e1, e2, e3⟩ := places_rows h6 hl rfl
  unfold prR at *
  exact ⟨rows, ⟨by omega, by omega, by omega, by omega, e2⟩, e3, by omega, by first | trivial | rfl⟩
theorem rows_okQ {c : Nat} {rows : List (List UInt8)} (h : GoodRows c rows) : okQ (glue rows) = true ∧ prR (glue rows) = (rows.length : Int) ∧ prC (glue rows) = (c : Int) ∧ prL (glue rows) = rows.flatMap cellsB := by
  have h1 : prR (glue rows) = (rows.length : Int) := by unfold prR; rw [glue_count (fun r hr => (h.row r hr).2)]
  have h2 : prC (glue rows) = (c : Int) := by
    unfold prC
    have := h.r1
    cases rows with
    | nil => simp at this
    | cons r rows =>
      rw [glue_cons, index_row _ (h.row r List.mem_cons_self).2, (h.row r List.mem_cons_self).1]
  have h3 : okQ (glue rows) = true := by
    unfold okQ
    rw [h1, h2, glue_len (fun r hr => (h.row r hr).1), Int.toNat_natCast, (okPl_iff).2 (glue_places h.row), sizeB_iff.2 ⟨by have := h.r1; omega, by have := h.r2; omega, by have := h.c1; omega, by have := h.c2; omega⟩]
    simp
  refine ⟨h3, h1, h2, ?_⟩
  unfold prL
  rw [h3, if_pos rfl, glue_filter (fun r hr => (h.row r hr).2)]
  unfold cellsB
  rw [List.map_flatten, List.flatMap_def]
theorem prL_len (L : List UInt8) : (prL L).length ≤ 1048576 := by
  rcases Bool.eq_false_or_eq_true (okQ L) with h | h
  · obtain ⟨rows, h1, h2, _⟩ := okQ_rows h
    have h3 := glue_len (fun r hr => (h1.row r hr).1)
    have h4 := Nat.mul_le_mul h1.r2 (show (prC L).toNat + 1 ≤ 10 by have := h1.c2; omega)
    unfold prL
    rw [h, if_pos rfl]
    unfold cellsB
    rw [List.length_map]
    have h5 := List.length_filter_le (· != (10 : UInt8)) L
    rw [← h2] at h3
    omega
  · unfold prL
    rw [h]
    simp
theorem flatMap_drop {c : Nat} : ∀ {rows : List (List UInt8)} (k : Nat), (∀ r ∈ rows, r.length = c) → k < rows.length → ((rows.flatMap cellsB).drop (k * c)).take c = cellsB (rows.getD k [])
  | [], k, _, h => absurd h (Nat.not_lt_zero k)
  | r :: rows, 0, h, _ => by
    rw [Nat.zero_mul, List.drop_zero, List.flatMap_cons]
    have hl : (cellsB r).length = c := by unfold cellsB; rw [List.length_map, h r List.mem_cons_self]
    rw [List.take_left' hl]
    rfl
  | r :: rows, k + 1, h, hk => by
    have hl : (cellsB r).length = c := by unfold cellsB; rw [List.length_map, h r List.mem_cons_self]
    rw [List.flatMap_cons, Nat.succ_mul, Nat.add_comm (k * c) c, ← List.drop_drop, List.drop_left' hl]
    exact flatMap_drop k (fun x hx => h x (List.mem_cons_of_mem _ hx)) (by simpa using hk)
theorem textOf_cells {r : List UInt8} (h : r.all okB = true) : textOf (cellsB r) = r := by
  unfold textOf cellsB
  rw [List.map_map]
  conv => rhs; rw [← List.map_id r]
  exact List.map_congr_left fun b hb => (okB_cell (List.all_eq_true.1 h b hb)).2
theorem rows_cells_len {c : Nat} : ∀ {rows : List (List UInt8)}, (∀ r ∈ rows, r.length = c) → (rows.flatMap cellsB).length = rows.length * c
  | [], _ => by simp
  | r :: rows, h => by
    rw [List.flatMap_cons, List.length_append, rows_cells_len (fun x hx => h x (List.mem_cons_of_mem _ hx)), List.length_cons, Nat.succ_mul]
    have hl : (cellsB r).length = c := by unfold cellsB; rw [List.length_map, h r List.mem_cons_self]
    omega
theorem rows_board {c : Nat} {rows : List (List UInt8)} (h : GoodRows c rows) : goodB (rows.length : Int) (c : Int) (rows.flatMap cellsB) = true ∧ rowsText (c : Int) (rows.flatMap cellsB) rows.length = glue rows := by
  refine ⟨goodB_iff.2 ⟨sizeB_iff.2 ⟨by have := h.r1; omega, by have := h.r2; omega, by have := h.c1; omega, by have := h.c2; omega⟩, by rw [rows_cells_len (fun r hr => (h.row r hr).1)]; push_cast; rfl, fun x hx => ?_⟩, ?_⟩
  · obtain ⟨r, hr, hx⟩ := List.mem_flatMap.1 hx
    unfold cellsB at hx
    obtain ⟨b, hb, rfl⟩ := List.mem_map.1 hx
    exact (okB_cell (List.all_eq_true.1 (h.row r hr).2 b hb)).1
  · unfold rowsText glue
    have e : rows = (List.range rows.length).map fun k => rows.getD k [] := by
      refine List.ext_getElem (by simp) fun i h1 h2 => ?_
      rw [List.getElem_map, List.getElem_range, List.getD_eq_getElem?_getD, List.getElem?_eq_getElem h1]
      rfl
    conv => rhs; rw [e]
    have hfd := fun k hk' => flatMap_drop (c := c) (rows := rows) k (fun r hr => (h.row r hr).1) hk'
    rw [List.flatMap_map]
    generalize rows.flatMap cellsB = cells at *
    rw [List.flatMap_def, List.flatMap_def]
    refine congrArg List.flatten (List.map_congr_left fun k hk => ?_)
    have hk' := List.mem_range.1 hk
    unfold rowL piece
    simp only [Int.toNat_natCast]
    rw [show (k + 1) * c - k * c = c by rw [Nat.succ_mul]; omega, hfd k hk', textOf_cells]
    rw [List.getD_eq_getElem?_getD, List.getElem?_eq_getElem hk']
    exact (h.row _ (List.getElem_mem hk')).2
def splitG (b : UInt8) : List UInt8 → List UInt8 → List (List UInt8)
  | cur, [] => [cur]
  | cur, x :: xs => if x = b then cur :: splitG b [] xs else splitG b (cur ++ [x]) xs
theorem splitG_cons (b : UInt8) (cur : List UInt8) (x : UInt8) (xs : List UInt8) : splitG b cur (x :: xs) = if x = b then cur :: splitG b [] xs else splitG b (cur ++ [x]) xs := rfl
theorem splitG_row {b : UInt8} : ∀ (r cur rest : List UInt8), b ∉ r → splitG b cur (r ++ b :: rest) = (cur ++ r) :: splitG b [] rest
  | [], cur, rest, _ => by simp [splitG]
  | x :: r, cur, rest, h => by
    rw [List.mem_cons, not_or] at h
    show (if x = b then _ else splitG b (cur ++ [x]) (r ++ b :: rest)) = _
    rw [if_neg (fun e => h.1 e.symm), splitG_row r (cur ++ [x]) rest h.2, List.append_assoc]
    rfl
theorem split_glue : ∀ {rows : List (List UInt8)}, (∀ r ∈ rows, r.all okB = true) → splitG 10 [] (glue rows) = rows ++ [[]]
  | [], _ => rfl
  | r :: rows, h => by
    rw [glue_cons, splitG_row r [] _ (fun hm => okB_ne (List.all_eq_true.1 (h r List.mem_cons_self) _ hm) rfl), split_glue (fun x hx => h x (List.mem_cons_of_mem _ hx))]
    rfl
/-- The pieces that are complete before place i, and where the piece at hand begins. -/
def spl (b : UInt8) (L : List UInt8) : Nat → List (List UInt8) × Nat
  | 0 => ([], 0)
  | i + 1 => if L.getD i 0 = b then ((spl b L i).1 ++ [(L.drop (spl b L i).2).take (i - (spl b L i).2)], i + 1) else spl b L i
def linesOf (b : UInt8) (L : List UInt8) : List (List UInt8) := (spl b L L.length).1 ++ [L.drop (spl b L L.length).2]
theorem spl_le (b : UInt8) (L : List UInt8) : ∀ i, (spl b L i).2 ≤ i ∧ (spl b L i).1.length ≤ i
  | 0 => ⟨Nat.le_refl _, Nat.le_refl _⟩
  | i + 1 => by
    have := spl_le b L i
    unfold spl
    split
    · exact ⟨Nat.le_refl _, by rw [List.length_append]; simp; omega⟩
    · omega
theorem spl_split (b : UInt8) (L : List UInt8) : ∀ i, i ≤ L.length → (spl b L i).1 ++ splitG b ((L.drop (spl b L i).2).take (i - (spl b L i).2)) (L.drop i) = splitG b [] L
  | 0, _ => by simp [spl]
  | i + 1, h => by
    have hlt : i < L.length := by omega
    have hle := (spl_le b L i).1
    have ih := spl_split b L i (by omega)
    have e0 : L.getD i 0 = L[i] := by rw [List.getD_eq_getElem?_getD, List.getElem?_eq_getElem hlt]; rfl
    rw [List.drop_eq_getElem_cons hlt] at ih
    rw [splitG_cons] at ih
    unfold spl
    rw [e0]
    by_cases hb : L[i] = b
    · rw [if_pos hb] at ih ⊢
      dsimp only
      rw [Nat.sub_self, List.take_zero, List.append_assoc]
      exact ih
    · rw [if_neg hb] at ih ⊢
      rw [← ih]
      congr 2
      rw [show i + 1 - (spl b L i).2 = (i - (spl b L i).2) + 1 by omega, List.take_succ_eq_append_getElem (by rw [List.length_drop]; omega), List.getElem_drop]
      congr 3
      omega
theorem lines_split (b : UInt8) (L : List UInt8) : linesOf b L = splitG b [] L := by
  have h := spl_split b L L.length (Nat.le_refl _)
  have hle := (spl_le b L L.length).1
  rw [List.drop_length, List.take_of_length_le (by rw [List.length_drop]; omega)] at h
  exact h
theorem lines_glue {rows : List (List UInt8)} (h : ∀ r ∈ rows, r.all okB = true) : linesOf 10 (glue rows) = rows ++ [[]] := by rw [lines_split, split_glue h]
theorem glue_lines : ∀ (cur L : List UInt8), ∃ (ls : List (List UInt8)) (last : List UInt8), splitG 10 cur L = ls ++ [last] ∧ cur ++ L = glue ls ++ last
  | cur, [] => ⟨[], cur, rfl, by simp [glue]⟩
  | cur, x :: xs => by
    unfold splitG
    by_cases h : x = 10
    · rw [if_pos h]
      obtain ⟨ls, last, e1, e2⟩ := glue_lines [] xs
      refine ⟨cur :: ls, last, by rw [e1]; rfl, ?_⟩
      rw [List.nil_append] at e2
      rw [glue_cons, h, e2]
      simp
    · rw [if_neg h]
      obtain ⟨ls, last, e1, e2⟩ := glue_lines (cur ++ [x]) xs
      exact ⟨ls, last, e1, by rw [← e2]; simp⟩
end Go.Proofs.Ytdcaohmcidmigaa
