/- ParseBoard, the model. -/
import Derived.Test.YtdcaohmcidmigaaBoxes
import Derived.Test.YtdcaohmcidmigaaSplit
namespace Go.Proofs.Ytdcaohmcidmigaa
open Go.ChangeShapes Go.WideShapes Go.ChangeAt Go.RowKit Go.Joins Go.Deep
set_option linter.unusedSimpArgs false
set_option linter.unusedVariables false
set_option maxRecDepth 100000
set_option maxHeartbeats 4000000
def lnC (L : List UInt8) : Nat := ((linesOf 10 L).getD 0 []).length
def lnCells (L : List UInt8) (k : Nat) : List (Int × Int) := ((linesOf 10 L).take k).flatMap cellsB
theorem linesOf_pos (b : UInt8) (L : List UInt8) : 1 ≤ (linesOf b L).length := by unfold linesOf; rw [List.length_append]; simp
theorem okQ_lines {L : List UInt8} (h : okQ L = true) : ∃ rows, GoodRows (prC L).toNat rows ∧ L = glue rows ∧ linesOf 10 L = rows ++ [[]] := by
  obtain ⟨rows, h1, h2, _⟩ := okQ_rows h
  have h3 := lines_glue (rows := rows) (fun r hr => (h1.row r hr).2)
  rw [← h2] at h3
  exact ⟨rows, h1, h2, h3⟩
theorem okQ_head {L : List UInt8} (h : okQ L = true) : (linesOf 10 L).length ≤ 11 ∧ lnC L ≤ 9 := by
  obtain ⟨rows, h1, h2, h3⟩ := okQ_lines h
  have := h1.r2
  refine ⟨by rw [h3, List.length_append]; simp; omega, ?_⟩
  unfold lnC
  rw [h3]
  have h4 := h1.r1
  cases rows with
  | nil => simp at h4
  | cons r rows =>
    have := (h1.row r List.mem_cons_self).1
    have := h1.c2
    show r.length ≤ 9
    omega
theorem okQ_row {L : List UInt8} (h : okQ L = true) {k : Nat} (hk : k < (linesOf 10 L).length - 1) : ((linesOf 10 L).getD k []).all okB = true ∧ ((linesOf 10 L).getD k []).length = lnC L := by
  obtain ⟨rows, h1, h2, h3⟩ := okQ_lines h
  have e : ∀ j, j < rows.length → (linesOf 10 L).getD j [] = rows.getD j [] := fun j hj => by
    rw [h3, List.getD_eq_getElem?_getD, List.getD_eq_getElem?_getD, List.getElem?_append_left hj]
  have hk' : k < rows.length := by rw [h3, List.length_append] at hk; simpa using hk
  have hr : ∀ j, j < rows.length → rows.getD j [] ∈ rows := fun j hj => by
    rw [List.getD_eq_getElem?_getD, List.getElem?_eq_getElem hj]
    exact List.getElem_mem hj
  unfold lnC
  rw [e k hk', e 0 (by omega)]
  exact ⟨(h1.row _ (hr k hk')).2, by rw [(h1.row _ (hr k hk')).1, (h1.row _ (hr 0 (by omega))).1]⟩
theorem okQ_board {L : List UInt8} (h : okQ L = true) : goodB (((linesOf 10 L).length - 1 : Nat) : Int) (lnC L : Int) (lnCells L ((linesOf 10 L).length - 1)) = true ∧ rowsText (lnC L : Int) (lnCells L ((linesOf 10 L).length - 1)) ((linesOf 10 L).length - 1) = L := by
  obtain ⟨rows, h1, h2, h3⟩ := okQ_lines h
  have e1 : (linesOf 10 L).length - 1 = rows.length := by rw [h3, List.length_append]; simp
  have e2 : lnCells L rows.length = rows.flatMap cellsB := by unfold lnCells; rw [h3, List.take_left' rfl]
  have h4 := h1.r1
  have e3 : lnC L = (prC L).toNat := by
    unfold lnC
    rw [h3]
    cases rows with
    | nil => simp at h4
    | cons r rows => exact (h1.row r List.mem_cons_self).1
  rw [e1, e2, e3]
  have := rows_board h1
  exact ⟨this.1, this.2.trans h2.symm⟩
theorem lines_okQ {L : List UInt8} (hrow : ∀ k, k < (linesOf 10 L).length - 1 → ((linesOf 10 L).getD k []).all okB = true ∧ ((linesOf 10 L).getD k []).length = lnC L)
    (hg : goodB (((linesOf 10 L).length - 1 : Nat) : Int) (lnC L : Int) (lnCells L ((linesOf 10 L).length - 1)) = true) (ht : rowsText (lnC L : Int) (lnCells L ((linesOf 10 L).length - 1)) ((linesOf 10 L).length - 1) = L) :
    okQ L = true ∧ prR L = (((linesOf 10 L).length - 1 : Nat) : Int) ∧ prC L = (lnC L : Int) ∧ prL L = lnCells L ((linesOf 10 L).length - 1) := by
  obtain ⟨s1, s2, s3, s4⟩ := sizeB_iff.1 (goodB_iff.1 hg).1
  have hrl : ((linesOf 10 L).take ((linesOf 10 L).length - 1)).length = (linesOf 10 L).length - 1 := by rw [List.length_take]; omega
  have hG : GoodRows (lnC L) ((linesOf 10 L).take ((linesOf 10 L).length - 1)) := by
    refine ⟨by omega, by omega, by omega, by omega, fun r hr => ?_⟩
    obtain ⟨k, hk, rfl⟩ := List.mem_iff_getElem.1 hr
    rw [hrl] at hk
    have := hrow k hk
    rw [List.getD_eq_getElem?_getD, List.getElem?_eq_getElem (by omega)] at this
    rw [List.getElem_take]
    exact ⟨this.2, this.1⟩
  have hb := (rows_board hG).2
  rw [hrl] at hb
  have hL : glue ((linesOf 10 L).take ((linesOf 10 L).length - 1)) = L := by rw [← hb]; exact ht
  have h := rows_okQ hG
  rw [hL, hrl] at h
  exact h
theorem lnCells_succ {L : List UInt8} {k : Nat} (h : k < (linesOf 10 L).length) : lnCells L (k + 1) = lnCells L k ++ cellsB ((linesOf 10 L).getD k []) := by
  unfold lnCells
  rw [List.take_succ_eq_append_getElem h, List.flatMap_append, List.getD_eq_getElem?_getD, List.getElem?_eq_getElem h]
  simp
theorem strV_at {ls : List (List UInt8)} {rest : List Value} {k : Nat} (h : k < ls.length) : (strV ls ++ rest)[k]? = some (.string ⟨(ls.getD k []).toArray⟩) := by
  unfold strV
  rw [List.getElem?_append_left (by simpa using h), List.getElem?_map, List.getD_eq_getElem?_getD, List.getElem?_eq_getElem h]
  rfl
theorem spl_lens (b : UInt8) (L : List UInt8) : ∀ i, ∀ l ∈ (spl b L i).1, l.length ≤ L.length
  | 0, l, h => absurd h List.not_mem_nil
  | i + 1, l, h => by
    unfold spl at h
    split at h
    · rcases List.mem_append.1 h with h | h
      · exact spl_lens b L i l h
      · rw [List.mem_singleton] at h
        rw [h, List.length_take, List.length_drop]
        omega
    · exact spl_lens b L i l h
theorem lines_le (b : UInt8) (L : List UInt8) : ∀ l ∈ linesOf b L, l.length ≤ L.length := fun l h => by
  unfold linesOf at h
  rcases List.mem_append.1 h with h | h
  · exact spl_lens b L _ l h
  · rw [List.mem_singleton] at h
    rw [h, List.length_drop]
    omega
theorem lnCells_len {L : List UInt8} {k c : Nat} (hk : k ≤ (linesOf 10 L).length) (h : ∀ j, j < k → ((linesOf 10 L).getD j []).length = c) : (lnCells L k).length = k * c := by
  induction k with
  | zero => simp [lnCells]
  | succ k ih =>
    rw [lnCells_succ (by omega), List.length_append, ih (by omega) (fun j hj => h j (by omega)), Nat.succ_mul]
    unfold cellsB
    rw [List.length_map, h k (by omega)]
theorem allB_list (l : List UInt8) : allB ⟨l.toArray⟩ = l.all okB := rfl
theorem row_setFarP {w : World} {base : Nat} {e : TypeId} {size n : Nat} {v : Value} {xs : List Value} (h : w.ownsRow base e size v n xs) (p : Addr) (u : Value) (hne : some p.block ≠ v.ownBlock) : (w.setCell p u).ownsRow base e size v n xs := by
  refine ⟨h.1, ?_⟩
  rcases h.2 with h2 | ⟨g, cap, cur, rfl, h2, hh, h3⟩
  · exact .inl h2
  · have hne' : g ≠ p.block := fun e' => hne (by simp [Value.ownBlock, e'])
    exact .inr ⟨g, cap, cur, rfl, h2, (Below.heap_setCell w p u g hne').trans hh, h3⟩
theorem spec_boParse (s : ByteArray) (w : World) (hn : s.size ≤ 1048576) :
    Calls Try.prog 37 #[.string s] w (PostB w (selI (okQ s.data.toList) (prR s.data.toList)) (selI (okQ s.data.toList) (prC s.data.toList)) (prL s.data.toList) (okQ s.data.toList)) := by
  obtain ⟨i0, hi, hz0, hz1, hz2⟩ := info_parts cellInfo
  have HL := Lib.hid (fun w => spec_l1Split s 10 w hn)
  have hpos := linesOf_pos 10 s.data.toList
  have HH := Lib.hid (okQ_head (L := s.data.toList))
  have HR := Lib.hid (fun h k hk => okQ_row (L := s.data.toList) (k := k) h hk)
  have HB := Lib.hid (okQ_board (L := s.data.toList))
  have HZ := Lib.hid (lines_okQ (L := s.data.toList))
  have hPr : okQ s.data.toList = false → prL s.data.toList = [] := fun h => by unfold prL; rw [h]; rfl
  have HP := Lib.hid hPr
  clear hPr
  have HS := Lib.hid (fun k hk => lnCells_succ (L := s.data.toList) (k := k) hk)
  have HE := Lib.hid (lines_le 10 s.data.toList)
  have HLn := Lib.hid (fun k c hk h => lnCells_len (L := s.data.toList) (k := k) (c := c) hk h)
  have hLs : s.data.toList.length = s.size := by simp
  have HK := Lib.hid (show lnC s.data.toList = ((linesOf 10 s.data.toList).getD 0 []).length from rfl)
  go_enter Try.func37, Try.ntmps37
  have X0 : Whole (w.alloc (.cells #[.int .i64 0, .int .i64 0, .slice none 0 0] 30)) w.heap.size 30 [.int .i64 0, .int .i64 0, .slice none 0 0] := heap_alloc_new w _
  have B0 : Below w.heap.size w (w.alloc (.cells #[.int .i64 0, .int .i64 0, .slice none 0 0] 30)) := (Below.refl _ _).alloc (Nat.le_refl _) _
  go_wp2_with fail
  generalize w.alloc (.cells #[.int .i64 0, .int .i64 0, .slice none 0 0] 30) = v0 at *
  refine (HL.out _).mono ?_
  rintro e w1 ⟨A1, c1, rfl, o1, n1, b1, hcap⟩
  replace X0 := X0.below b1 X0.lt
  replace B0 := B0.trans (b1.mono B0.size)
  obtain ⟨g, rest, rfl, hw⟩ := o1 (by rw [strV_len]; omega)
  have hgv := n1 _ rfl
  clear b1 n1 o1 HL
  generalize hls : linesOf 10 s.data.toList = ls at *
  obtain ⟨N, hN⟩ : ∃ N, ls.length = N + 1 := ⟨ls.length - 1, by omega⟩
  have hN1 : ls.length - 1 = N := by omega
  rw [hN1] at HR HB HZ
  by_cases h11 : ls.length ≤ 11
  · have hc0 := (hw.cell 0).trans (strV_at (by omega))
    have hx0 : (⟨(ls.getD 0 []).toArray⟩ : ByteArray).size = lnC s.data.toList := by rw [HK.out]; rfl
    generalize (⟨(ls.getD 0 []).toArray⟩ : ByteArray) = x0 at *
    by_cases h9 : lnC s.data.toList ≤ 9
    · generalize lnC s.data.toList = c at *
      have hz := X0.lt
      have hm1 : IntKind.i64.wrap ((ls.length : Int) - 1) = (N : Int) := by rw [show (ls.length : Int) - 1 = (N : Int) by omega]; exact IntWalk.i64_in _ (by omega)
      go_wp2
      have X5 : Whole (w1.alloc (.cells #[.int .i64 (N : Int), .int .i64 (c : Int), .slice none 0 0] 30)) w1.heap.size 30 [.int .i64 (N : Int), .int .i64 (c : Int), .slice none 0 0] := heap_alloc_new w1 _
      have b5 : Below w1.heap.size w1 (w1.alloc (.cells #[.int .i64 (N : Int), .int .i64 (c : Int), .slice none 0 0] 30)) := (Below.refl _ _).alloc (Nat.le_refl _) _
      have hgl := hw.lt
      replace X0 := X0.below b5 X0.lt
      replace hw := hw.below b5 hw.lt
      replace B0 := B0.trans (b5.mono B0.size)
      clear b5 hc0
      generalize w1.alloc (.cells #[.int .i64 (N : Int), .int .i64 (c : Int), .slice none 0 0] 30) = v5 at *
      generalize w1.heap.size = G at *
      go_loopw [37] (fun i wr => ∃ (k : Nat) (A : Option Addr) (cp : Nat), k ≤ N ∧ i = .int .i64 k ∧ (∀ j, j < k → (ls.getD j []).all okB = true ∧ (ls.getD j []).length = c) ∧ Whole wr G 30 [.int .i64 (N : Int), .int .i64 (c : Int), .slice A (lnCells s.data.toList k).length cp] ∧ wr.ownsRow w.heap.size 45 2 (.slice A (lnCells s.data.toList k).length cp) (lnCells s.data.toList k).length (flat (lnCells s.data.toList k)) ∧ Whole wr w.heap.size 30 [.int .i64 0, .int .i64 0, .slice none 0 0] ∧ Whole wr g 9 (strV ls ++ rest) ∧ Below w.heap.size w wr) (fun i _ => N - (intOf i).toNat)
      case atStart => exact ⟨0, none, 0, Nat.zero_le _, rfl, fun j hj => absurd hj (Nat.not_lt_zero j), X5, World.ownsRow_nil _ _ _ _, X0, hw, B0⟩
      case round =>
        clear X5 X0 hw B0
        obtain ⟨k, A, cp, hk, rfl, hrows, X5, hown, X0, hw, B0⟩ := hrel
        have hs := B0.size
        have hG := X5.lt
        have hG0 := X0.lt
        have hn90 : (lnCells s.data.toList k).length ≤ 90 := by
          rw [HLn.out k c (by omega) (fun j hj => (hrows j hj).2)]
          have := Nat.mul_le_mul (show k ≤ 10 by omega) h9
          omega
        by_cases hlt : k < N
        · have hck := (hw.cell k).trans (strV_at (by omega))
          have hsz : (⟨(ls.getD k []).toArray⟩ : ByteArray).size ≤ 1048576 := by
            show (ls.getD k []).toArray.size ≤ _
            rw [List.size_toArray]
            have := HE.out (ls.getD k []) (by rw [List.getD_eq_getElem?_getD, List.getElem?_eq_getElem (by omega)]; exact List.getElem_mem _)
            omega
          have HS1 := Lib.hid (HS.out k (by omega))
          have HR1 := Lib.hid (fun h => HR.out h k hlt)
          have hpc := fun w => spec_paCellsN (⟨(ls.getD k []).toArray⟩ : ByteArray) w hsz
          have hxs : (⟨(ls.getD k []).toArray⟩ : ByteArray).size = (ls.getD k []).length := by show (ls.getD k []).toArray.size = _; rw [List.size_toArray]
          have HPC := Lib.hid hpc
          clear hpc hsz
          have HT : Hid (∀ w : World, Calls Try.prog 58 #[.string ⟨(ls.getD k []).toArray⟩] w fun e w' => ∃ A' cap', e = .returned (.tuple #[.slice A' (cellsOr ((ls.getD k []).all okB) (ls.getD k [])).length cap', .bool ((ls.getD k []).all okB)]) ∧ Own w' A' 45 (flat (cellsOr ((ls.getD k []).all okB) (ls.getD k []))) ∧ New w A' ∧ Below w.heap.size w w' ∧ (A' = none → cap' = 0)) := HPC
          clear HPC
          have hrk : ∀ (h1 : (ls.getD k []).all okB = true) (h2 : (ls.getD k []).length = c), ∀ j, j < k + 1 → (ls.getD j []).all okB = true ∧ (ls.getD j []).length = c := fun h1 h2 j hj => by
            rcases Nat.lt_or_eq_of_le (Nat.lt_succ_iff.1 hj) with h | rfl
            · exact hrows j h
            · exact ⟨h1, h2⟩
          have HRk := Lib.hid hrk
          clear hrk hrows
          generalize hxk : (⟨(ls.getD k []).toArray⟩ : ByteArray) = xk at *
          generalize ls.getD k [] = lk at *
          go_wp2_with fail
          refine (HT.out _).mono ?_
          rintro e w6 ⟨A2, c2, rfl, o2, n2, b6, hA2⟩
          replace X5 := X5.below b6 X5.lt
          replace X0 := X0.below b6 X0.lt
          replace hw := hw.below b6 hw.lt
          replace hown := row_keep hown b6
          replace B0 := B0.trans (b6.mono hs)
          replace hs := B0.size
          replace hG := X5.lt
          replace hG0 := X0.lt
          clear b6 HT hck
          rcases Bool.eq_false_or_eq_true (lk.all okB) with ha | ha
          · have HA := Lib.hid ha
            by_cases hlc : lk.length = c
            · rw [ha] at o2 ⊢
              have HRr := Lib.hid (HRk.out ha hlc)
              have hcl : (cellsOr true lk).length = c := by show (cellsB lk).length = c; unfold cellsB; rw [List.length_map, hlc]
              have HCo := Lib.hid (show cellsOr true lk = cellsB lk from rfl)
              have hnc : (flat (cellsOr true lk)).length = c * 2 := by rw [flat_length, hcl]; omega
              have h1c := flat_one (cellsOr true lk)
              have hxc : xk.size = c := by rw [hxs, hlc]
              clear ha hlc HRk HR1 hxs
              generalize cellsOr true lk = cl at *
              have X5k0 : w6.cell? ⟨G, 0, none⟩ = some (.int .i64 (N : Int)) := (X5.cell 0).trans rfl; have X5k1 : w6.cell? ⟨G, 1, none⟩ = some (.int .i64 (c : Int)) := (X5.cell 1).trans rfl; have X5k2 : w6.cell? ⟨G, 2, none⟩ = some (.slice A (lnCells s.data.toList k).length cp) := (X5.cell 2).trans rfl
              have X5f0 := X5.frozen 0; have X5f1 := X5.frozen 1; have X5f2 := X5.frozen 2
              go_wp2_with (first | (at_builtin; go_loud (refine wpList_append_rd rfl (.tmp 57) (.tmp 58) 28 rfl w.heap.size 45 i0 _ 2 16 Try.underlying28 hi hz0 hz1 hz2 rfl (by omega) _ _ _ rfl hown A2 c c2 w6.heap.size (flat cl) rfl hnc hA2 o2.rd h1c (by unfold maxLen; omega) (by omega) hs ?_; intro v3 w7 hown7 hg7; obtain ⟨A3, c3, rfl⟩ := slice_of_row hown7; have X57 := X5.grown hg7 (row_apart hown X5 (by decide)); have k7 := (X57.cell 2).trans rfl; have f7 := X57.frozen 2)) | fail)
              have hg7' : w6.grownBy w7 (Value.slice A (lnCells s.data.toList k).length cp).ownBlock := hg7
              clear hg7
              have B7 : Below w.heap.size w w7 := row_below hown B0 hs hg7'
              have hw7 := hw.grown hg7' (row_apart hown hw (by decide))
              have X07 := X0.grown hg7' (row_apart hown X0 (by decide))
              have hwG : g ≠ G := by omega
              go_roundw
              case rel =>
                have e1 : (lnCells s.data.toList (k + 1)).length = (lnCells s.data.toList k).length + c := by rw [HS1.out, List.length_append, ← HCo.out, hcl]
                have e2 : flat (lnCells s.data.toList (k + 1)) = flat (lnCells s.data.toList k) ++ flat cl := by rw [HS1.out, flat_append, HCo.out]
                refine ⟨k + 1, A3, c3, by omega, by go_num, HRr.out, ?_, ?_, X07.set_far _ _ (by show G ≠ _; omega), hw7.set_far _ _ (by show G ≠ _; omega), B7.setCell (p := ⟨G, 2, none⟩) (by show w.heap.size ≤ G; omega) _⟩
                · rw [e1]; exact X57.set 2 _
                · rw [e1, e2]; exact row_setFarP hown7 _ _ (row_apart hown7 X57 (by decide))
              case measure => simp [intOf]; omega
            · have hok : okQ s.data.toList = false := by rw [Bool.eq_false_iff]; intro h; exact hlc (HR1.out h).2
              rw [ha]
              clear ha
              have X5k0 : w6.cell? ⟨G, 0, none⟩ = some (.int .i64 (N : Int)) := (X5.cell 0).trans rfl; have X5k1 : w6.cell? ⟨G, 1, none⟩ = some (.int .i64 (c : Int)) := (X5.cell 1).trans rfl; have X5k2 : w6.cell? ⟨G, 2, none⟩ = some (.slice A (lnCells s.data.toList k).length cp) := (X5.cell 2).trans rfl
              have HO := Lib.hid hok; clear hok; have hzf := X0.lt; have X0k0 : w6.cell? ⟨w.heap.size, 0, none⟩ = some (.int .i64 0) := (X0.cell 0).trans rfl; have X0k1 : w6.cell? ⟨w.heap.size, 1, none⟩ = some (.int .i64 0) := (X0.cell 1).trans rfl; have X0k2 : w6.cell? ⟨w.heap.size, 2, none⟩ = some (.slice none 0 0) := (X0.cell 2).trans rfl; have X0f0 := X0.frozen 0; have X0f1 := X0.frozen 1; have X0f2 := X0.frozen 2; go_wp2; rw [HP.out HO.out, HO.out]; refine bodyPost_ret (v := .tuple #[.agg #[.int .i64 0, .int .i64 0, .slice none 0 0], .bool false]) ?_ rfl ?_; (focus (simp [results, Try.results37, go_sem, *]; done)); exact PostB.none_ (by (repeat' (first | (with_reducible exact Below.refl _ _) | (with_reducible assumption) | (with_reducible refine Below.alloc ?_ ?_ _) | (with_reducible refine Below.setCell ?_ ?_ _) | (with_reducible refine Below.drew ?_) | (with_reducible refine below_drewN ?_ _) | (with_reducible refine Below.trans ?_ (Below.mono (by assumption) ?_)) | (with_reducible exact Nat.le_refl _) | (simp; done) | omega | (simp at *; omega))))
          · have hok : okQ s.data.toList = false := by rw [Bool.eq_false_iff]; intro h; have := (HR1.out h).1; rw [ha] at this; cases this
            rw [ha]
            clear ha
            have HO := Lib.hid hok; clear hok; have hzf := X0.lt; have X0k0 : w6.cell? ⟨w.heap.size, 0, none⟩ = some (.int .i64 0) := (X0.cell 0).trans rfl; have X0k1 : w6.cell? ⟨w.heap.size, 1, none⟩ = some (.int .i64 0) := (X0.cell 1).trans rfl; have X0k2 : w6.cell? ⟨w.heap.size, 2, none⟩ = some (.slice none 0 0) := (X0.cell 2).trans rfl; have X0f0 := X0.frozen 0; have X0f1 := X0.frozen 1; have X0f2 := X0.frozen 2; go_wp2; rw [HP.out HO.out, HO.out]; refine bodyPost_ret (v := .tuple #[.agg #[.int .i64 0, .int .i64 0, .slice none 0 0], .bool false]) ?_ rfl ?_; (focus (simp [results, Try.results37, go_sem, *]; done)); exact PostB.none_ (by (repeat' (first | (with_reducible exact Below.refl _ _) | (with_reducible assumption) | (with_reducible refine Below.alloc ?_ ?_ _) | (with_reducible refine Below.setCell ?_ ?_ _) | (with_reducible refine Below.drew ?_) | (with_reducible refine below_drewN ?_ _) | (with_reducible refine Below.trans ?_ (Below.mono (by assumption) ?_)) | (with_reducible exact Nat.le_refl _) | (simp; done) | omega | (simp at *; omega))))
        · obtain rfl : k = N := by omega
          have ho := own_of_row hown
          have hcpp := row_cap hown
          have X5k0 : wr.cell? ⟨G, 0, none⟩ = some (.int .i64 (k : Int)) := (X5.cell 0).trans rfl; have X5k1 : wr.cell? ⟨G, 1, none⟩ = some (.int .i64 (c : Int)) := (X5.cell 1).trans rfl; have X5k2 : wr.cell? ⟨G, 2, none⟩ = some (.slice A (lnCells s.data.toList k).length cp) := (X5.cell 2).trans rfl
          go_wp2_with fail
          refine (spec_boGood _ _ _ _ (lnCells s.data.toList k) _ (by omega) ho.1.rd).mono ?_
          rintro e w6 ⟨rfl, b6⟩
          clear X5k0 X5k1 X5k2
          replace X5 := X5.below b6 X5.lt
          replace X0 := X0.below b6 X0.lt
          replace hown := row_keep hown b6
          replace B0 := B0.trans (b6.mono hs)
          replace hs := B0.size
          replace ho := own_of_row hown
          clear b6
          rcases Bool.eq_false_or_eq_true (goodB (k : Int) (c : Int) (lnCells s.data.toList k)) with hg | hg
          · rw [hg]
            obtain ⟨_, _, hlp⟩ := goodB_parts hg
            obtain ⟨b, o, rfl, hbl, hcc⟩ := ho.1.rd (by rw [flat_length]; omega)
            have hrd : Rd w6 w6.heap.size (some ⟨b, o, none⟩) (flat (lnCells s.data.toList k)) := fun _ => ⟨b, o, rfl, hbl, hcc⟩
            have HG := Lib.hid hg
            clear hg
            have X5k0 : w6.cell? ⟨G, 0, none⟩ = some (.int .i64 (k : Int)) := (X5.cell 0).trans rfl; have X5k1 : w6.cell? ⟨G, 1, none⟩ = some (.int .i64 (c : Int)) := (X5.cell 1).trans rfl; have X5k2 : w6.cell? ⟨G, 2, none⟩ = some (.slice (some ⟨b, o, none⟩) (lnCells s.data.toList k).length cp) := (X5.cell 2).trans rfl
            go_wp2_with fail
            refine (spec_boText (k : Int) (c : Int) b o cp (lnCells s.data.toList k) _ HG.out hrd hcpp).mono ?_
            rintro e w7 ⟨rfl, b7⟩
            rewrite [Int.toNat_natCast]
            clear X5k0 X5k1 X5k2
            replace X5 := X5.below b7 X5.lt
            replace X0 := X0.below b7 X0.lt
            replace hown := row_keep hown b7
            replace B0 := B0.trans (b7.mono hs)
            replace hs := B0.size
            replace ho := own_of_row hown
            clear b7 hcc hrd
            by_cases hT : rowsText (c : Int) (lnCells s.data.toList k) k = s.data.toList
            · have eS : (⟨(rowsText (c : Int) (lnCells s.data.toList k) k).toArray⟩ : ByteArray) = s := by rw [hT]
              have HF := Lib.hid (HZ.out hrows HG.out hT)
              rewrite [eS]
              have hap : 0 < (flat (lnCells s.data.toList k)).length → ∀ a, (some (⟨b, o, none⟩ : Addr)) = some a → w.heap.size ≠ a.block := fun hx a ha => (own_apart ho.1 X0 (by decide) hx ha).symm
              have hz7 := X0.lt
              clear hT eS hrows
              generalize lnCells s.data.toList k = cl at *
              have X5k0 : w7.cell? ⟨G, 0, none⟩ = some (.int .i64 (k : Int)) := (X5.cell 0).trans rfl; have X5k1 : w7.cell? ⟨G, 1, none⟩ = some (.int .i64 (c : Int)) := (X5.cell 1).trans rfl; have X5k2 : w7.cell? ⟨G, 2, none⟩ = some (.slice (some ⟨b, o, none⟩) cl.length cp) := (X5.cell 2).trans rfl
              have X0k0 : w7.cell? ⟨w.heap.size, 0, none⟩ = some (.int .i64 0) := (X0.cell 0).trans rfl; have X0k1 : w7.cell? ⟨w.heap.size, 1, none⟩ = some (.int .i64 0) := (X0.cell 1).trans rfl; have X0k2 : w7.cell? ⟨w.heap.size, 2, none⟩ = some (.slice none 0 0) := (X0.cell 2).trans rfl
              have X0f0 := X0.frozen 0; have X0f1 := X0.frozen 1; have X0f2 := X0.frozen 2
              go_wp2
              obtain ⟨q1, q2, q3, q4⟩ := HF.out
              rw [q1, q2, q3, q4, show selI true (k : Int) = (k : Int) from rfl, show selI true (c : Int) = (c : Int) from rfl]
              refine bodyPost_ret (v := .tuple #[.agg #[.int .i64 (k : Int), .int .i64 (c : Int), .slice (some ⟨b, o, none⟩) cl.length cp], .bool true]) ?_ rfl ?_; (focus (simp [results, Try.results37, go_sem, *]; done))
              exact PostB.mk (((ho.1.set_far2 ⟨w.heap.size, 0, none⟩ (.int .i64 (k : Int)) hap).set_far2 ⟨w.heap.size, 1, none⟩ (.int .i64 (c : Int)) hap).set_far2 ⟨w.heap.size, 2, none⟩ (.slice (some ⟨b, o, none⟩) cl.length cp) hap) ho.2 (by (repeat' (first | (with_reducible exact Below.refl _ _) | (with_reducible assumption) | (with_reducible refine Below.alloc ?_ ?_ _) | (with_reducible refine Below.setCell ?_ ?_ _) | (with_reducible refine Below.drew ?_) | (with_reducible refine below_drewN ?_ _) | (with_reducible refine Below.trans ?_ (Below.mono (by assumption) ?_)) | (with_reducible exact Nat.le_refl _) | (simp; done) | omega | (simp at *; omega))))
            · have hok : okQ s.data.toList = false := by rw [Bool.eq_false_iff]; intro h; exact hT (HB.out h).2
              have eS : (⟨(rowsText (c : Int) (lnCells s.data.toList k) k).toArray⟩ : ByteArray) ≠ s := by
                intro e; apply hT
                have e2 := congrArg (fun (x : ByteArray) => x.data.toList) e
                simpa using e2
              replace eS : ((⟨(rowsText (c : Int) (lnCells s.data.toList k) k).toArray⟩ : ByteArray).toList == s.toList) = false := by
                rw [beq_eq_false_iff_ne, ByteArray.toList_eq, ByteArray.toList_eq]
                intro e; exact eS (ByteArray.ext (Array.toList_inj.1 e))
              generalize (⟨(rowsText (c : Int) (lnCells s.data.toList k) k).toArray⟩ : ByteArray) = tx at *
              have HO := Lib.hid hok; clear hok; have hzf := X0.lt; have X0k0 : w7.cell? ⟨w.heap.size, 0, none⟩ = some (.int .i64 0) := (X0.cell 0).trans rfl; have X0k1 : w7.cell? ⟨w.heap.size, 1, none⟩ = some (.int .i64 0) := (X0.cell 1).trans rfl; have X0k2 : w7.cell? ⟨w.heap.size, 2, none⟩ = some (.slice none 0 0) := (X0.cell 2).trans rfl; have X0f0 := X0.frozen 0; have X0f1 := X0.frozen 1; have X0f2 := X0.frozen 2; go_wp2; rw [HP.out HO.out, HO.out]; refine bodyPost_ret (v := .tuple #[.agg #[.int .i64 0, .int .i64 0, .slice none 0 0], .bool false]) ?_ rfl ?_; (focus (simp [results, Try.results37, go_sem, *]; done)); exact PostB.none_ (by (repeat' (first | (with_reducible exact Below.refl _ _) | (with_reducible assumption) | (with_reducible refine Below.alloc ?_ ?_ _) | (with_reducible refine Below.setCell ?_ ?_ _) | (with_reducible refine Below.drew ?_) | (with_reducible refine below_drewN ?_ _) | (with_reducible refine Below.trans ?_ (Below.mono (by assumption) ?_)) | (with_reducible exact Nat.le_refl _) | (simp; done) | omega | (simp at *; omega))))
          · have hok : okQ s.data.toList = false := by rw [Bool.eq_false_iff]; intro h; have := (HB.out h).1; rw [hg] at this; cases this
            rw [hg]
            clear hg
            have HO := Lib.hid hok; clear hok; have hzf := X0.lt; have X0k0 : w6.cell? ⟨w.heap.size, 0, none⟩ = some (.int .i64 0) := (X0.cell 0).trans rfl; have X0k1 : w6.cell? ⟨w.heap.size, 1, none⟩ = some (.int .i64 0) := (X0.cell 1).trans rfl; have X0k2 : w6.cell? ⟨w.heap.size, 2, none⟩ = some (.slice none 0 0) := (X0.cell 2).trans rfl; have X0f0 := X0.frozen 0; have X0f1 := X0.frozen 1; have X0f2 := X0.frozen 2; go_wp2; rw [HP.out HO.out, HO.out]; refine bodyPost_ret (v := .tuple #[.agg #[.int .i64 0, .int .i64 0, .slice none 0 0], .bool false]) ?_ rfl ?_; (focus (simp [results, Try.results37, go_sem, *]; done)); exact PostB.none_ (by (repeat' (first | (with_reducible exact Below.refl _ _) | (with_reducible assumption) | (with_reducible refine Below.alloc ?_ ?_ _) | (with_reducible refine Below.setCell ?_ ?_ _) | (with_reducible refine Below.drew ?_) | (with_reducible refine below_drewN ?_ _) | (with_reducible refine Below.trans ?_ (Below.mono (by assumption) ?_)) | (with_reducible exact Nat.le_refl _) | (simp; done) | omega | (simp at *; omega))))
    · have hok : okQ s.data.toList = false := by rw [Bool.eq_false_iff]; intro h; exact h9 (HH.out h).2
      have HO := Lib.hid hok; clear hok; have hzf := X0.lt; have X0k0 : w1.cell? ⟨w.heap.size, 0, none⟩ = some (.int .i64 0) := (X0.cell 0).trans rfl; have X0k1 : w1.cell? ⟨w.heap.size, 1, none⟩ = some (.int .i64 0) := (X0.cell 1).trans rfl; have X0k2 : w1.cell? ⟨w.heap.size, 2, none⟩ = some (.slice none 0 0) := (X0.cell 2).trans rfl; have X0f0 := X0.frozen 0; have X0f1 := X0.frozen 1; have X0f2 := X0.frozen 2; go_wp2; rw [HP.out HO.out, HO.out]; refine bodyPost_ret (v := .tuple #[.agg #[.int .i64 0, .int .i64 0, .slice none 0 0], .bool false]) ?_ rfl ?_; (focus (simp [results, Try.results37, go_sem, *]; done)); exact PostB.none_ (by (repeat' (first | (with_reducible exact Below.refl _ _) | (with_reducible assumption) | (with_reducible refine Below.alloc ?_ ?_ _) | (with_reducible refine Below.setCell ?_ ?_ _) | (with_reducible refine Below.drew ?_) | (with_reducible refine below_drewN ?_ _) | (with_reducible refine Below.trans ?_ (Below.mono (by assumption) ?_)) | (with_reducible exact Nat.le_refl _) | (simp; done) | omega | (simp at *; omega))))
  · have hok : okQ s.data.toList = false := by rw [Bool.eq_false_iff]; intro h; exact h11 (HH.out h).1
    have HO := Lib.hid hok; clear hok; have hzf := X0.lt; have X0k0 : w1.cell? ⟨w.heap.size, 0, none⟩ = some (.int .i64 0) := (X0.cell 0).trans rfl; have X0k1 : w1.cell? ⟨w.heap.size, 1, none⟩ = some (.int .i64 0) := (X0.cell 1).trans rfl; have X0k2 : w1.cell? ⟨w.heap.size, 2, none⟩ = some (.slice none 0 0) := (X0.cell 2).trans rfl; have X0f0 := X0.frozen 0; have X0f1 := X0.frozen 1; have X0f2 := X0.frozen 2; go_wp2; rw [HP.out HO.out, HO.out]; refine bodyPost_ret (v := .tuple #[.agg #[.int .i64 0, .int .i64 0, .slice none 0 0], .bool false]) ?_ rfl ?_; (focus (simp [results, Try.results37, go_sem, *]; done)); exact PostB.none_ (by (repeat' (first | (with_reducible exact Below.refl _ _) | (with_reducible assumption) | (with_reducible refine Below.alloc ?_ ?_ _) | (with_reducible refine Below.setCell ?_ ?_ _) | (with_reducible refine Below.drew ?_) | (with_reducible refine below_drewN ?_ _) | (with_reducible refine Below.trans ?_ (Below.mono (by assumption) ?_)) | (with_reducible exact Nat.le_refl _) | (simp; done) | omega | (simp at *; omega))))
theorem spec_ParseBoard (s : ByteArray) (w : World) (hn : s.size ≤ 1048576) :
    Calls Try.prog 15 #[.string s] w (PostB w (selI (okQ s.data.toList) (prR s.data.toList)) (selI (okQ s.data.toList) (prC s.data.toList)) (prL s.data.toList) (okQ s.data.toList)) := by
  go_enter Try.func15, Try.ntmps15
  have X0 : Whole (w.alloc (.cells #[.int .i64 0, .int .i64 0, .slice none 0 0] 30)) w.heap.size 30 [.int .i64 0, .int .i64 0, .slice none 0 0] := heap_alloc_new w _
  have B0 : Below w.heap.size w (w.alloc (.cells #[.int .i64 0, .int .i64 0, .slice none 0 0] 30)) := (Below.refl _ _).alloc (Nat.le_refl _) _
  go_wp2_with fail
  generalize w.alloc (.cells #[.int .i64 0, .int .i64 0, .slice none 0 0] 30) = v0 at *
  refine (spec_boParse s _ hn).mono ?_
  rintro e w1 ⟨A, cap, rfl, o1, n1, b1⟩
  have hz0 := X0.lt
  replace X0 := X0.below b1 X0.lt
  have hz1 := X0.lt
  have B1 := B0.trans (b1.mono B0.size)
  have hap : ∀ a, A = some a → w.heap.size ≠ a.block := fun a ha => by have := n1 a ha; omega
  have hb0 := B0.size
  have X0k0 : w1.cell? ⟨w.heap.size, 0, none⟩ = some (.int .i64 0) := (X0.cell 0).trans rfl; have X0k1 : w1.cell? ⟨w.heap.size, 1, none⟩ = some (.int .i64 0) := (X0.cell 1).trans rfl; have X0k2 : w1.cell? ⟨w.heap.size, 2, none⟩ = some (.slice none 0 0) := (X0.cell 2).trans rfl
  have X0f0 := X0.frozen 0; have X0f1 := X0.frozen 1; have X0f2 := X0.frozen 2
  go_wp2
  refine bodyPost_ret (v := .tuple #[.agg #[.int .i64 (selI (okQ s.data.toList) (prR s.data.toList)), .int .i64 (selI (okQ s.data.toList) (prC s.data.toList)), .slice A (prL s.data.toList).length cap], .bool (okQ s.data.toList)]) ?_ rfl ?_; (focus (simp [results, Try.results15, go_sem, *]; done))
  exact PostB.mk (((o1.set_far ⟨w.heap.size, 0, none⟩ _ hap).set_far ⟨w.heap.size, 1, none⟩ _ hap).set_far ⟨w.heap.size, 2, none⟩ _ hap) (fun a ha => by have := n1 a ha; omega) (by (repeat' (first | (with_reducible exact Below.refl _ _) | (with_reducible assumption) | (with_reducible refine Below.alloc ?_ ?_ _) | (with_reducible refine Below.setCell ?_ ?_ _) | (with_reducible refine Below.drew ?_) | (with_reducible refine below_drewN ?_ _) | (with_reducible refine Below.trans ?_ (Below.mono (by assumption) ?_)) | (with_reducible exact Nat.le_refl _) | (simp; done) | omega | (simp at *; omega))))
end Go.Proofs.Ytdcaohmcidmigaa
