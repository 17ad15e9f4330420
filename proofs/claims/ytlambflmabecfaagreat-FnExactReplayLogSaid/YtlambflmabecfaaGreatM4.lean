/- Contracts of the program and of the model, walked, part 4 of 9. No condition but what each says. -/
import Derived.Test.YtlambflmabecfaaGreatM3
import Derived.Laws.CopyOwn
import Derived.Deep.RegionHeld3
import Derived.Deep.DeepCutAuto
import Derived.Test.YtlambflmabecfaaGreatM1
namespace Go.Proofs.YtlambflmabecfaaGreat
open Go.ChangeShapes Go.WideShapes Go.ChangeAt Go.RowKit Go.Joins Go.Deep
set_option linter.unusedSimpArgs false
set_option linter.unusedVariables false
set_option maxRecDepth 100000
set_option maxHeartbeats 1000000
def numV (n : Nat) (G : List (List Nat)) : List Int := (List.range n).map fun j => num G 0 j
theorem numV_len (n : Nat) (G : List (List Nat)) : (numV n G).length = n := by simp [numV]
theorem numV_at {n : Nat} {G : List (List Nat)} {j : Nat} (h : j < n) : (ints (numV n G))[j]? = some (.int .i64 (num G 0 j)) := by
  unfold numV ints
  rw [List.map_map, List.getElem?_map, List.getElem?_range h]
  rfl
theorem numV_nil (n : Nat) : ints (numV n []) = List.replicate n (.int .i64 (-1)) := by
  unfold numV ints
  rw [List.map_map, List.eq_replicate_iff]
  exact ⟨by simp, fun b hb => by obtain ⟨j, _, rfl⟩ := List.mem_map.1 hb; rfl⟩
theorem numV_set {n : Nat} {G : List (List Nat)} {q : List Nat} {y : Nat} (hv : y ∉ G.flatten) (hq : y ∉ q) : (ints (numV n (G ++ [q]))).set y (.int .i64 (G.length : Int)) = ints (numV n (G ++ [q ++ [y]])) := by
  apply List.ext_getElem?
  intro j
  rw [List.getElem?_set]
  by_cases hj : j < n
  · rw [numV_at hj, numV_at hj]
    have hl : (ints (numV n (G ++ [q]))).length = n := by rw [ints_length, numV_len]
    rw [num_snoc, num_snoc]
    by_cases e : y = j
    · subst e
      simp [hl, hj, hv]
    · have e' : ¬ j = y := fun h => e h.symm
      simp only [e, if_false, List.mem_append, List.mem_singleton, e', or_false]
  · have n1 : (ints (numV n (G ++ [q ++ [y]])))[j]? = none := by rw [List.getElem?_eq_none]; rw [ints_length, numV_len]; omega
    have n2 : (ints (numV n (G ++ [q])))[j]? = none := by rw [List.getElem?_eq_none]; rw [ints_length, numV_len]; omega
    rw [n1, n2]
    split
    · rw [if_neg (by rw [ints_length, numV_len]; omega)]
    · rfl
theorem numV_empty {n : Nat} {G : List (List Nat)} : numV n (G ++ [[]]) = numV n G := by
  unfold numV
  refine List.map_congr_left fun j _ => ?_
  rw [num_snoc]
  by_cases h : j ∈ G.flatten
  · rw [if_pos h]
  · rw [if_neg h, if_neg (by simp), num_lone G 0 ((num_neg G 0).2 h)]
/-- 'gear and not yet numbered' is 'still open'. -/
theorem opn_num {J : Nat → Bool} {G : List (List Nat)} {q : List Nat} {y : Nat} : opn J G.flatten q y = (J y && decide (num (G ++ [q]) 0 y < 0)) := by
  rw [Bool.eq_iff_iff, opn_iff, Bool.and_eq_true, decide_eq_true_eq, num_neg, flatten_snoc, List.mem_append]
  constructor
  · rintro ⟨a, b, c⟩; exact ⟨a, fun h => h.elim b c⟩
  · rintro ⟨a, b⟩; exact ⟨a, fun h => b (.inl h), fun h => b (.inr h)⟩
theorem gat_len (J : Nat → Bool) (near : Nat → List Nat) (n : Nat) : ∀ k, (gat J near n k).length ≤ k
  | 0 => Nat.le_refl _
  | k + 1 => by
    have := gat_len J near n k
    show (gst J near n (gat J near n k) k).length ≤ k + 1
    unfold gst
    split
    · rw [List.length_append, List.length_singleton]; omega
    · omega
def GsS (w : World) (bx : List Value) (n base : Nat) (G : List (List Nat)) (v : Value) (q : List Nat) (wr : World) : Prop :=
  Whole wr w.heap.size 34 bx ∧ Whole wr (w.heap.size + 1) 3 (ints (numV n (G ++ [q]))) ∧ IRow wr base v (nI q) ∧ Below w.heap.size w wr ∧ w.heap.size + 1 < base
variable {w wr w2 : World} {bx : List Value} {n base : Nat} {G : List (List Nat)} {v v2 : Value} {q nl : List Nat} {A : Option Addr}
theorem GsS.below (h : GsS w bx n base G v q wr) (hb : Below wr.heap.size wr w2) : GsS w bx n base G v q w2 :=
  ⟨h.1.below hb h.1.lt, h.2.1.below hb h.2.1.lt, h.2.2.1.keep hb, h.2.2.2.1.trans (hb.mono h.2.2.2.1.size), h.2.2.2.2⟩
theorem irow_ne {l : List Int} (h : IRow wr base v l) {g : Nat} (hg : g < base) : v.ownBlock ≠ some g := by
  rcases h.2 with ⟨rfl, _⟩ | ⟨k, cap, cur, rfl, hk, _⟩
  · simp [Value.ownBlock]
  · simp [Value.ownBlock]; omega
theorem irow_setCell {l : List Int} (h : IRow wr base v l) {g j : Nat} (hg : g < base) (u : Value) : IRow (wr.setCell ⟨g, j, none⟩ u) base v l := by
  refine ⟨h.1, ?_⟩
  rcases h.2 with h2 | ⟨k, cap, cur, e, hk, hh, h3⟩
  · exact .inl h2
  · exact .inr ⟨k, cap, cur, e, hk, (Below.heap_setCell wr ⟨g, j, none⟩ u k (by show k ≠ g; omega)).trans hh, h3⟩
theorem GsS.push {y : Nat} (h : GsS w bx n base G v q wr) (hv : y ∉ G.flatten) (hq : y ∉ q) (hrow : IRow w2 base v2 (nI q ++ [(y : Int)])) (hb : Below base (wr.setCell ⟨w.heap.size + 1, y, none⟩ (.int .i64 (G.length : Int))) w2) : GsS w bx n base G v2 (q ++ [y]) w2 := by
  obtain ⟨h1, h2, h3, h4, h5⟩ := h
  have e := h2.set y (.int .i64 (G.length : Int))
  rw [numV_set hv hq] at e
  have x1 : Whole (wr.setCell ⟨w.heap.size + 1, y, none⟩ (.int .i64 (G.length : Int))) w.heap.size 34 bx := (Below.heap_setCell wr ⟨w.heap.size + 1, y, none⟩ _ w.heap.size (by show w.heap.size ≠ w.heap.size + 1; omega)).trans h1
  refine ⟨x1.below hb (by omega), e.below hb h5, by rw [nI_append]; exact hrow, ?_, h5⟩
  exact (h4.setCell (p := ⟨w.heap.size + 1, y, none⟩) (by show w.heap.size ≤ w.heap.size + 1; omega) _).trans (hb.mono (by omega))
theorem NrS.setCell {g j : Nat} {u : Value} (h : NrS base v A nl wr) (hg : g < base) : NrS base v A nl (wr.setCell ⟨g, j, none⟩ u) := by
  refine ⟨fun hx => ?_, h.2⟩
  obtain ⟨k, rest, e, hw⟩ := h.1 hx
  refine ⟨k, rest, e, (Below.heap_setCell wr ⟨g, j, none⟩ u k ?_).trans hw⟩
  have := (h.2 (by simpa [ints, nI] using hx) _ e).1
  show k ≠ g
  simp at this
  omega
theorem GsS.shape (h : GsS w bx n base G v q wr) (hp : 0 < q.length) : ∃ g cap rest, v = .slice (some ⟨g, 0, none⟩) q.length cap ∧ Whole wr g 3 (ints (nI q) ++ rest) := by
  obtain ⟨A, cap, rfl, ho, _⟩ := h.2.2.1.shape
  obtain ⟨g, rest, rfl, hw⟩ := ho (by rw [ints_length, nI_length]; exact hp)
  exact ⟨g, cap, rest, by rw [nI_length], hw⟩
theorem irow_lit {x : Int} {h : Nat} (hh : wr.heap[h]? = some (.cells #[.int .i64 x] 3 (0, 0))) : IRow wr h (.slice (some ⟨h, 0, none⟩) 1 1) [x] :=
  ⟨rfl, .inr ⟨h, 1, #[.int .i64 x], rfl, Nat.le_refl _, hh, Nat.le_refl _, by unfold maxLen; omega, rfl, rfl⟩⟩
/-- .. where the literal's block is spelled otherwise. -/
theorem wpList_push_at {w : World} {ops : Array Oper} {rest : List Oper} {o : Oper} {a : Act} {Q : Exit → Act → World → Prop} {base g : Nat} {v : Value} {l : List Int} {x0 : Int} (hrow : IRow w base v l) (hn : l.length ≤ 1048576) (hbase : base ≤ w.heap.size) (hg : g = w.heap.size)
    (hgd : o.guard = none) (s x : Operand) (ho : o.op = .call { callee := .builtin .append, args := #[s, x], argTypes := #[73, 73] })
    (hs : a.eval s = v) (hx : a.eval x = .slice (some ⟨g, 0, none⟩) 1 1)
    (h : ∀ v' w', IRow w' base v' (l ++ [x0]) → (w.alloc (.cells #[.int .i64 x0] 3)).grownBy w' v.ownBlock → Below base w w' → (v'.ownBlock = v.ownBlock ∨ v'.ownBlock = some (w.heap.size + 1)) → wpList Tryz.prog ops Q rest (a.put o.dst v') w') :
    wpList Tryz.prog ops Q (o :: rest) a (w.alloc (.cells #[.int .i64 x0] 3)) := by
  subst hg
  exact wpList_push hrow hn hbase hgd s x ho hs hx h
end Go.Proofs.YtlambflmabecfaaGreat
namespace Go.Proofs.YtlambflmabecfaaGreat
open Go.ChangeShapes Go.WideShapes Go.ChangeAt Go.RowKit Go.Joins Go.Deep
set_option linter.unusedSimpArgs false
set_option linter.unusedVariables false
set_option maxRecDepth 100000
set_option maxHeartbeats 4000000
def numL (c : Nat) (l : List (Int × Int)) : List Int := numV l.length (gat (J l) (nearL c l.length) l.length l.length)
def fillM (n k : Nat) : List Value := List.replicate k (.int .i64 (-1)) ++ List.replicate (n - k) (.int .i64 0)
theorem fill_at {n k : Nat} (h : k < n) : (fillM n k)[k]? = some (.int .i64 0) := by
  unfold fillM
  rw [List.getElem?_append_right (by simp), List.length_replicate, Nat.sub_self, List.getElem?_replicate, if_pos (by omega)]
theorem fill_set {n k : Nat} (h : k < n) : (fillM n k).set k (.int .i64 (-1)) = fillM n (k + 1) := by
  apply List.ext_getElem?
  intro j
  unfold fillM
  rw [List.getElem?_set]
  simp only [List.getElem?_append, List.getElem?_replicate, List.length_append, List.length_replicate]
  by_cases e : k = j
  · subst e
    simp
    omega
  · rw [if_neg e]
    by_cases h1 : j < k
    · simp [h1, show j < k + 1 by omega]
    · have h2 : ¬ j < k + 1 := by omega
      simp only [h1, h2, if_false]
      by_cases h3 : j < n
      · rw [if_pos (by omega), if_pos (by omega)]
      · rw [if_neg (by omega), if_neg (by omega)]
theorem spec_ggGroups (r c : Nat) (A : Option Addr) (cap : Nat) (l : List (Int × Int)) (w : World) (hG : Geo r c l.length) (hr : Rd w w.heap.size A (flat l)) :
    Calls Tryz.prog 64 #[.agg #[.int .i64 (r : Int), .int .i64 (c : Int), .slice A l.length cap]] w (PostI w (numL c l)) := by
  have n90 := hG.n90
  have hpos : 0 < l.length := by
    have h1 := hG.r1
    have h2 := hG.c1
    have h3 := hG.cells
    have := Nat.mul_le_mul h1 h2
    omega
  obtain ⟨b, o, rfl, hbl, hc⟩ := hr (by rw [flat_length]; omega)
  clear hr
  have hmk := fun w => run_make_ints l.length (by omega) w
  go_enter Tryz.func64, Tryz.ntmps64
  obtain ⟨v0, hv0⟩ : ∃ v, v = w.alloc (.cells #[.int .i64 (r : Int), .int .i64 (c : Int), .slice (some ⟨b, o, none⟩) l.length cap] 34) := ⟨_, rfl⟩
  have X0 : Whole v0 w.heap.size 34 [.int .i64 (r : Int), .int .i64 (c : Int), .slice (some ⟨b, o, none⟩) l.length cap] := by rw [hv0]; exact heap_alloc_new w _
  have hb : Below w.heap.size w v0 := by rw [hv0]; exact (Below.refl _ _).alloc (Nat.le_refl _) _
  have HZ := Lib.hid (show v0.heap.size = w.heap.size + 1 by rw [hv0, World.size_alloc])
  have HV := Lib.hid hv0.symm
  clear hv0
  go_upto_region 1 with (fail)
  rewrite [HV.out]
  clear HV
  have X0k0 : v0.cell? ⟨w.heap.size, 0, none⟩ = some (.int .i64 (r : Int)) := (X0.cell 0).trans rfl; have X0k1 : v0.cell? ⟨w.heap.size, 1, none⟩ = some (.int .i64 (c : Int)) := (X0.cell 1).trans rfl; have X0k2 : v0.cell? ⟨w.heap.size, 2, none⟩ = some (.slice (some ⟨b, o, none⟩) l.length cap) := (X0.cell 2).trans rfl
  go_upto_region 2 with (fail)
  clear X0k0 X0k1 X0k2
  have X1 : Whole (v0.alloc (.cells (zrow l.length).toArray 3)) v0.heap.size 3 (fillM l.length 0) := heap_alloc_new v0 _
  have bd : Below v0.heap.size v0 (v0.alloc (.cells (zrow l.length).toArray 3)) := (Below.refl _ _).alloc (Nat.le_refl _) _
  replace X0 := X0.below bd X0.lt
  replace hb := hb.trans (bd.mono hb.size)
  clear bd
  generalize v0.alloc (.cells (zrow l.length).toArray 3) = w1 at *
  rewrite [HZ.out] at X1 ⊢
  clear HZ
  go_wp2_with fail
  go_loopw [18, 4] (fun j _ wr => ∃ k : Nat, j = .int .i64 k ∧ k ≤ l.length ∧ Whole wr w.heap.size 34 [.int .i64 (r : Int), .int .i64 (c : Int), .slice (some ⟨b, o, none⟩) l.length cap] ∧ Whole wr (w.heap.size + 1) 3 (fillM l.length k) ∧ Below w.heap.size w wr) (fun j _ _ => l.length - (intOf j).toNat)
  case atStart => exact ⟨0, rfl, Nat.zero_le _, X0, X1, hb⟩
  case round =>
    clear X0 X1 hb
    obtain ⟨k, rfl, hk, h0, h1, hb⟩ := hrel
    by_cases hlt : k < l.length
    · have hk1 := (h1.cell k).trans (fill_at hlt)
      have hk2 := h1.frozen k
      have HS := Lib.hid (fill_set hlt)
      go_wp2
      go_roundw
      case rel => exact ⟨k + 1, by go_num, by omega, (Below.heap_setCell _ ⟨w.heap.size + 1, k, none⟩ _ _ (by show w.heap.size ≠ w.heap.size + 1; omega)).trans h0, by rw [← HS.out]; exact h1.set _ _, hb.setCell (p := ⟨w.heap.size + 1, k, none⟩) (by show w.heap.size ≤ w.heap.size + 1; omega) _⟩
      case measure => simp [intOf]; omega
    · obtain rfl : k = l.length := by omega
      have e : fillM l.length l.length = ints (numV l.length []) := by unfold fillM; rw [numV_nil]; simp
      rw [e] at h1
      clear e
      have h0k0 : wr.cell? ⟨w.heap.size, 0, none⟩ = some (.int .i64 (r : Int)) := (h0.cell 0).trans rfl; have h0k1 : wr.cell? ⟨w.heap.size, 1, none⟩ = some (.int .i64 (c : Int)) := (h0.cell 1).trans rfl; have h0k2 : wr.cell? ⟨w.heap.size, 2, none⟩ = some (.slice (some ⟨b, o, none⟩) l.length cap) := (h0.cell 2).trans rfl
      go_wp2_with fail
      clear h0k0 h0k1 h0k2
      go_loopw [28, 5] (fun j cnt wr => ∃ k : Nat, j = .int .i64 k ∧ cnt = .int .i64 ((gat (J l) (nearL c l.length) l.length k).length : Int) ∧ k ≤ l.length ∧ Whole wr w.heap.size 34 [.int .i64 (r : Int), .int .i64 (c : Int), .slice (some ⟨b, o, none⟩) l.length cap] ∧ Whole wr (w.heap.size + 1) 3 (ints (numV l.length (gat (J l) (nearL c l.length) l.length k))) ∧ Below w.heap.size w wr) (fun j _ _ => l.length - (intOf j).toNat)
      case atStart => exact ⟨0, rfl, rfl, Nat.zero_le _, h0, h1, hb⟩
      case round =>
        clear h0 h1 hb hlt hk
        obtain ⟨k, rfl, rfl, hk, h0, h1, hb⟩ := hrel
        have hGl := gat_len (J l) (nearL c l.length) l.length k
        by_cases hlt : k < l.length
        · obtain ⟨hc0, hc1⟩ := cell_at2 hb hbl hc hlt
          have hJ := J_at hlt
          have HG1 := Lib.hid (show gat (J l) (nearL c l.length) l.length (k + 1) = gst (J l) (nearL c l.length) l.length (gat (J l) (nearL c l.length) l.length k) k from rfl)
          generalize gat (J l) (nearL c l.length) l.length k = G at *
          generalize l[k].1 = x at *
          generalize l[k].2 = y at *
          have hs := hb.size
          go_wp2_with fail
          refine (spec_ggGear _ _ _).mono ?_; rintro e w2 ⟨rfl, b2⟩
          have bb : Below wr.heap.size wr w2 := ((Below.refl _ _).alloc (Nat.le_refl _) _).trans (b2.mono (by simp))
          replace h0 := h0.below bb h0.lt
          replace h1 := h1.below bb h1.lt
          replace hb := hb.trans (bb.mono hs)
          clear bb b2 hs hc0 hc1
          have hn0 := (h1.cell k).trans (numV_at hlt)
          rcases Bool.eq_false_or_eq_true (opn (J l) G.flatten [] k) with hop | hop
          · have hjt : joins x = true := hJ.symm.trans (opn_iff.1 hop).1
            have hv := (opn_iff.1 hop).2.1
            have hneg := (num_neg (j := k) G 0).2 hv
            have hk2 := h1.frozen k
            have hst : gst (J l) (nearL c l.length) l.length G k = G ++ [grp (J l) (nearL c l.length) l.length G k] := by unfold gst; rw [hop]; rfl
            rewrite [hst] at HG1
            rewrite [hjt]
            clear hst hJ
            generalize num G 0 k = t at *
            go_upto_region 13 with (fail)
            have e2 := h1.set k (.int .i64 (G.length : Int))
            rw [← numV_empty, numV_set hv (List.not_mem_nil), List.nil_append] at e2
            have e1 : Whole (w2.setCell ⟨w.heap.size + 1, k, none⟩ (.int .i64 (G.length : Int))) w.heap.size 34 [.int .i64 (r : Int), .int .i64 (c : Int), .slice (some ⟨b, o, none⟩) l.length cap] := (Below.heap_setCell w2 ⟨w.heap.size + 1, k, none⟩ _ w.heap.size (by show w.heap.size ≠ w.heap.size + 1; omega)).trans h0
            have e3 : Below w.heap.size w (w2.setCell ⟨w.heap.size + 1, k, none⟩ (.int .i64 (G.length : Int))) := hb.setCell (p := ⟨w.heap.size + 1, k, none⟩) (by show w.heap.size ≤ w.heap.size + 1; omega) _
            clear h0 h1 hb hn0 hk2 hneg hjt
            generalize w2.setCell ⟨w.heap.size + 1, k, none⟩ (.int .i64 (G.length : Int)) = w3 at *
            go_upto_region 14 with (fail)
            have hS : GsS w [.int .i64 (r : Int), .int .i64 (c : Int), .slice (some ⟨b, o, none⟩) l.length cap] l.length w3.heap.size G (.slice (some ⟨w3.heap.size, 0, none⟩) 1 1) [k] (w3.alloc (.cells #[.int .i64 (k : Int)] 3)) := ⟨e1.alloc _, e2.alloc _, irow_lit (heap_alloc_new w3 _), e3.alloc e3.size _, e2.lt⟩
            clear e1 e2 e3
            generalize w3.alloc (.cells #[.int .i64 (k : Int)] 3) = w4 at *
            generalize Value.slice (some (⟨w3.heap.size, 0, none⟩ : Addr)) 1 1 = v4 at *
            generalize w3.heap.size = base at *
            have HQ := Lib.hid (brs_few (J := J l) (near := nearL c l.length) (v := G.flatten) (q := [k]) (n := l.length) hG.near (by simpa using hlt) (few_one hlt hop))
            go_wp2_with fail
            go_loopw [8, 9] (fun v j wr => ∃ m : Nat, j = .int .i64 m ∧ m ≤ (brs (J l) (nearL c l.length) G.flatten [k] m).length ∧ GsS w [.int .i64 (r : Int), .int .i64 (c : Int), .slice (some ⟨b, o, none⟩) l.length cap] l.length base G v (brs (J l) (nearL c l.length) G.flatten [k] m) wr) (fun _ j _ => l.length + 1 - (intOf j).toNat)
            case atStart => exact ⟨0, rfl, Nat.zero_le _, hS⟩
            case round =>
              clear hS
              obtain ⟨m, rfl, hml, hS⟩ := hrel
              have hq := HQ.out m
              have hqn := few_len hq.1
              by_cases hmt : m < (brs (J l) (nearL c l.length) G.flatten [k] m).length
              · have HS1 := Lib.hid (brs_at (J l) (nearL c l.length) G.flatten [k] m hmt)
                have hxn := hq.2 _ (List.getElem_mem hmt)
                have HX := Lib.hid (hG.near _ hxn)
                generalize hQ : brs (J l) (nearL c l.length) G.flatten [k] m = q at *
                obtain ⟨g, cap2, rest, rfl, hw⟩ := hS.shape (by omega)
                have hqk := row_num hw hmt
                have h0 := hS.1
                have hz0 := h0.lt
                have hzg := hw.lt
                generalize q[m] = z at *
                have h0k0 : wr.cell? ⟨w.heap.size, 0, none⟩ = some (.int .i64 (r : Int)) := (h0.cell 0).trans rfl; have h0k1 : wr.cell? ⟨w.heap.size, 1, none⟩ = some (.int .i64 (c : Int)) := (h0.cell 1).trans rfl; have h0k2 : wr.cell? ⟨w.heap.size, 2, none⟩ = some (.slice (some ⟨b, o, none⟩) l.length cap) := (h0.cell 2).trans rfl
                go_upto_region 17 with (fail)
                have KS := Lib.hid (fun (w' : World) (h : Below wr.heap.size wr w') => (⟨(h.cell (p := ⟨w.heap.size, 0, none⟩) hz0).trans h0k0, (h.cell (p := ⟨w.heap.size, 1, none⟩) hz0).trans h0k1, (h.cell (p := ⟨w.heap.size, 2, none⟩) hz0).trans h0k2, (h.cell (p := ⟨g, m, none⟩) hzg).trans hqk⟩ : w'.cell? ⟨w.heap.size, 0, none⟩ = some (.int .i64 (r : Int)) ∧ w'.cell? ⟨w.heap.size, 1, none⟩ = some (.int .i64 (c : Int)) ∧ w'.cell? ⟨w.heap.size, 2, none⟩ = some (.slice (some ⟨b, o, none⟩) l.length cap) ∧ w'.cell? ⟨g, m, none⟩ = some (.int .i64 (z : Int))))
                go_region_held3 (fun w' => w'.cell? ⟨w.heap.size, 0, none⟩ = some (.int .i64 (r : Int)) ∧ w'.cell? ⟨w.heap.size, 1, none⟩ = some (.int .i64 (c : Int)) ∧ w'.cell? ⟨w.heap.size, 2, none⟩ = some (.slice (some ⟨b, o, none⟩) l.length cap) ∧ w'.cell? ⟨g, m, none⟩ = some (.int .i64 (z : Int)))
                  (exact KS.out _ (by (repeat' (first | (with_reducible exact Below.refl _ _) | (with_reducible assumption) | (with_reducible refine Below.alloc ?_ ?_ _) | (with_reducible refine Below.setCell ?_ ?_ _) | (with_reducible refine Below.drew ?_) | (with_reducible refine below_drewN ?_ _) | (with_reducible refine Below.trans ?_ (Below.mono (by assumption) ?_)) | go_size))))
                  ((first | (go_at_call 74; (with_reducible refine (spec_ggNear r c z (some ⟨b, o, none⟩) l.length cap _ hG.r1 hG.r2 hG.c1 hG.c2 hG.cells hxn n90).mono ?_); rintro e w3 ⟨A3, c3, rfl, o3, n3, b3⟩) | fail))
                have bb : Below wr.heap.size wr w3 := by (repeat' (first | (with_reducible exact Below.refl _ _) | (with_reducible assumption) | (with_reducible refine Below.alloc ?_ ?_ _) | (with_reducible refine Below.setCell ?_ ?_ _) | (with_reducible refine Below.drew ?_) | (with_reducible refine below_drewN ?_ _) | (with_reducible refine Below.trans ?_ (Below.mono (by assumption) ?_)) | go_size))
                have n3' : New wr A3 := n3.mono (by (repeat' (first | (with_reducible exact Below.refl _ _) | (with_reducible assumption) | (with_reducible refine Below.alloc ?_ ?_ _) | (with_reducible refine Below.setCell ?_ ?_ _) | (with_reducible refine Below.drew ?_) | (with_reducible refine below_drewN ?_ _) | (with_reducible refine Below.trans ?_ (Below.mono (by assumption) ?_)) | go_size)) : Below wr.heap.size wr _).size
                rewrite [nI_length]
                have hS3 := hS.below bb
                have hbw : base ≤ wr.heap.size := by
                  obtain ⟨g', cap', e', hge'⟩ : ∃ g' cap', Value.slice (some (⟨g, 0, none⟩ : Addr)) q.length cap2 = .slice (some ⟨g', 0, none⟩) (nI q).length cap' ∧ base ≤ g' := hS.2.2.1.form (by rw [nI_length]; omega)
                  rw [nI_length] at e'
                  cases e'
                  omega
                have hN3 : NrS base (.slice (some ⟨g, 0, none⟩) q.length cap2) A3 (nearL c l.length z) w3 := ⟨o3, fun _ a ha => by
                  have h1 := n3' a ha
                  refine ⟨by omega, fun e => ?_⟩
                  simp [Value.ownBlock] at e
                  omega⟩
                have hne := near_len c l.length z
                clear KS b3 n3 n3' o3 bb hS h0 hz0 hzg hqk h0k0 h0k1 h0k2 hw rest
                generalize Value.slice (some (⟨g, 0, none⟩ : Addr)) q.length cap2 = v3 at *
                generalize hNL : nearL c l.length z = nl at *
                go_wp2_with fail
                go_loopw [8, 62] (fun v j wr => ∃ p : Nat, j = .int .i64 p ∧ p ≤ nl.length ∧ GsS w [.int .i64 (r : Int), .int .i64 (c : Int), .slice (some ⟨b, o, none⟩) l.length cap] l.length base G v (brn (J l) G.flatten q (nl.take p)) wr ∧ NrS base v A3 nl wr) (fun _ j _ => nl.length - (intOf j).toNat)
                case atStart => exact ⟨0, rfl, Nat.zero_le _, hS3, hN3⟩
                case round =>
                  clear hS3 hN3
                  obtain ⟨p, rfl, hp, hS, hN⟩ := hrel
                  have hfew := few_len (few_brn (nl.take p) q (fun y hy => HX.out y (List.mem_of_mem_take hy)) hq.1)
                  by_cases hpl : p < nl.length
                  · have HB := Lib.hid (brn_take (J l) G.flatten q nl p hpl)
                    have hyn := HX.out _ (List.getElem_mem hpl)
                    obtain ⟨g3, rest3, rfl, hw3⟩ := hN.shape (by omega)
                    have hy := row_num hw3 hpl
                    generalize nl[p] = a at *
                    generalize brn (J l) G.flatten q (nl.take p) = qm at *
                    obtain ⟨hc0, hc1⟩ := cell_at2 hS.2.2.2.1 hbl hc hyn
                    have h0 := hS.1
                    have HO := Lib.hid (opn_num (J := J l) (G := G) (q := qm) (y := a))
                    have hJ := J_at hyn
                    have h0k0 : wr.cell? ⟨w.heap.size, 0, none⟩ = some (.int .i64 (r : Int)) := (h0.cell 0).trans rfl; have h0k1 : wr.cell? ⟨w.heap.size, 1, none⟩ = some (.int .i64 (c : Int)) := (h0.cell 1).trans rfl; have h0k2 : wr.cell? ⟨w.heap.size, 2, none⟩ = some (.slice (some ⟨b, o, none⟩) l.length cap) := (h0.cell 2).trans rfl
                    go_wp2_with fail
                    refine (spec_ggGear _ _ _).mono ?_; rintro e w5 ⟨rfl, b5⟩
                    have hS5 := hS.below b5
                    have hN5 := hN.below b5
                    have hn5 := (hS5.2.1.cell a).trans (numV_at hyn)
                    have hf5 := hS5.2.1.frozen a
                    have hz5 : base ≤ w5.heap.size := by
                      have h1 := (hN5.2 (by omega) _ rfl).1
                      obtain ⟨_, _, e, hw⟩ := hN5.shape (by omega)
                      have h2 := hw.lt
                      cases e
                      simp at h1
                      omega
                    clear hS hN h0 h0k0 h0k1 h0k2 hc0 hc1 b5 hw3 hy
                    have hst5 := hS5.2.2.2.2
                    rcases Bool.eq_false_or_eq_true (joins l[a].1) with hj | hj
                    · rewrite [hj]
                      rw [hj] at hJ
                      have HO' := HO.out
                      rw [hJ, Bool.true_and] at HO'
                      clear HO
                      generalize num (G ++ [qm]) 0 a = t at *
                      by_cases ht : t < 0
                      · rw [decide_eq_true ht] at HO'
                        obtain ⟨_, hv', hq'⟩ := opn_iff.1 HO'
                        have hbst : bst (J l) G.flatten qm a = qm ++ [a] := by unfold bst; rw [HO']; rfl
                        rewrite [hbst] at HB
                        clear hbst HO' hJ hj
                        have hrow5 := irow_setCell (j := a) hS5.2.2.1 hst5 (.int .i64 (G.length : Int))
                        have hl5 : (nI qm).length ≤ 1048576 := by rw [nI_length]; omega
                        have hsz5 : w5.heap.size = (w5.setCell ⟨w.heap.size + 1, a, none⟩ (.int .i64 (G.length : Int))).heap.size := (World.size_setCell _ _ _).symm
                        have hz5' : base ≤ (w5.setCell ⟨w.heap.size + 1, a, none⟩ (.int .i64 (G.length : Int))).heap.size := by rw [← hsz5]; exact hz5
                        have hN5' := hN5.setCell (j := a) (u := .int .i64 (G.length : Int)) hst5
                        have HP := Lib.hid (fun (v6 : Value) (w6 : World) (h1 : IRow w6 base v6 (nI qm ++ [(a : Int)])) (h2 : Below base (w5.setCell ⟨w.heap.size + 1, a, none⟩ (.int .i64 (G.length : Int))) w6) => hS5.push hv' hq' h1 h2)
                        have HZ5 := Lib.hid hz5'
                        have HR5 := Lib.hid hrow5
                        have HN5 := Lib.hid hN5'
                        clear hsz5 hS5 hN5 hz5' hrow5 hN5'
                        go_upto_region 22 with (fail)
                        have hz5' := HZ5.out
                        have hrow5 := HR5.out
                        have hN5' := HN5.out
                        clear hn5 hf5 HZ5 HR5 HN5
                        generalize w5.setCell ⟨w.heap.size + 1, a, none⟩ (.int .i64 (G.length : Int)) = w5s at *
                        go_wp2_with (first | (at_builtin; refine wpList_push (x0 := (a : Int)) hrow5 hl5 hz5' rfl _ _ rfl rfl rfl ?_; intro v6 w6 hrow6 hg6 hb6 hl6; have hS6 := HP.out v6 w6 hrow6 hb6; have hN6 := hN5'.push hg6 hl6) | fail)
                        clear HP hN5' hrow6 hg6 hb6 hl6 hrow5
                        go_roundw
                        case rel => exact ⟨p + 1, by go_num, by omega, by rw [HB.out]; exact hS6, hN6⟩
                        case measure => simp [intOf]; omega
                      · rw [decide_eq_false ht] at HO'
                        have hbst : bst (J l) G.flatten qm a = qm := by unfold bst; rw [HO']; rfl
                        rewrite [hbst] at HB
                        clear hbst HO' hJ hj
                        go_wp2_with fail
                        go_roundw
                        case rel => exact ⟨p + 1, by go_num, by omega, by rw [HB.out]; exact hS5, hN5⟩
                        case measure => simp [intOf]; omega
                    · rewrite [hj]
                      rw [hj] at hJ
                      have HO' := HO.out
                      rw [hJ, Bool.false_and] at HO'
                      have hbst : bst (J l) G.flatten qm a = qm := by unfold bst; rw [HO']; rfl
                      rewrite [hbst] at HB
                      clear hbst HO' hJ hj HO
                      go_wp2_with fail
                      go_roundw
                      case rel => exact ⟨p + 1, by go_num, by omega, by rw [HB.out]; exact hS5, hN5⟩
                      case measure => simp [intOf]; omega
                  · obtain rfl : p = nl.length := by omega
                    rw [List.take_length, ← HS1.out] at hS
                    have hlen : m + 1 ≤ (brs (J l) (nearL c l.length) G.flatten [k] (m + 1)).length := by
                      rw [HS1.out]
                      have := (brn_prefix (J := J l) (v := G.flatten) nl q).length_le
                      omega
                    clear HS1 HX
                    go_wp2
                    go_roundw
                    case rel => exact ⟨m + 1, by go_num, hlen, hS⟩
                    case measure => simp [intOf]; omega
              · have hend := brs_end (J := J l) (near := nearL c l.length) (v := G.flatten) (q := [k]) (k := m) (n := l.length) (by omega) (by omega)
                rw [hend] at hS hml hmt
                clear hend
                obtain ⟨g, cap2, rest, rfl, hw⟩ := hS.shape (List.length_pos_of_mem (brs_le (x := k) (by simp) _))
                have hmt' : ¬ (m : Int) < ((brs (J l) (nearL c l.length) G.flatten [k] l.length).length : Int) := by omega
                go_wp2
                go_roundw
                case rel => exact ⟨k + 1, by go_num, by rw [HG1.out, List.length_append, List.length_singleton]; go_num, by omega, hS.1, by rw [HG1.out]; exact hS.2.1, hS.2.2.2.1⟩
                case measure => simp [intOf]; omega
          · have hst : gst (J l) (nearL c l.length) l.length G k = G := by unfold gst; rw [hop]; rfl
            rewrite [hst] at HG1
            have ho2 : (J l k = false) ∨ ¬ num G 0 k < 0 := by
              rcases Bool.eq_false_or_eq_true (J l k) with h | h
              · refine .inr fun hneg => ?_
                have : opn (J l) G.flatten [] k = true := opn_iff.2 ⟨h, (num_neg G 0).1 hneg, List.not_mem_nil⟩
                rw [hop] at this
                cases this
              · exact .inl h
            clear hst
            generalize num G 0 k = t at *
            rcases Bool.eq_false_or_eq_true (joins x) with hj | hj
            · rewrite [hj]
              rw [hJ, hj] at ho2
              have ht : ¬ t < 0 := by
                rcases ho2 with h | h
                · cases h
                · exact h
              clear hJ ho2 hop hj
              go_wp2
              go_roundw
              case rel => exact ⟨k + 1, by go_num, by rw [HG1.out], by omega, h0, by rw [HG1.out]; exact h1, hb⟩
              case measure => simp [intOf]; omega
            · rewrite [hj]
              clear hJ ho2 hop hj
              go_wp2
              go_roundw
              case rel => exact ⟨k + 1, by go_num, by rw [HG1.out], by omega, h0, by rw [HG1.out]; exact h1, hb⟩
              case measure => simp [intOf]; omega
        · obtain rfl : k = l.length := by omega
          go_wp2
          go_returns
          have hx := PostI.mk (cap' := l.length) (Whole.own h1) (fun a ha => by cases ha; show w.heap.size ≤ w.heap.size + 1; omega) hb
          rw [numV_len] at hx
          exact hx
end Go.Proofs.YtlambflmabecfaaGreat
namespace Go.Proofs.YtlambflmabecfaaGreat
open Go.ChangeShapes Go.WideShapes Go.ChangeAt Go.RowKit Go.Joins Go.Deep
set_option linter.unusedSimpArgs false
set_option linter.unusedVariables false
set_option maxRecDepth 100000
set_option maxHeartbeats 2000000
def okJ (R C : Int) (l : List (Int × Int)) (i j : Int) : Bool := hasB R C l i j && joins (l.getD (atI C i j) (0, 0)).1
theorem okJ_parts {R C : Int} {l : List (Int × Int)} {i j : Int} (h : okJ R C l i j = true) : goodB R C l = true ∧ inB R C i j = true ∧ J l (atI C i j) = true := by
  unfold okJ at h
  rw [Bool.and_eq_true] at h
  obtain ⟨a, b⟩ := hasB_and h.1
  exact ⟨a, b, h.2⟩
theorem geo_of {R C : Int} {l : List (Int × Int)} (h : goodB R C l = true) : ∃ r c : Nat, R = (r : Int) ∧ C = (c : Int) ∧ Geo r c l.length := by
  obtain ⟨hs, hl, _⟩ := goodB_iff.1 h
  obtain ⟨s1, s2, s3, s4⟩ := sizeB_iff.1 hs
  refine ⟨R.toNat, C.toNat, by omega, by omega, by omega, by omega, by omega, by omega, ?_⟩
  have e : ((R.toNat * C.toNat : Nat) : Int) = R * C := by
    rw [Int.natCast_mul]
    rw [show (R.toNat : Int) = R by omega, show (C.toNat : Int) = C by omega]
  omega
def GG (C : Int) (l : List (Int × Int)) : List (List Nat) := gat (J l) (nearL C.toNat l.length) l.length l.length
def nmb (C : Int) (l : List (Int × Int)) (x : Nat) : Int := num (GG C l) 0 x
theorem groups_all {r c : Nat} {l : List (Int × Int)} (hG : Geo r c l.length) : Groups (J l) (nearL c l.length) l.length l.length (GG (c : Int) l) := by
  unfold GG
  rw [Int.toNat_natCast]
  exact groups_at hG.near hG.sym l.length (Nat.le_refl _)
def grpL (C : Int) (l : List (Int × Int)) (k : Nat) : List Nat := (List.range l.length).filter fun x => decide (nmb C l x = nmb C l k)
/-- The group that the program takes from a cell is that of the cell's number. -/
theorem grp_of_cell {r c k : Nat} {l : List (Int × Int)} (hG : Geo r c l.length) (hk : k < l.length) (hJ : J l k = true) : sortN l.length (brs (J l) (nearL c l.length) [] [k] l.length) = grpL (c : Int) l k := by
  have hA := groups_all hG
  obtain ⟨g, hg, hkg⟩ := List.mem_flatten.1 (hA.all k hk hJ)
  obtain ⟨m, hm, rfl⟩ := List.getElem_of_mem hg
  have e1 : nmb (c : Int) l k = ((0 + m : Nat) : Int) := (num_is _ 0 m hA.apart (List.getElem?_eq_getElem hm)).2 hkg
  unfold sortN grpL
  refine List.filter_congr fun x _ => ?_
  rw [e1, Bool.eq_iff_iff, List.contains_iff_mem, decide_eq_true_eq, hA.each _ hg k hkg x]
  exact (num_is _ 0 m hA.apart (List.getElem?_eq_getElem hm)).symm
end Go.Proofs.YtlambflmabecfaaGreat
namespace Go.Proofs.YtlambflmabecfaaGreat
open Go.ChangeShapes Go.WideShapes Go.ChangeAt Go.RowKit Go.Joins Go.Deep
set_option linter.unusedSimpArgs false
set_option linter.unusedVariables false
set_option maxRecDepth 100000
set_option maxHeartbeats 2000000
def groupB (R C : Int) (l : List (Int × Int)) (i j : Int) : List Int := if okJ R C l i j then nI (grpL C l (atI C i j)) else []
theorem grpL_len (C : Int) (l : List (Int × Int)) (k : Nat) : (grpL C l k).length ≤ l.length := by
  unfold grpL
  have := List.length_filter_le (fun x => decide (nmb C l x = nmb C l k)) (List.range l.length)
  rwa [List.length_range] at this
theorem groupB_len (R C : Int) (l : List (Int × Int)) (i j : Int) (h : l.length ≤ 1048576) : (groupB R C l i j).length ≤ 1048576 := by
  unfold groupB
  split
  · rw [nI_length]
    have := grpL_len C l (atI C i j)
    omega
  · simp
theorem PostL.of_irow {w w' : World} {l : List Int} {v : Value} {base : Nat} (h : IRow w' base v l) (hbase : w.heap.size ≤ base) (hb : Below w.heap.size w w') (ok : Bool) : PostL w l ok (.returned (.tuple #[v, .bool ok])) w' := by
  obtain ⟨A', cap', rfl, ho, hn⟩ := h.shape
  exact PostL.mk ho (fun a ha => Nat.le_trans hbase (hn a ha)) hb
theorem PostL.of_post {w w1 w' : World} {l : List Int} {v : Value} (h : PostI w1 l (.returned v) w') (hb : Below w.heap.size w w1) (ok : Bool) : PostL w l ok (.returned (.tuple #[v, .bool ok])) w' := by
  obtain ⟨A', cap', e, ho, hn, hb'⟩ := h
  cases e
  exact PostL.mk ho (hn.mono hb.size) (hb.trans (hb'.mono hb.size))
theorem PostI.value {w w' : World} {l : List Int} {e : Ending} (h : PostI w l e w') : ∃ A cap, e = .returned (.slice A l.length cap) ∧ Own w' A 3 (ints l) ∧ New w A ∧ Below w.heap.size w w' := h
def numsTo (C : Int) (l : List (Int × Int)) (k m : Nat) : List Nat := (List.range m).filter fun x => decide (nmb C l x = nmb C l k)
theorem numsTo_yes {C : Int} {l : List (Int × Int)} {k m : Nat} (h : nmb C l m = nmb C l k) : numsTo C l k (m + 1) = numsTo C l k m ++ [m] := by
  unfold numsTo
  rw [List.range_succ, List.filter_append]
  simp [h]
theorem numsTo_no {C : Int} {l : List (Int × Int)} {k m : Nat} (h : ¬ nmb C l m = nmb C l k) : numsTo C l k (m + 1) = numsTo C l k m := by
  unfold numsTo
  rw [List.range_succ, List.filter_append]
  simp [h]
theorem numsTo_len (C : Int) (l : List (Int × Int)) (k m : Nat) : (numsTo C l k m).length ≤ m := by
  unfold numsTo
  have := List.length_filter_le (fun x => decide (nmb C l x = nmb C l k)) (List.range m)
  rwa [List.length_range] at this
theorem numL_at {c : Nat} {l : List (Int × Int)} {x : Nat} (h : x < l.length) : (ints (numL c l))[x]? = some (.int .i64 (nmb (c : Int) l x)) := by
  unfold numL nmb GG
  rw [Int.toNat_natCast]
  exact numV_at h
theorem numL_len (c : Nat) (l : List (Int × Int)) : (numL c l).length = l.length := numV_len _ _
end Go.Proofs.YtlambflmabecfaaGreat
namespace Go.Proofs.YtlambflmabecfaaGreat
open Go.ChangeShapes Go.WideShapes Go.ChangeAt Go.RowKit Go.Joins Go.Deep
set_option linter.unusedSimpArgs false
set_option linter.unusedVariables false
set_option maxRecDepth 100000
set_option maxHeartbeats 2000000
def okJJ (R C : Int) (l : List (Int × Int)) (i j i2 j2 : Int) : Bool := okJ R C l i j && okJ R C l i2 j2
def joinedB (R C : Int) (l : List (Int × Int)) (i j i2 j2 : Int) : Bool := okJJ R C l i j i2 j2 && decide (nmb C l (atI C i j) = nmb C l (atI C i2 j2))
theorem ret_two {a b c d : Bool} (h1 : a = c) (h2 : b = d) : Ending.returned (.tuple #[.bool a, .bool b]) = .returned (.tuple #[.bool c, .bool d]) := by rw [h1, h2]
theorem grpL_has {c k m : Nat} {l : List (Int × Int)} (hm : m < l.length) : ((nI (grpL (c : Int) l k)).take (nI (grpL (c : Int) l k)).length).contains (m : Int) = decide (nmb (c : Int) l k = nmb (c : Int) l m) := by
  rw [List.take_length, Bool.eq_iff_iff, List.contains_iff_mem, decide_eq_true_eq]
  unfold nI grpL
  rw [List.mem_map]
  constructor
  · rintro ⟨x, hx, e⟩
    rw [List.mem_filter, decide_eq_true_eq] at hx
    have : x = m := by omega
    subst this
    exact hx.2.symm
  · intro h
    exact ⟨m, List.mem_filter.2 ⟨List.mem_range.2 hm, by rw [decide_eq_true_eq]; exact h.symm⟩, rfl⟩
theorem grpL_pos {c k : Nat} {l : List (Int × Int)} (hk : k < l.length) : 0 < (grpL (c : Int) l k).length :=
  List.length_pos_of_mem (List.mem_filter.2 ⟨List.mem_range.2 hk, by rw [decide_eq_true_eq]⟩)
end Go.Proofs.YtlambflmabecfaaGreat
namespace Go.Proofs.YtlambflmabecfaaGreat
open Go.ChangeShapes Go.WideShapes Go.ChangeAt Go.RowKit Go.Joins Go.Deep
set_option linter.unusedSimpArgs false
set_option linter.unusedVariables false
set_option maxRecDepth 100000
set_option maxHeartbeats 1000000
theorem listInfo : (Tryz.prog.info? 73).map (fun i => (i.zero, i.size, i.bytes)) = some (some (.slice none 0 0), 1, 24) := by kernel_rfl
/-- The value v is a list of lists of numbers, all of the call's own, whose memory lies from block base on. -/
def LRow (w : World) (base : Nat) (v : Value) (L : List (List Nat)) : Prop :=
  ∃ hs : List Value, hs.length = L.length ∧ w.ownsRow base 73 1 v L.length hs ∧
    ∀ k (h : k < L.length), ∃ A cap, hs[k]? = some (.slice A L[k].length cap) ∧ Own w A 3 (ints (nI L[k])) ∧ ∀ a, A = some a → base ≤ a.block
theorem LRow.nil {w : World} {base : Nat} : LRow w base (.slice none 0 0) [] := ⟨[], rfl, World.ownsRow_nil _ _ _ _, fun k h => absurd h (Nat.not_lt_zero k)⟩
theorem LRow.keep {w w' : World} {base : Nat} {v : Value} {L : List (List Nat)} (h : LRow w base v L) (hb : Below w.heap.size w w') : LRow w' base v L := by
  obtain ⟨hs, h1, h2, h3⟩ := h
  refine ⟨hs, h1, row_keep h2 hb, fun k hk => ?_⟩
  obtain ⟨A, cap, e, ho, hg⟩ := h3 k hk
  exact ⟨A, cap, e, ho.keep hb, hg⟩
theorem Own.keys {w w' : World} {A : Option Addr} {t : TypeId} {xs : List Value} {B nB : Nat} {o : Nat → Bool} (h : Own w A t xs) (hk : Keys w B nB o) (hg : w.grownBy w' (some B)) : Own w' A t xs := fun hx => by
  obtain ⟨g, rest, e, hw⟩ := h hx
  exact ⟨g, rest, e, hw.grown hg (fun e' => hk.whole hw (by cases e'; rfl))⟩
theorem LRow.del {w w' : World} {base : Nat} {v : Value} {L : List (List Nat)} {B nB : Nat} {o : Nat → Bool} (h : LRow w base v L) (hk : Keys w B nB o) (hg : w.grownBy w' (some B)) : LRow w' base v L := by
  obtain ⟨hs, h1, h2, h3⟩ := h
  refine ⟨hs, h1, World.ownsRow.kept h2 hg (.inr fun e => hk.row h2 e.symm), fun k hk' => ?_⟩
  obtain ⟨A, cap, e, ho, hb⟩ := h3 k hk'
  exact ⟨A, cap, e, ho.keys hk hg, hb⟩
theorem one_oneL {A : Option Addr} {n cap : Nat} : ∀ u ∈ [Value.slice A n cap], u.oneCell' = true := by
  intro u hu
  simp only [List.mem_cons, List.not_mem_nil, or_false] at hu
  rw [hu]; rfl
/-- 'L = append(L, x)': x a list that lies in memory; the literal slice of x is the heap's last block. -/
theorem wpList_pushL {w : World} {ops : Array Oper} {rest : List Oper} {o : Oper} {a : Act} {Q : Exit → Act → World → Prop} {base : Nat} {v : Value} {L : List (List Nat)} {x : List Nat} {A0 : Option Addr} {cap0 : Nat}
    (hrow : LRow w base v L) (hn : L.length ≤ 1048576) (hbase : base ≤ w.heap.size) (hx0 : Own w A0 3 (ints (nI x))) (hx1 : ∀ a, A0 = some a → base ≤ a.block)
    (hgd : o.guard = none) (s y : Operand) (ho : o.op = .call { callee := .builtin .append, args := #[s, y], argTypes := #[110, 110] })
    (hs : a.eval s = v) (hx : a.eval y = .slice (some ⟨w.heap.size, 0, none⟩) 1 1)
    (h : ∀ v' w', LRow w' base v' (L ++ [x]) → (w.alloc (.cells #[.slice A0 x.length cap0] 73)).grownBy w' v.ownBlock → Below base w w' → v.ownBlock = none ∨ (∃ k, v.ownBlock = some k ∧ ∃ ys, w.ownsRow base 73 1 v L.length ys) → wpList Tryz.prog ops Q rest (a.put o.dst v') w') :
    wpList Tryz.prog ops Q (o :: rest) a (w.alloc (.cells #[.slice A0 x.length cap0] 73)) := by
  obtain ⟨i0, hi, hz0, hz1, hz2⟩ := info_parts listInfo
  obtain ⟨hs', h1, h2, h3⟩ := hrow
  refine wpList_append_own_at _ hgd s y 110 ho base 73 i0 _ 1 24 Tryz.underlying110 hi hz0 hz1 hz2 rfl (by omega) v L.length hs' hs (World.ownsRow.alloc h2 _) ⟨w.heap.size, 0, none⟩ 1 1 [.slice A0 x.length cap0] hx rfl one_cellI one_oneL (by unfold maxLen; omega) (by omega) (by simp; omega) ?_
  intro v' w' h4 h5 _ _
  have hb : Below base w w' := row_below (World.ownsRow.alloc h2 _) ((Below.refl base w).alloc hbase _) (by simp; omega) h5
  have hkeep : ∀ {A : Option Addr} {xs : List Value}, Own w A 3 xs → Own w' A 3 xs := fun {A xs} ho' hx' => by
    obtain ⟨g, rest', e, hw⟩ := ho' hx'
    exact ⟨g, rest', e, (hw.alloc _).grown h5 (row_apart h2 hw (by decide))⟩
  refine h v' w' ⟨hs' ++ [.slice A0 x.length cap0], by simp [h1], ?_, fun k hk => ?_⟩ h5 hb ?_
  · rw [List.length_append, List.length_singleton]
    exact h4
  · by_cases hk' : k < L.length
    · obtain ⟨A, cap, e, ho', hg⟩ := h3 k hk'
      refine ⟨A, cap, ?_, ?_, hg⟩
      · rw [List.getElem?_append_left (by omega), List.getElem_append_left hk']; exact e
      · rw [List.getElem_append_left hk']; exact hkeep ho'
    · have e : k = L.length := by rw [List.length_append, List.length_singleton] at hk; omega
      subst e
      refine ⟨A0, cap0, ?_, ?_, hx1⟩
      · rw [List.getElem?_append_right (by omega), h1]; simp
      · simpa using hkeep hx0
  · cases hv : v.ownBlock with
    | none => exact .inl rfl
    | some k => exact .inr ⟨k, rfl, hs', h2⟩
theorem LRow.mono {w : World} {base base' : Nat} {v : Value} {L : List (List Nat)} (h : LRow w base v L) (hb : base' ≤ base) : LRow w base' v L := by
  obtain ⟨hs, h1, h2, h3⟩ := h
  refine ⟨hs, h1, ⟨h2.1, ?_⟩, fun k hk => ?_⟩
  · rcases h2.2 with h4 | ⟨g, cap, cur, e, h5, h6⟩
    · exact .inl h4
    · exact .inr ⟨g, cap, cur, e, Nat.le_trans hb h5, h6⟩
  · obtain ⟨A, cap, e, ho, hg⟩ := h3 k hk
    exact ⟨A, cap, e, ho, fun a ha => Nat.le_trans hb (hg a ha)⟩
end Go.Proofs.YtlambflmabecfaaGreat
namespace Go.Proofs.YtlambflmabecfaaGreat
open Go.ChangeShapes Go.WideShapes Go.ChangeAt Go.RowKit Go.Joins Go.Deep
set_option linter.unusedSimpArgs false
set_option linter.unusedVariables false
set_option maxRecDepth 100000
set_option maxHeartbeats 2000000
theorem opn_flat (J : Nat → Bool) (G : List (List Nat)) (q : List Nat) (i : Nat) : opn J (G ++ [q]).flatten [] i = opn J G.flatten q i := by
  rw [Bool.eq_iff_iff, opn_iff, opn_iff, flatten_snoc, List.mem_append]
  constructor
  · rintro ⟨a, b, _⟩; exact ⟨a, fun h => b (.inl h), fun h => b (.inr h)⟩
  · rintro ⟨a, b, c⟩; exact ⟨a, fun h => h.elim b c, List.not_mem_nil⟩
end Go.Proofs.YtlambflmabecfaaGreat
namespace Go.Proofs.YtlambflmabecfaaGreat
open Go.ChangeShapes Go.WideShapes Go.ChangeAt Go.RowKit Go.Joins Go.Deep
set_option linter.unusedSimpArgs false
set_option linter.unusedVariables false
set_option maxRecDepth 100000
set_option maxHeartbeats 2000000
def mostF (n k : Int) : Int := if k + 1 < n then n else k + 1
def most (xs : List Int) : Int := xs.foldl mostF 0
theorem mostF_le (a k : Int) : a ≤ mostF a k ∧ k + 1 ≤ mostF a k ∧ (mostF a k = a ∨ mostF a k = k + 1) := by
  unfold mostF
  split
  · exact ⟨by omega, by omega, .inl rfl⟩
  · exact ⟨by omega, by omega, .inr rfl⟩
theorem fold_most : ∀ (xs : List Int) (a : Int), a ≤ xs.foldl mostF a ∧ (∀ k ∈ xs, k + 1 ≤ xs.foldl mostF a) ∧ (xs.foldl mostF a = a ∨ ∃ k ∈ xs, xs.foldl mostF a = k + 1)
  | [], a => ⟨Int.le_refl _, fun k hk => absurd hk List.not_mem_nil, .inl rfl⟩
  | x :: xs, a => by
    obtain ⟨h1, h2, h3⟩ := fold_most xs (mostF a x)
    obtain ⟨m1, m2, m3⟩ := mostF_le a x
    show a ≤ xs.foldl mostF (mostF a x) ∧ (∀ k ∈ x :: xs, k + 1 ≤ xs.foldl mostF (mostF a x)) ∧ (xs.foldl mostF (mostF a x) = a ∨ ∃ k ∈ x :: xs, xs.foldl mostF (mostF a x) = k + 1)
    refine ⟨by omega, fun k hk => ?_, ?_⟩
    · rcases List.mem_cons.1 hk with e | e
      · subst e; omega
      · exact h2 k e
    · rcases h3 with e | ⟨k, hk, e⟩
      · rcases m3 with e' | e'
        · exact .inl (by omega)
        · exact .inr ⟨x, List.mem_cons_self .., by omega⟩
      · exact .inr ⟨k, List.mem_cons_of_mem _ hk, e⟩
theorem most_take {xs : List Int} {k : Nat} (h : k < xs.length) : most (xs.take (k + 1)) = mostF (most (xs.take k)) xs[k] := by
  unfold most
  rw [List.take_succ_eq_append_getElem h, List.foldl_append]
  rfl
theorem most_num {r c : Nat} {l : List (Int × Int)} (hG : Geo r c l.length) : most (numL c l) = ((GG (c : Int) l).length : Int) := by
  have hA := groups_all hG
  obtain ⟨h1, h2, h3⟩ := fold_most (numL c l) 0
  have hval : ∀ k ∈ numL c l, ∃ x, x < l.length ∧ k = num (GG (c : Int) l) 0 x := by
    intro k hk
    unfold numL numV at hk
    obtain ⟨x, hx, rfl⟩ := List.mem_map.1 hk
    exact ⟨x, List.mem_range.1 hx, by unfold GG; rw [Int.toNat_natCast]⟩
  have hmem : ∀ x, x < l.length → num (GG (c : Int) l) 0 x ∈ numL c l := by
    intro x hx
    unfold numL numV GG
    rw [Int.toNat_natCast]
    exact List.mem_map.2 ⟨x, List.mem_range.2 hx, rfl⟩
  show (numL c l).foldl mostF 0 = _
  generalize hm : (numL c l).foldl mostF 0 = m at *
  rcases Nat.eq_zero_or_pos (GG (c : Int) l).length with hz | hp
  · rcases h3 with e | ⟨k, hk, e⟩
    · omega
    · obtain ⟨x, _, rfl⟩ := hval k hk
      have := (num_ge (j := x) (GG (c : Int) l) 0).2
      omega
  · have hle : m ≤ ((GG (c : Int) l).length : Int) := by
      rcases h3 with e | ⟨k, hk, e⟩
      · omega
      · obtain ⟨x, _, rfl⟩ := hval k hk
        have := (num_ge (j := x) (GG (c : Int) l) 0).2
        omega
    have hlast : (GG (c : Int) l).length - 1 < (GG (c : Int) l).length := by omega
    have hg := List.getElem_mem hlast
    have hne := hA.some_ _ hg
    obtain ⟨x, hx⟩ := List.exists_mem_of_ne_nil _ hne
    have hxn := (hA.cells _ hg x hx).1
    have e1 := (num_is (j := x) _ 0 _ hA.apart (List.getElem?_eq_getElem hlast)).2 hx
    have := h2 _ (hmem x hxn)
    omega
theorem numL_range {c : Nat} {l : List (Int × Int)} (hn : l.length ≤ 90) : ∀ x ∈ numL c l, -1 ≤ x ∧ x ≤ 1048576 := by
  intro k hk
  unfold numL numV at hk
  obtain ⟨x, hx, rfl⟩ := List.mem_map.1 hk
  have h1 := num_ge (j := x) (gat (J l) (nearL c l.length) l.length l.length) 0
  have h2 := gat_len (J l) (nearL c l.length) l.length l.length
  omega
def cntB (R C : Int) (l : List (Int × Int)) : Int := selI (goodB R C l) ((GG C l).length : Int)
theorem LRow.shape {w : World} {base : Nat} {v : Value} {L : List (List Nat)} (h : LRow w base v L) : ∃ A cap, v = .slice A L.length cap := by
  obtain ⟨hs, _, h2, _⟩ := h
  exact slice_of_row h2
end Go.Proofs.YtlambflmabecfaaGreat
namespace Go.Proofs.YtlambflmabecfaaGreat
open Go.ChangeShapes Go.WideShapes Go.ChangeAt Go.RowKit Go.Joins Go.Deep
set_option linter.unusedSimpArgs false
set_option linter.unusedVariables false
set_option maxRecDepth 100000
set_option maxHeartbeats 2000000
def repR (v : Int) (n m : Nat) : List Value := List.replicate m (.int .i64 v) ++ List.replicate (n - m) (.int .i64 0)
theorem repR_len {v : Int} {n m : Nat} (h : m ≤ n) : (repR v n m).length = n := by simp [repR]; omega
theorem repR_splice {v : Int} {n m c : Nat} (h : m + c ≤ n) : splice (repR v n m) m (List.replicate c (.int .i64 v)) = repR v n (m + c) := by
  unfold splice repR
  rw [List.take_append_of_le_length (by simp), List.take_of_length_le (by simp), List.length_replicate, List.drop_append, List.drop_eq_nil_of_le (by simp), List.nil_append, List.length_replicate, List.drop_replicate, ← List.append_assoc, List.replicate_append_replicate]
  congr 2
  omega
theorem repR_at {v : Int} {n m j : Nat} (h : j < m) : (repR v n m)[j]? = some (.int .i64 v) := by
  unfold repR
  rw [List.getElem?_append_left (by simpa using h), List.getElem?_replicate, if_pos h]
theorem intSize : ((Tryz.prog.info? 3).map (·.size)) = some 1 := by
  obtain ⟨i0, hi, hz0, hz1, hz2⟩ := info_parts intInfo
  rw [hi]
  simp [hz1]
theorem wpList_copy_rep {w : World} {ops : Array Oper} {rest : List Oper} {o : Oper} {a : Act} {Q : Exit → Act → World → Prop} (hgd : o.guard = none) (d s : Operand)
    (ho : o.op = .call { callee := .builtin .copy, args := #[d, s], argTypes := #[73, 73] }) (g off dLen dCap sb so sLen sCap : Nat) (hd : a.eval d = .slice (some ⟨g, off, none⟩) dLen dCap) (hs : a.eval s = .slice (some ⟨sb, so, none⟩) sLen sCap)
    (cur : List Value) (hg : Whole w g 3 cur) (c : Nat) (v : Int) (hn : c = min sLen dLen) (hsrc : ∀ j, j < c → w.cell? ⟨sb, so + j, none⟩ = some (.int .i64 v)) (hfit : off + c ≤ cur.length) (B : Nat) (w0 : World) (hb : Below B w0 w) (hBg : B ≤ g)
    (h : ∀ w', Hid (Whole w' g 3 (splice cur off (List.replicate c (.int .i64 v)))) → Below B w0 w' → wpList Tryz.prog ops Q rest (a.put o.dst (goInt c)) w') : wpList Tryz.prog ops Q (o :: rest) a w :=
    wpList_copy_splice hgd d s _ _ ho 3 Tryz.underlying73 intSize _ _ dLen dCap sLen sCap hd hs g off cur 3 hg (List.replicate c (.int .i64 v))
      (by rw [List.length_replicate]; exact hn) (fun _ => ⟨rfl, ⟨sb, so, none⟩, rfl, fun j u hu => by
        have hj := (List.getElem?_eq_some_iff.1 hu).1
        rw [List.length_replicate] at hj
        rw [List.getElem?_replicate, if_pos hj] at hu
        rw [add_plain, hsrc j hj]
        exact hu⟩) (by rw [List.length_replicate]; exact hfit) (fun u hu => by rw [List.mem_replicate] at hu; rw [hu.2]; rfl) B w0 hb hBg (fun w' h1 h2 => by rw [List.length_replicate]; exact h w' h1 h2)
theorem step_copy_rep {ops : Array Oper} {o : Oper} {a : Act} {w : World} {K : Act → World → Prop} {Q : Exit → Act → World → Prop} {E : Prop} (hgd : o.guard = none) (d s : Operand)
    (ho : o.op = .call { callee := .builtin .copy, args := #[d, s], argTypes := #[73, 73] }) (g off dLen dCap sb so sLen sCap : Nat) (hd : a.eval d = .slice (some ⟨g, off, none⟩) dLen dCap) (hs : a.eval s = .slice (some ⟨sb, so, none⟩) sLen sCap)
    (cur : List Value) (hg : Whole w g 3 cur) (c : Nat) (v : Int) (hn : c = min sLen dLen) (hsrc : ∀ j, j < c → w.cell? ⟨sb, so + j, none⟩ = some (.int .i64 v)) (hfit : off + c ≤ cur.length) (B : Nat) (w0 : World) (hb : Below B w0 w) (hBg : B ≤ g)
    (h : ∀ w', Hid (Whole w' g 3 (splice cur off (List.replicate c (.int .i64 v)))) → Below B w0 w' → K (a.put o.dst (goInt c)) w') : if Region.wanted o (yielded ops a.tmps) = true then Oper.wp Tryz.prog o a w K Q else E :=
    step_copy_splice hgd d s _ _ ho 3 Tryz.underlying73 intSize _ _ dLen dCap sLen sCap hd hs g off cur 3 hg (List.replicate c (.int .i64 v))
      (by rw [List.length_replicate]; exact hn) (fun _ => ⟨rfl, ⟨sb, so, none⟩, rfl, fun j u hu => by
        have hj := (List.getElem?_eq_some_iff.1 hu).1
        rw [List.length_replicate] at hj
        rw [List.getElem?_replicate, if_pos hj] at hu
        rw [add_plain, hsrc j hj]
        exact hu⟩) (by rw [List.length_replicate]; exact hfit) (fun u hu => by rw [List.mem_replicate] at hu; rw [hu.2]; rfl) B w0 hb hBg (fun w' h1 h2 => by rw [List.length_replicate]; exact h w' h1 h2)
end Go.Proofs.YtlambflmabecfaaGreat
namespace Go.Proofs.YtlambflmabecfaaGreat
open Go.ChangeShapes Go.WideShapes Go.ChangeAt Go.RowKit Go.Joins Go.Deep
set_option linter.unusedSimpArgs false
set_option linter.unusedVariables false
set_option maxRecDepth 100000
set_option maxHeartbeats 2000000
def gearsB (R C : Int) (l : List (Int × Int)) : List Int := if goodB R C l then numL C.toNat l else []
theorem gearsB_len (R C : Int) (l : List (Int × Int)) (h : l.length ≤ 1048576) : (gearsB R C l).length ≤ 1048576 := by
  unfold gearsB
  split
  · rw [numL_len]; exact h
  · simp
theorem LRow.setCell {w : World} {base g j : Nat} {v u : Value} {L : List (List Nat)} (h : LRow w base v L) (hg : g < base) : LRow (w.setCell ⟨g, j, none⟩ u) base v L := by
  obtain ⟨hs, h1, h2, h3⟩ := h
  refine ⟨hs, h1, ⟨h2.1, ?_⟩, fun k hk => ?_⟩
  · rcases h2.2 with h4 | ⟨q, cap, cur, e, h5, h6, h7⟩
    · exact .inl h4
    · exact .inr ⟨q, cap, cur, e, h5, (Below.heap_setCell w ⟨g, j, none⟩ u q (by show q ≠ g; omega)).trans h6, h7⟩
  · obtain ⟨A, cap, e, ho, hb⟩ := h3 k hk
    refine ⟨A, cap, e, fun hx => ?_, hb⟩
    obtain ⟨q, rest, e', hw⟩ := ho hx
    have := hb _ e'
    exact ⟨q, rest, e', (Below.heap_setCell w ⟨g, j, none⟩ u q (by show q ≠ g; simp at this; omega)).trans hw⟩
/-- The header of the list at place k, and the list. -/
theorem LRow.at_ {w : World} {base : Nat} {v : Value} {L : List (List Nat)} (h : LRow w base v L) {k : Nat} (hk : k < L.length) :
    ∃ go cap0 A cap, v = .slice (some ⟨go, 0, none⟩) L.length cap0 ∧ w.cell? ⟨go, k, none⟩ = some (.slice A L[k].length cap) ∧ Own w A 3 (ints (nI L[k])) ∧ (∀ a, A = some a → base ≤ a.block) ∧ go < w.heap.size := by
  obtain ⟨hs, h1, h2, h3⟩ := h
  obtain ⟨A0, cap0, rfl⟩ := slice_of_row h2
  obtain ⟨A, cap, e, ho, hb⟩ := h3 k hk
  obtain ⟨go, rest, rfl, hw⟩ := (own_of_row h2).1 (by omega)
  refine ⟨go, cap0, A, cap, rfl, ?_, ho, hb, hw.lt⟩
  rw [hw.cell k, List.getElem?_append_left (by omega), e]
theorem num_sort {n x : Nat} (hx : x < n) : ∀ (G : List (List Nat)) (c : Nat), num (G.map (sortN n)) c x = num G c x
  | [], c => rfl
  | g :: G, c => by
    have e : (sortN n g).contains x = g.contains x := by
      rw [Bool.eq_iff_iff, List.contains_iff_mem, List.contains_iff_mem, mem_sortN]
      exact ⟨fun h => h.2, fun h => ⟨hx, h⟩⟩
    show (if (sortN n g).contains x then (c : Int) else num (G.map (sortN n)) (c + 1) x) = _
    rw [e, num_sort hx G (c + 1)]
    rfl
theorem numV_sort {n : Nat} (G : List (List Nat)) : numV n (G.map (sortN n)) = numV n G := by
  unfold numV
  exact List.map_congr_left fun x hx => num_sort (List.mem_range.1 hx) G 0
def srtG (c : Nat) (l : List (Int × Int)) : List (List Nat) := (GG (c : Int) l).map (sortN l.length)
theorem srtG_new {r c t j : Nat} {l : List (Int × Int)} (hG : Geo r c l.length) (ht : t < (srtG c l).length) (hj : j < (srtG c l)[t].length) :
    (srtG c l)[t][j] < l.length ∧ (srtG c l)[t][j] ∉ ((srtG c l).take t).flatten ∧ (srtG c l)[t][j] ∉ (srtG c l)[t].take j := by
  have hA := groups_all hG
  have ht' : t < (GG (c : Int) l).length := by unfold srtG at ht; rwa [List.length_map] at ht
  have e : (srtG c l)[t] = sortN l.length (GG (c : Int) l)[t] := by simp only [srtG, List.getElem_map]
  have hm : (srtG c l)[t][j] ∈ sortN l.length (GG (c : Int) l)[t] := by rw [← e]; exact List.getElem_mem hj
  rw [mem_sortN] at hm
  refine ⟨hm.1, fun h => ?_, fun h => ?_⟩
  · obtain ⟨g, hg, hx⟩ := List.mem_flatten.1 h
    obtain ⟨s, hs, rfl⟩ := List.getElem_of_mem hg
    rw [List.getElem_take] at hx
    have hst : s < t := by rw [List.length_take] at hs; omega
    have e2 : (srtG c l)[s]'(by omega) = sortN l.length ((GG (c : Int) l)[s]'(by omega)) := by simp only [srtG, List.getElem_map]
    rw [e2, mem_sortN] at hx
    have n1 := (num_is (j := (srtG c l)[t][j]) _ 0 t hA.apart (List.getElem?_eq_getElem ht')).2 hm.2
    have n2 := (num_is (j := (srtG c l)[t][j]) _ 0 s hA.apart (List.getElem?_eq_getElem (by omega))).2 hx.2
    omega
  · have hp : (srtG c l)[t].Pairwise (· < ·) := by rw [e]; exact sortN_sorted _ _
    rw [List.mem_iff_getElem] at h
    obtain ⟨i, hi, hie⟩ := h
    rw [List.getElem_take] at hie
    rw [List.length_take] at hi
    have := List.pairwise_iff_getElem.1 hp i j (by omega) hj (by omega)
    omega
theorem srtG_len (c : Nat) (l : List (Int × Int)) : (srtG c l).length ≤ l.length := by
  unfold srtG GG
  rw [List.length_map]
  exact gat_len _ _ _ _
theorem numL_srt (c : Nat) (l : List (Int × Int)) : numV l.length (srtG c l) = numL c l := by
  unfold srtG
  rw [numV_sort]
  unfold numL GG
  rw [Int.toNat_natCast]
theorem srtG_cell (c : Nat) (l : List (Int × Int)) (t : Nat) (ht : t < (srtG c l).length) : (srtG c l)[t].length ≤ l.length := by
  simp only [srtG, List.getElem_map]
  exact sortN_length _
end Go.Proofs.YtlambflmabecfaaGreat
namespace Go.Proofs.YtlambflmabecfaaGreat
open Go.ChangeShapes Go.WideShapes Go.ChangeAt Go.RowKit Go.Joins Go.Deep
set_option linter.unusedSimpArgs false
set_option linter.unusedVariables false
set_option maxRecDepth 100000
set_option maxHeartbeats 2000000
def gearK (l : List (Int × Int)) (x : Nat) : Bool := decide ((l.getD x (0, 0)).1 = 6)
theorem among_yes {l : List (Int × Int)} {q : List Nat} {k : Nat} (h : k < q.length) (hg : gearK l q[k] = true) : (q.take (k + 1)).filter (gearK l) = (q.take k).filter (gearK l) ++ [q[k]] := by
  rw [List.take_succ_eq_append_getElem h, List.filter_append]
  simp [hg]
theorem among_no {l : List (Int × Int)} {q : List Nat} {k : Nat} (h : k < q.length) (hg : gearK l q[k] = false) : (q.take (k + 1)).filter (gearK l) = (q.take k).filter (gearK l) := by
  rw [List.take_succ_eq_append_getElem h, List.filter_append]
  simp [hg]
theorem among_len (l : List (Int × Int)) (q : List Nat) (k : Nat) : ((q.take k).filter (gearK l)).length ≤ q.length := by
  have h1 := List.length_filter_le (gearK l) (q.take k)
  rw [List.length_take] at h1
  omega
theorem impl_gearsAmong (R C : Int) (A : Option Addr) (cap : Nat) (l : List (Int × Int)) (A1 : Option Addr) (cap1 : Nat) (q : List Nat) (w : World) (hr : Rd w w.heap.size A (flat l)) (hq : q.length ≤ 1048576) (hx : ∀ x ∈ q, x < l.length) (h1 : Rd w w.heap.size A1 (ints (nI q))) :
    Calls Tryz.prog 90 #[.agg #[.int .i64 R, .int .i64 C, .slice A l.length cap], .slice A1 q.length cap1] w (PostI w (nI (q.filter (gearK l)))) := by
  go_enter Tryz.func90, Tryz.ntmps90
  obtain ⟨v0, hv0⟩ : ∃ v, v = w.alloc (.cells #[.int .i64 R, .int .i64 C, .slice A l.length cap] 34) := ⟨_, rfl⟩
  have X0 : Whole v0 w.heap.size 34 [.int .i64 R, .int .i64 C, .slice A l.length cap] := by rw [hv0]; exact heap_alloc_new w _
  have hb : Below w.heap.size w v0 := by rw [hv0]; exact (Below.refl _ _).alloc (Nat.le_refl _) _
  have hs : w.heap.size + 1 ≤ v0.heap.size := X0.lt
  have HV := Lib.hid hv0.symm
  clear hv0
  go_upto_region 1 with (fail)
  rewrite [HV.out]
  clear HV
  go_wp2_with fail
  go_loopw [10, 5] (fun t v wr => ∃ k : Nat, t = .int .i64 k ∧ k ≤ q.length ∧ IRow wr (w.heap.size + 1) v (nI ((q.take k).filter (gearK l))) ∧ Whole wr w.heap.size 34 [.int .i64 R, .int .i64 C, .slice A l.length cap] ∧ Below w.heap.size w wr ∧ w.heap.size + 1 ≤ wr.heap.size) (fun t _ _ => q.length - (intOf t).toNat)
  case atStart => exact ⟨0, rfl, Nat.zero_le _, IRow.nil, X0, hb, hs⟩
  case round =>
    clear X0 hb hs
    obtain ⟨k, rfl, hk, hrow, X0, hb, hs⟩ := hrel
    by_cases hlt : k < q.length
    · obtain ⟨b1, o1, rfl, hbl1, hc1⟩ := h1 (by rw [ints_length, nI_length]; omega)
      have hck : wr.cell? ⟨b1, o1 + k, none⟩ = some (.int .i64 (q[k] : Int)) := (hb.cell (p := ⟨b1, o1 + k, none⟩) hbl1).trans (hc1 k _ (nI_at q k hlt))
      have hxl := hx _ (List.getElem_mem hlt)
      obtain ⟨b, o, rfl, hbl, hc⟩ := hr (by rw [flat_length]; omega)
      obtain ⟨hd0, hd1⟩ := cell_at2 hb hbl hc hxl
      have HY := Lib.hid (among_yes (l := l) hlt)
      have HN := Lib.hid (among_no (l := l) hlt)
      have hle := among_len l q k
      have hl5 : (nI ((q.take k).filter (gearK l))).length ≤ 1048576 := by rw [nI_length]; omega
      have hgk : gearK l q[k] = decide (l[q[k]].1 = 6) := by unfold gearK; rw [List.getD_eq_getElem?_getD, List.getElem?_eq_getElem hxl]; rfl
      have X0k0 : wr.cell? ⟨w.heap.size, 0, none⟩ = some (.int .i64 R) := (X0.cell 0).trans rfl; have X0k1 : wr.cell? ⟨w.heap.size, 1, none⟩ = some (.int .i64 C) := (X0.cell 1).trans rfl; have X0k2 : wr.cell? ⟨w.heap.size, 2, none⟩ = some (.slice (some ⟨b, o, none⟩) l.length cap) := (X0.cell 2).trans rfl
      clear hr hc hc1
      generalize l[q[k]].1 = kd at *
      generalize l[q[k]].2 = st at *
      generalize hyy : q[k] = y at *
      by_cases h6 : kd = 6
      · subst h6
        have HE := Lib.hid (HY.out (by rw [hgk]; rfl))
        clear HY HN hgk
        go_wp2_with (first | (at_builtin; refine wpList_push (x0 := (y : Int)) hrow hl5 hs rfl _ _ rfl rfl rfl ?_; intro v6 w6 hrow6 hg6 hb6 hl6; have hX6 := X0.below hb6 (Nat.lt_succ_self _); have hb7 := hb.trans (hb6.mono (Nat.le_succ _)); have hs6 := Nat.le_trans hs hb6.size) | fail)
        go_roundw
        case rel => exact ⟨k + 1, by go_num, by omega, by rw [HE.out, nI_append]; exact hrow6, hX6, hb7, hs6⟩
        case measure => simp [intOf]; omega
      · have HE := Lib.hid (HN.out (by rw [hgk]; exact decide_eq_false h6))
        clear HY HN hgk
        go_wp2_with fail
        go_roundw
        case rel => exact ⟨k + 1, by go_num, by omega, by rw [HE.out]; exact hrow, X0, hb, hs⟩
        case measure => simp [intOf]; omega
    · obtain rfl : k = q.length := by omega
      rw [List.take_length] at hrow
      go_wp2
      go_returns
      exact PostI.of_irow hrow (Nat.le_succ _) hb
def tnS (l : List (Int × Int)) (S : Nat → Bool) : List (Int × Int) := (List.range l.length).map fun x => if S x then ((l.getD x (0, 0)).1, 1 - (l.getD x (0, 0)).2) else l.getD x (0, 0)
theorem tnS_len (l : List (Int × Int)) (S : Nat → Bool) : (tnS l S).length = l.length := by simp [tnS]
theorem tnS_congr {l : List (Int × Int)} {S T : Nat → Bool} (h : ∀ x, x < l.length → S x = T x) : tnS l S = tnS l T := by
  unfold tnS
  exact List.map_congr_left fun x hx => by rw [h x (List.mem_range.1 hx)]
theorem tnS_at {l : List (Int × Int)} {S : Nat → Bool} {x : Nat} (h : x < (tnS l S).length) : (tnS l S)[x] = if S x then ((l.getD x (0, 0)).1, 1 - (l.getD x (0, 0)).2) else l.getD x (0, 0) := by
  simp [tnS]
theorem tnS_none {l : List (Int × Int)} : tnS l (fun _ => false) = l := by
  apply List.ext_getElem (tnS_len _ _)
  intro i h1 h2
  rw [tnS_at h1]
  simp only [Bool.false_eq_true, if_false]
  rw [List.getD_eq_getElem?_getD, List.getElem?_eq_getElem h2]
  rfl
theorem tnS_set {l : List (Int × Int)} {S T : Nat → Bool} {k : Nat} (hk : k < l.length) (hT : ∀ x, x < l.length → T x = (S x || x == k)) :
    (tnS l S).set k ((l.getD k (0, 0)).1, 1 - (l.getD k (0, 0)).2) = tnS l T := by
  apply List.ext_getElem (by rw [List.length_set, tnS_len, tnS_len])
  intro i h1 h2
  rw [List.getElem_set]
  have hi : i < l.length := by rw [tnS_len] at h2; exact h2
  by_cases e : k = i
  · subst e
    rw [if_pos rfl, tnS_at h2, hT k hk]
    simp
  · rw [if_neg e, tnS_at (by rw [tnS_len]; exact hi), tnS_at h2, hT i hi]
    have : (i == k) = false := by simp; omega
    rw [this, Bool.or_false]
theorem cell_two_far {w : World} {g j j' b o : Nat} {u u' : Value} (hne : b ≠ g) : ((w.setCell ⟨g, j, none⟩ u).setCell ⟨g, j', none⟩ u').cell? ⟨b, o, none⟩ = w.cell? ⟨b, o, none⟩ := by
  have h1 := Below.heap_setCell (w.setCell ⟨g, j, none⟩ u) ⟨g, j', none⟩ u' b hne
  have h2 := Below.heap_setCell w ⟨g, j, none⟩ u b hne
  simp only [World.cell?]
  rw [h1, h2]
end Go.Proofs.YtlambflmabecfaaGreat
namespace Go.Proofs.YtlambflmabecfaaGreat
open Go.ChangeShapes Go.WideShapes Go.ChangeAt Go.RowKit Go.Joins Go.Deep
set_option linter.unusedSimpArgs false
set_option linter.unusedVariables false
set_option maxRecDepth 100000
set_option maxHeartbeats 4000000
def isIn (C : Int) (l : List (Int × Int)) (gn : Int) (x : Nat) : Bool := decide (nmb C l x = gn) && gearK l x
def upTo (C : Int) (l : List (Int × Int)) (gn : Int) (k : Nat) (x : Nat) : Bool := decide (x < k) && isIn C l gn x
theorem upTo_zero {C : Int} {l : List (Int × Int)} {gn : Int} : tnS l (upTo C l gn 0) = l := by
  rw [show tnS l (upTo C l gn 0) = tnS l (fun _ => false) from tnS_congr fun x _ => by simp [upTo]]
  exact tnS_none
theorem upTo_yes {C : Int} {l : List (Int × Int)} {gn : Int} {k : Nat} (hk : k < l.length) (h : isIn C l gn k = true) : (tnS l (upTo C l gn k)).set k ((l.getD k (0, 0)).1, 1 - (l.getD k (0, 0)).2) = tnS l (upTo C l gn (k + 1)) := by
  refine tnS_set hk fun x _ => ?_
  unfold upTo
  by_cases e : x = k
  · subst e; simp [h]
  · have e1 : decide (x < k + 1) = decide (x < k) := by rw [decide_eq_decide]; omega
    have e2 : (x == k) = false := by simp [e]
    rw [e1, e2, Bool.or_false]
theorem upTo_no {C : Int} {l : List (Int × Int)} {gn : Int} {k : Nat} (h : isIn C l gn k = false) : tnS l (upTo C l gn (k + 1)) = tnS l (upTo C l gn k) := by
  refine tnS_congr fun x _ => ?_
  unfold upTo
  by_cases e : x = k
  · subst e; simp [h]
  · have e1 : decide (x < k + 1) = decide (x < k) := by rw [decide_eq_decide]; omega
    rw [e1]
theorem upTo_all {C : Int} {l : List (Int × Int)} {gn : Int} : tnS l (upTo C l gn l.length) = tnS l (isIn C l gn) :=
  tnS_congr fun x hx => by unfold upTo; rw [decide_eq_true hx, Bool.true_and]
theorem Whole.two_far {w : World} {g g' j j' : Nat} {t : TypeId} {xs : List Value} {u u' : Value} (h : Whole w g t xs) (hne : g ≠ g') : Whole ((w.setCell ⟨g', j, none⟩ u).setCell ⟨g', j', none⟩ u') g t xs :=
  (Below.heap_setCell (w.setCell ⟨g', j, none⟩ u) ⟨g', j', none⟩ u' g hne).trans ((Below.heap_setCell w ⟨g', j, none⟩ u g hne).trans h)
end Go.Proofs.YtlambflmabecfaaGreat
namespace Go.Proofs.YtlambflmabecfaaGreat
open Go.ChangeShapes Go.WideShapes Go.ChangeAt Go.RowKit Go.Joins Go.Deep
set_option linter.unusedSimpArgs false
set_option linter.unusedVariables false
set_option maxRecDepth 100000
set_option maxHeartbeats 4000000
def pin (nm : List Int) (gn : Int) (l : List (Int × Int)) (x : Nat) : Bool := decide (nm.getD x 0 = gn) && gearK l x
def pup (nm : List Int) (gn : Int) (l : List (Int × Int)) (k : Nat) (x : Nat) : Bool := decide (x < k) && pin nm gn l x
def passL (nm : List Int) (l : List (Int × Int)) (i : Nat) : List (Int × Int) :=
  if (l.getD i (0, 0)).1 = 3 then l.set i ((l.getD i (0, 0)).1, 1 - (l.getD i (0, 0)).2) else if (l.getD i (0, 0)).1 = 6 then tnS l (pin nm (nm.getD i 0) l) else l
theorem pup_zero {nm : List Int} {l : List (Int × Int)} {gn : Int} : tnS l (pup nm gn l 0) = l := by
  rw [show tnS l (pup nm gn l 0) = tnS l (fun _ => false) from tnS_congr fun x _ => by simp [pup]]
  exact tnS_none
theorem pup_yes {nm : List Int} {l : List (Int × Int)} {gn : Int} {k : Nat} (hk : k < l.length) (h : pin nm gn l k = true) : (tnS l (pup nm gn l k)).set k ((l.getD k (0, 0)).1, 1 - (l.getD k (0, 0)).2) = tnS l (pup nm gn l (k + 1)) := by
  refine tnS_set hk fun x _ => ?_
  unfold pup
  by_cases e : x = k
  · subst e; simp [h]
  · have e1 : decide (x < k + 1) = decide (x < k) := by rw [decide_eq_decide]; omega
    have e2 : (x == k) = false := by simp [e]
    rw [e1, e2, Bool.or_false]
theorem pup_no {nm : List Int} {l : List (Int × Int)} {gn : Int} {k : Nat} (h : pin nm gn l k = false) : tnS l (pup nm gn l (k + 1)) = tnS l (pup nm gn l k) := by
  refine tnS_congr fun x _ => ?_
  unfold pup
  by_cases e : x = k
  · subst e; simp [h]
  · have e1 : decide (x < k + 1) = decide (x < k) := by rw [decide_eq_decide]; omega
    rw [e1]
theorem pup_all {nm : List Int} {l : List (Int × Int)} {gn : Int} : tnS l (pup nm gn l l.length) = tnS l (pin nm gn l) :=
  tnS_congr fun x hx => by unfold pup; rw [decide_eq_true hx, Bool.true_and]
theorem passL_len (nm : List Int) (l : List (Int × Int)) (i : Nat) : (passL nm l i).length = l.length := by
  unfold passL
  split
  · rw [List.length_set]
  · split
    · rw [tnS_len]
    · rfl
theorem gb_below {w v v' : World} {g : Nat} (h : w.grownBy v (some g)) (hb : Below v.heap.size v v') : w.grownBy v' (some g) :=
  ⟨hb.os.trans h.os, hb.tape.trans h.tape, hb.output.trans h.output, Nat.le_trans h.size hb.size, fun k hk hne => (hb.block k (Nat.lt_of_lt_of_le hk h.size)).trans (h.block k hk hne)⟩
theorem gb_set2 {w v : World} {g j j' : Nat} {u u' : Value} (h : w.grownBy v (some g)) : w.grownBy ((v.setCell ⟨g, j, none⟩ u).setCell ⟨g, j', none⟩ u') (some g) :=
  ⟨h.os, h.tape, h.output, by rw [World.size_setCell, World.size_setCell]; exact h.size, fun k hk hne => by
    have e : k ≠ g := fun e => hne (by rw [e])
    rw [Below.heap_setCell _ _ _ _ e, Below.heap_setCell _ _ _ _ e]
    exact h.block k hk hne⟩
theorem gb_refl (w : World) (g : Nat) : w.grownBy w (some g) := ⟨rfl, rfl, rfl, Nat.le_refl _, fun _ _ _ => rfl⟩
theorem spec_flPass (R C : Int) (g5 cap g6 c6 : Nat) (l : List (Int × Int)) (nm : List Int) (rest5 rest6 : List Value) (i : Nat) (w : World) (hi : i < l.length) (hn : l.length ≤ 1048576) (hnm : nm.length = l.length) (hgd : ∀ x ∈ l, good x.1 x.2 = true)
    (X7 : Whole w g5 95 (flat l ++ rest5)) (X6 : Whole w g6 3 (ints nm ++ rest6)) :
    Calls Tryz.prog 72 #[.agg #[.int .i64 R, .int .i64 C, .slice (some ⟨g5, 0, none⟩) l.length cap], .slice (some ⟨g6, 0, none⟩) nm.length c6, .int .i64 (i : Int)] w
      fun e w' => e = .returned (.tuple #[]) ∧ Whole w' g5 95 (flat (passL nm l i) ++ rest5) ∧ w.grownBy w' (some g5) := by
  have HGood := Lib.hid (fun k (hk : k < l.length) => hgd _ (List.getElem_mem hk))
  have hget : l.getD i (0, 0) = l[i] := by rw [List.getD_eq_getElem?_getD, List.getElem?_eq_getElem hi]; rfl
  have hc0 : w.cell? ⟨g5, i * 2, none⟩ = some (.int .i64 l[i].1) := (X7.cell _).trans (by rw [List.getElem?_append_left (by rw [flat_length]; omega)]; exact (flat_at l i hi).1)
  have hc1 : w.cell? ⟨g5, i * 2 + 1, none⟩ = some (.int .i64 l[i].2) := (X7.cell _).trans (by rw [List.getElem?_append_left (by rw [flat_length]; omega)]; exact (flat_at l i hi).2)
  have hgi := HGood.out i hi
  have h5l := X7.lt
  have hne65 : g6 ≠ g5 := fun e => by
    subst e
    unfold Whole at X7 X6
    rw [X7] at X6
    injection X6 with X6
    injection X6 with _ ht
    exact absurd ht (by decide)
  rewrite [hnm]
  have HNm := Lib.hid hnm
  clear hgd hnm
  go_enter Tryz.func72, Tryz.ntmps72
  go_upto_region 2 with (fail)
  obtain ⟨v0, hv0, X0, X1, B0, hz0⟩ := two_boxes w [.int .i64 R, .int .i64 C, .slice (some ⟨g5, 0, none⟩) l.length cap] 34 [.int .i64 l[i].1, .int .i64 l[i].2] 95
  rewrite [show (w.alloc (.cells ([.int .i64 R, .int .i64 C, .slice (some ⟨g5, 0, none⟩) l.length cap] : List Value).toArray 34)).alloc (.cells ([.int .i64 l[i].1, .int .i64 l[i].2] : List Value).toArray 95) = v0 from hv0]
  have hg6l := X6.lt
  replace X7 := X7.below B0 X7.lt
  replace X6 := X6.below B0 X6.lt
  have hgb : w.grownBy v0 (some g5) := gb_below (gb_refl w g5) B0
  clear hv0 hc0 hc1 B0
  have k0 : v0.cell? ⟨w.heap.size + 1, 0, none⟩ = some (.int .i64 l[i].1) := (X1.cell 0).trans rfl
  by_cases h3 : l[i].1 = 3
  · have HE := Lib.hid (show passL nm l i = l.set i (3, 1 - l[i].2) by unfold passL; rw [hget, if_pos h3, h3])
    have hgood := hgi
    rw [h3] at hgood k0 X1
    have HSet := Lib.hid (flat_set l i 3 (1 - l[i].2) hi rest5)
    have q0 : (flat l ++ rest5)[i * 2]? = some (.int .i64 l[i].1) := by rw [List.getElem?_append_left (by rw [flat_length]; omega)]; exact (flat_at _ i hi).1
    have q1 : (flat l ++ rest5)[i * 2 + 1]? = some (.int .i64 l[i].2) := by rw [List.getElem?_append_left (by rw [flat_length]; omega)]; exact (flat_at _ i hi).2
    rw [h3] at q0
    rw [h3]
    clear hgi hget h3
    generalize l[i].2 = st at *
    have Q0 := Lib.hid q0
    have Q1 := Lib.hid q1
    clear q0 q1
    have hx0 := X0.lt
    have hx1 := X1.lt
    go_upto_region 4 with (fail)
    have KS := Lib.hid (fun (w' : World) (h : Below v0.heap.size v0 w') => (⟨(h.cell (p := ⟨w.heap.size, 2, none⟩) hx0).trans ((X0.cell 2).trans rfl), (h.cell (p := ⟨w.heap.size + 1, 0, none⟩) hx1).trans k0, (h.cell (p := ⟨w.heap.size + 1, 1, none⟩) hx1).trans ((X1.cell 1).trans rfl)⟩ : w'.cell? ⟨w.heap.size, 2, none⟩ = some (.slice (some ⟨g5, 0, none⟩) l.length cap) ∧ w'.cell? ⟨w.heap.size + 1, 0, none⟩ = some (.int .i64 3) ∧ w'.cell? ⟨w.heap.size + 1, 1, none⟩ = some (.int .i64 st)))
    have KS2 := Lib.hid (fun (w' : World) (u u' : Value) (h : Below v0.heap.size v0 w') => (⟨(cell_two_far (j := i * 2) (j' := i * 2 + 1) (u := u) (u' := u') (show w.heap.size ≠ g5 by omega)).trans (KS.out w' h).1, (cell_two_far (j := i * 2) (j' := i * 2 + 1) (u := u) (u' := u') (show w.heap.size + 1 ≠ g5 by omega)).trans (KS.out w' h).2.1, (cell_two_far (j := i * 2) (j' := i * 2 + 1) (u := u) (u' := u') (show w.heap.size + 1 ≠ g5 by omega)).trans (KS.out w' h).2.2⟩ : ((w'.setCell ⟨g5, i * 2, none⟩ u).setCell ⟨g5, i * 2 + 1, none⟩ u').cell? ⟨w.heap.size, 2, none⟩ = some (.slice (some ⟨g5, 0, none⟩) l.length cap) ∧ ((w'.setCell ⟨g5, i * 2, none⟩ u).setCell ⟨g5, i * 2 + 1, none⟩ u').cell? ⟨w.heap.size + 1, 0, none⟩ = some (.int .i64 3) ∧ ((w'.setCell ⟨g5, i * 2, none⟩ u).setCell ⟨g5, i * 2 + 1, none⟩ u').cell? ⟨w.heap.size + 1, 1, none⟩ = some (.int .i64 st)))
    clear k0
    go_region_held3 (fun w' => w'.cell? ⟨w.heap.size, 2, none⟩ = some (.slice (some ⟨g5, 0, none⟩) l.length cap) ∧ w'.cell? ⟨w.heap.size + 1, 0, none⟩ = some (.int .i64 3) ∧ w'.cell? ⟨w.heap.size + 1, 1, none⟩ = some (.int .i64 st))
            (first | exact KS2.out w5 _ _ bb5 | exact KS.out _ (by (repeat' (first | (with_reducible exact Below.refl _ _) | (with_reducible assumption) | (with_reducible refine Below.alloc ?_ ?_ _) | (with_reducible refine Below.setCell ?_ ?_ _) | (with_reducible refine Below.drew ?_) | (with_reducible refine below_drewN ?_ _) | (with_reducible refine Below.trans ?_ (Below.mono (by assumption) ?_)) | go_size))) | fail)
            ((first | (go_at_call 79; (with_reducible refine (spec_paTurn 3 st hgood _).mono ?_); rintro e w5 ⟨rfl, b5⟩; have bb5 : Below v0.heap.size v0 w5 := (by (repeat' (first | (with_reducible exact Below.refl _ _) | (with_reducible assumption) | (with_reducible refine Below.alloc ?_ ?_ _) | (with_reducible refine Below.setCell ?_ ?_ _) | (with_reducible refine Below.drew ?_) | (with_reducible refine below_drewN ?_ _) | (with_reducible refine Below.trans ?_ (Below.mono (by assumption) ?_)) | go_size))); have X75 := X7.below bb5 X7.lt; have hq0 := (X75.cell (i * 2)).trans Q0.out; have hq1 := (X75.cell (i * 2 + 1)).trans Q1.out; have hf0 := X75.frozen (i * 2); have hf1 := X75.frozen (i * 2 + 1)) | fail))
    have X7' := (X75.set (i * 2) (.int .i64 3)).set (i * 2 + 1) (.int .i64 (1 - st))
    rw [HSet.out, ← HE.out] at X7'
    have hgb' := gb_set2 (j := i * 2) (j' := i * 2 + 1) (u := .int .i64 3) (u' := .int .i64 (1 - st)) (gb_below hgb bb5)
    clear KS KS2 X0 X1 X6 X7 X75 hgb hq0 hq1 hf0 hf1 bb5 b5
    go_wp2
    go_returns
    exact ⟨rfl, X7', hgb'⟩
  · by_cases h6 : l[i].1 = 6
    · have HE := Lib.hid (show passL nm l i = tnS l (pin nm (nm.getD i 0) l) by unfold passL; rw [hget, if_neg h3, if_pos h6])
      rw [h6] at k0 ⊢
      rw [← pup_zero (nm := nm) (l := l) (gn := nm.getD i 0)] at X7
      generalize hgn : nm.getD i 0 = gn at *
      have hx0 := X0.lt
      have kb := (X0.cell 2).trans rfl
      go_upto_region 7 with (fail)
      clear k0 kb hgi h3 h6 X1 hget
      generalize l[i].2 = sti
      go_wp2
      go_loopw [29] (fun t wr => ∃ k : Nat, t = .int .i64 k ∧ k ≤ l.length ∧ Whole wr w.heap.size 34 [.int .i64 R, .int .i64 C, .slice (some ⟨g5, 0, none⟩) l.length cap] ∧ Whole wr g5 95 (flat (tnS l (pup nm gn l k)) ++ rest5) ∧ Whole wr g6 3 (ints nm ++ rest6) ∧ w.grownBy wr (some g5)) (fun t _ => l.length - (intOf t).toNat)
      case atStart => exact ⟨0, rfl, Nat.zero_le _, X0, X7, X6, hgb⟩
      case round =>
        clear X0 X7 X6 hgb hx0
        obtain ⟨k, rfl, hk, X0, X7, X6, hgb⟩ := hrel
        by_cases hlt : k < l.length
        · have hTl : k < (tnS l (pup nm gn l k)).length := by rw [tnS_len]; exact hlt
          have hget : l.getD k (0, 0) = l[k] := by rw [List.getD_eq_getElem?_getD, List.getElem?_eq_getElem hlt]; rfl
          have hTk : (tnS l (pup nm gn l k))[k] = l[k] := by rw [tnS_at hTl, ← hget]; unfold pup; simp
          have hc0 : wr.cell? ⟨g5, k * 2, none⟩ = some (.int .i64 l[k].1) := (X7.cell _).trans (by rw [List.getElem?_append_left (by rw [flat_length, tnS_len]; omega), ← hTk]; exact (flat_at _ k hTl).1)
          have hc1 : wr.cell? ⟨g5, k * 2 + 1, none⟩ = some (.int .i64 l[k].2) := (X7.cell _).trans (by rw [List.getElem?_append_left (by rw [flat_length, tnS_len]; omega), ← hTk]; exact (flat_at _ k hTl).2)
          have hn0 : ∀ x, x < nm.length → (ints nm ++ rest6)[x]? = some (.int .i64 (nm.getD x 0)) := fun x hx => by
            rw [List.getElem?_append_left (by rw [ints_length]; exact hx), ints_at nm x hx, List.getD_eq_getElem?_getD, List.getElem?_eq_getElem hx]; rfl
          have hgood := HGood.out k hlt
          have HIn := Lib.hid (show pin nm gn l k = (decide (nm.getD k 0 = gn) && decide (l[k].1 = 6)) by unfold pin gearK; rw [hget])
          have HY := Lib.hid (pup_yes (nm := nm) (gn := gn) hlt)
          have HN := Lib.hid (pup_no (nm := nm) (l := l) (gn := gn) (k := k))
          rw [hget] at HY
          have HSet := Lib.hid (fun y => flat_set (tnS l (pup nm gn l k)) k 6 y hTl rest5)
          have q0 : (flat (tnS l (pup nm gn l k)) ++ rest5)[k * 2]? = some (.int .i64 l[k].1) := by rw [List.getElem?_append_left (by rw [flat_length, tnS_len]; omega), ← hTk]; exact (flat_at _ k hTl).1
          have q1 : (flat (tnS l (pup nm gn l k)) ++ rest5)[k * 2 + 1]? = some (.int .i64 l[k].2) := by rw [List.getElem?_append_left (by rw [flat_length, tnS_len]; omega), ← hTk]; exact (flat_at _ k hTl).2
          clear hget hTk
          generalize l[k].1 = kd at *
          generalize l[k].2 = st at *
          go_upto_region 9 with (fail)
          have X9 : Whole (wr.alloc (.cells #[.int .i64 kd, .int .i64 st] 95)) wr.heap.size 95 [.int .i64 kd, .int .i64 st] := heap_alloc_new wr _
          have b9 : Below wr.heap.size wr (wr.alloc (.cells #[.int .i64 kd, .int .i64 st] 95)) := (Below.refl _ _).alloc (Nat.le_refl _) _
          have hsz := hgb.size
          have hg5r := X7.lt
          have hYw : w.heap.size < wr.heap.size := X0.lt
          replace X0 := X0.below b9 X0.lt
          replace X7 := X7.below b9 X7.lt
          replace X6 := X6.below b9 X6.lt
          replace hgb := gb_below hgb b9
          clear b9 hc0 hc1
          generalize wr.alloc (.cells #[.int .i64 kd, .int .i64 st] 95) = v9 at *
          generalize wr.heap.size = Y at *
          have y0 : v9.cell? ⟨Y, 0, none⟩ = some (.int .i64 kd) := (X9.cell 0).trans rfl
          have hnk : v9.cell? ⟨g6, k, none⟩ = some (.int .i64 (nm.getD k 0)) := (X6.cell k).trans (hn0 k (by have := HNm.out; omega))
          have hni : v9.cell? ⟨g6, i, none⟩ = some (.int .i64 gn) := by rw [← hgn]; exact (X6.cell i).trans (hn0 i (by have := HNm.out; omega))
          by_cases h66 : kd = 6
          · subst h66
            by_cases hnm2 : nm.getD k 0 = gn
            · have HE2 := Lib.hid (HY.out (by rw [HIn.out, decide_eq_true hnm2]; rfl))
              rw [hnm2] at hnk
              clear HY HN HIn hnm2 hn0
              have Q0 := Lib.hid q0
              have Q1 := Lib.hid q1
              clear q0 q1
              have hx0 := X0.lt
              have hx1 := X9.lt
              go_upto_region 9 with (fail)
              go_quiet (fail)
              have bq : Below v9.heap.size v9 (v9.drewN nq) := below_drewN (Below.refl _ _) _
              replace X0 := X0.below bq X0.lt
              replace X7 := X7.below bq X7.lt
              replace X6 := X6.below bq X6.lt
              replace hgb := gb_below hgb bq
              replace X9 := X9.below bq X9.lt
              replace y0 := (X9.cell 0).trans rfl
              clear hnk hni
              clear bq
              generalize v9.drewN nq = v9 at *
              replace hx0 := X0.lt
              replace hx1 := X9.lt
              go_upto_region 10 with (fail)
              have KS := Lib.hid (fun (w' : World) (h : Below v9.heap.size v9 w') => (⟨(h.cell (p := ⟨w.heap.size, 2, none⟩) hx0).trans ((X0.cell 2).trans rfl), (h.cell (p := ⟨Y, 0, none⟩) hx1).trans y0, (h.cell (p := ⟨Y, 1, none⟩) hx1).trans ((X9.cell 1).trans rfl)⟩ : w'.cell? ⟨w.heap.size, 2, none⟩ = some (.slice (some ⟨g5, 0, none⟩) l.length cap) ∧ w'.cell? ⟨Y, 0, none⟩ = some (.int .i64 6) ∧ w'.cell? ⟨Y, 1, none⟩ = some (.int .i64 st)))
              have KS2 := Lib.hid (fun (w' : World) (u u' : Value) (h : Below v9.heap.size v9 w') => (⟨(cell_two_far (j := k * 2) (j' := k * 2 + 1) (u := u) (u' := u') (show w.heap.size ≠ g5 by omega)).trans (KS.out w' h).1, (cell_two_far (j := k * 2) (j' := k * 2 + 1) (u := u) (u' := u') (show Y ≠ g5 by omega)).trans (KS.out w' h).2.1, (cell_two_far (j := k * 2) (j' := k * 2 + 1) (u := u) (u' := u') (show Y ≠ g5 by omega)).trans (KS.out w' h).2.2⟩ : ((w'.setCell ⟨g5, k * 2, none⟩ u).setCell ⟨g5, k * 2 + 1, none⟩ u').cell? ⟨w.heap.size, 2, none⟩ = some (.slice (some ⟨g5, 0, none⟩) l.length cap) ∧ ((w'.setCell ⟨g5, k * 2, none⟩ u).setCell ⟨g5, k * 2 + 1, none⟩ u').cell? ⟨Y, 0, none⟩ = some (.int .i64 6) ∧ ((w'.setCell ⟨g5, k * 2, none⟩ u).setCell ⟨g5, k * 2 + 1, none⟩ u').cell? ⟨Y, 1, none⟩ = some (.int .i64 st)))
              clear y0
              go_region_held3 (fun w' => w'.cell? ⟨w.heap.size, 2, none⟩ = some (.slice (some ⟨g5, 0, none⟩) l.length cap) ∧ w'.cell? ⟨Y, 0, none⟩ = some (.int .i64 6) ∧ w'.cell? ⟨Y, 1, none⟩ = some (.int .i64 st))
            (first | exact KS2.out w5 _ _ bb5 | exact KS.out _ (by (repeat' (first | (with_reducible exact Below.refl _ _) | (with_reducible assumption) | (with_reducible refine Below.alloc ?_ ?_ _) | (with_reducible refine Below.setCell ?_ ?_ _) | (with_reducible refine Below.drew ?_) | (with_reducible refine below_drewN ?_ _) | (with_reducible refine Below.trans ?_ (Below.mono (by assumption) ?_)) | go_size))) | fail)
            ((first | (go_at_call 79; (with_reducible refine (spec_paTurn 6 st hgood _).mono ?_); rintro e w5 ⟨rfl, b5⟩; have bb5 : Below v9.heap.size v9 w5 := (by (repeat' (first | (with_reducible exact Below.refl _ _) | (with_reducible assumption) | (with_reducible refine Below.alloc ?_ ?_ _) | (with_reducible refine Below.setCell ?_ ?_ _) | (with_reducible refine Below.drew ?_) | (with_reducible refine below_drewN ?_ _) | (with_reducible refine Below.trans ?_ (Below.mono (by assumption) ?_)) | go_size))); have X75 := X7.below bb5 X7.lt; have hq0 := (X75.cell (k * 2)).trans Q0.out; have hq1 := (X75.cell (k * 2 + 1)).trans Q1.out; have hf0 := X75.frozen (k * 2); have hf1 := X75.frozen (k * 2 + 1)) | fail))
              have X7' := (X75.set (k * 2) (.int .i64 6)).set (k * 2 + 1) (.int .i64 (1 - st))
              rw [HSet.out, HE2.out] at X7'
              have hgb' := gb_set2 (j := k * 2) (j' := k * 2 + 1) (u := .int .i64 6) (u' := .int .i64 (1 - st)) (gb_below hgb bb5)
              have X0' := (X0.below bb5 X0.lt).two_far (u := .int .i64 6) (u' := .int .i64 (1 - st)) (j := k * 2) (j' := k * 2 + 1) (show w.heap.size ≠ g5 by omega)
              have X6' := (X6.below bb5 X6.lt).two_far (u := .int .i64 6) (u' := .int .i64 (1 - st)) (j := k * 2) (j' := k * 2 + 1) hne65
              clear KS KS2 X0 X9 X6 X7 X75 hgb hq0 hq1 hf0 hf1 bb5 b5
              go_wp2
              go_roundw
              case rel => exact ⟨k + 1, by go_num, by omega, X0', X7', X6', hgb'⟩
              case measure => simp [intOf]; omega
            · have HE2 := Lib.hid (HN.out (by rw [HIn.out, decide_eq_false hnm2, Bool.false_and]))
              clear HY HN HIn hn0
              generalize nm.getD k 0 = nk at *
              go_upto_region 9 with (fail)
              go_quiet (fail)
              have bq : Below v9.heap.size v9 (v9.drewN nq) := below_drewN (Below.refl _ _) _
              replace X0 := X0.below bq X0.lt
              replace X7 := X7.below bq X7.lt
              replace X6 := X6.below bq X6.lt
              replace hgb := gb_below hgb bq
              clear y0 hnk hni X9
              clear bq
              generalize v9.drewN nq = v9 at *
              go_wp2
              go_roundw
              case rel => exact ⟨k + 1, by go_num, by omega, X0, by rw [HE2.out]; exact X7, X6, hgb⟩
              case measure => simp [intOf]; omega
          · have HE2 := Lib.hid (HN.out (by rw [HIn.out, decide_eq_false h66, Bool.and_false]))
            clear HY HN HIn hnk hni
            go_upto_region 9 with (fail)
            go_quiet (fail)
            have bq : Below v9.heap.size v9 (v9.drewN nq) := below_drewN (Below.refl _ _) _
            replace X0 := X0.below bq X0.lt
            replace X7 := X7.below bq X7.lt
            replace X6 := X6.below bq X6.lt
            replace hgb := gb_below hgb bq
            clear y0 X9
            clear bq
            generalize v9.drewN nq = v9 at *
            go_wp2
            go_roundw
            case rel => exact ⟨k + 1, by go_num, by omega, X0, by rw [HE2.out]; exact X7, X6, hgb⟩
            case measure => simp [intOf]; omega
        · obtain rfl : k = l.length := by omega
          rw [pup_all, ← HE.out] at X7
          go_wp2
          go_returns
          exact ⟨rfl, X7, hgb⟩
    · have HE := Lib.hid (show passL nm l i = l by unfold passL; rw [hget, if_neg h3, if_neg h6])
      generalize l[i].1 = kd at *
      go_wp2
      go_returns
      exact ⟨rfl, by rw [HE.out]; exact X7, hgb⟩
end Go.Proofs.YtlambflmabecfaaGreat
