/- ParseBoard, the program. -/
import Derived.Test.YtdcaohmcidmigaaShelf
import Derived.Test.YtdcaohmcidmigaaBoxes
import Derived.Test.YtdcaohmcidmigaaParseS
import Derived.Test.YtdcaohmcidmigaaParse1
namespace Go.Proofs.Ytdcaohmcidmigaa
open Go.ChangeShapes Go.WideShapes Go.ChangeAt Go.RowKit Go.Joins Go.Deep
set_option linter.unusedSimpArgs false
set_option linter.unusedVariables false
set_option maxRecDepth 100000
set_option maxHeartbeats 4000000
def cq (L : List UInt8) (p : Nat) : List (Int × Int) := cellsB ((L.take p).filter (· != 10))
def plTo (c : Nat) (L : List UInt8) (p : Nat) : Prop := ∀ i, i < p → (L.getD i 0 = 10 ∧ i % (c + 1) = c) ∨ okB (L.getD i 0) = true
theorem cq_skip {L : List UInt8} {p : Nat} (h : p < L.length) (hb : L[p] = 10) : cq L (p + 1) = cq L p := by
  unfold cq
  rw [List.take_succ_eq_append_getElem h, List.filter_append, hb, List.filter_cons_of_neg (by simp)]
  simp
theorem cq_cell {L : List UInt8} {p : Nat} (h : p < L.length) (hb : L[p] ≠ 10) : cq L (p + 1) = cq L p ++ [cellB L[p]] := by
  unfold cq
  rw [List.take_succ_eq_append_getElem h, List.filter_append, List.filter_cons_of_pos (by simpa using hb), cellsB, List.map_append]
  rfl
theorem cq_len (L : List UInt8) (p : Nat) : (cq L p).length ≤ p := by
  unfold cq cellsB
  rw [List.length_map]
  exact Nat.le_trans (List.length_filter_le _ _) (by rw [List.length_take]; omega)
theorem plTo_skip {c p : Nat} {L : List UInt8} (hp : plTo c L p) (h : p < L.length) (hb : L[p] = 10) (hm : p % (c + 1) = c) : plTo c L (p + 1) := fun i hi => by
  rcases Nat.lt_or_eq_of_le (Nat.lt_succ_iff.1 hi) with h3 | rfl
  · exact hp i h3
  · left; refine ⟨?_, hm⟩; rw [List.getD_eq_getElem?_getD, List.getElem?_eq_getElem h, hb]; rfl
theorem plTo_cell {c p : Nat} {L : List UInt8} (hp : plTo c L p) (h : p < L.length) (hb : okB L[p] = true) : plTo c L (p + 1) := fun i hi => by
  rcases Nat.lt_or_eq_of_le (Nat.lt_succ_iff.1 hi) with h3 | rfl
  · exact hp i h3
  · right; rw [List.getD_eq_getElem?_getD, List.getElem?_eq_getElem h]; exact hb
theorem plTo_bad {c p : Nat} {L : List UInt8} (h : p < L.length) (hb : okB L[p] = false) (hm : ¬ (L[p] = 10 ∧ p % (c + 1) = c)) : okPl c L = false := by
  rw [Bool.eq_false_iff]
  intro hx
  have e : L.getD p 0 = L[p] := by rw [List.getD_eq_getElem?_getD, List.getElem?_eq_getElem h]; rfl
  rcases okPl_iff.1 hx p h with h1 | h1
  · rw [e] at h1; exact hm h1
  · rw [e, hb] at h1; cases h1
theorem okQ_false {L : List UInt8} (h : okPl (prC L).toNat L = false) : okQ L = false := by unfold okQ; rw [h, Bool.and_false]
theorem impl_ParseBoard (s : ByteArray) (w : World) (hn : s.size ≤ 1048576) :
    Calls Try.prog 16 #[.string s] w (PostB w (selI (okQ s.data.toList) (prR s.data.toList)) (selI (okQ s.data.toList) (prC s.data.toList)) (prL s.data.toList) (okQ s.data.toList)) := by
  obtain ⟨i0, hi, hz0, hz1, hz2⟩ := info_parts cellInfo
  have hlen : s.data.toList.length = s.size := by simp
  have hlo : -1 ≤ prC s.data.toList := Lib.indexByte_ge _ _
  have hco : 0 ≤ prR s.data.toList := by unfold prR; omega
  have hcn : ∀ w : World, Calls Try.prog 38 #[.string s, .string ⟨#[10]⟩] w fun e w' => e = .returned (.int .i64 (prR s.data.toList)) ∧ w' = w := fun w => Try.strings_Count_one s 10 w
  have hix : ∀ w : World, Calls Try.prog 39 #[.string s, .int .u8 10] w fun e w' => e = .returned (.int .i64 (prC s.data.toList)) ∧ w' = w := fun w => Try.strings_IndexByte s 10 w
  have HC := Lib.hid hcn
  have HX := Lib.hid hix
  clear hcn hix
  rcases Bool.eq_false_or_eq_true (sizeB (prR s.data.toList) (prC s.data.toList)) with hs | hs
  · obtain ⟨s1, s2, s3, s4⟩ := sizeB_iff.1 hs
    obtain ⟨r, hr⟩ : ∃ r : Nat, prR s.data.toList = (r : Int) := ⟨(prR s.data.toList).toNat, by omega⟩
    obtain ⟨c, hc⟩ : ∃ c : Nat, prC s.data.toList = (c : Int) := ⟨(prC s.data.toList).toNat, by omega⟩
    have HS := Lib.hid (show sizeB (r : Int) (c : Int) = true by rw [← hr, ← hc]; exact hs)
    have m1 : IntKind.i64.wrap ((c : Int) + 1) = (c : Int) + 1 := IntWalk.i64_in _ (by omega)
    have hrc : r * (c + 1) ≤ 10 * 10 := Nat.mul_le_mul (by omega) (by omega)
    have hrc2 : r * c ≤ 10 * 9 := Nat.mul_le_mul (by omega) (by omega)
    have m2 : IntKind.i64.wrap ((r : Int) * ((c : Int) + 1)) = (r : Int) * ((c : Int) + 1) := by
      have e : (r : Int) * ((c : Int) + 1) = ((r * (c + 1) : Nat) : Int) := by push_cast; rfl
      rw [e]; exact IntWalk.i64_in _ (by omega)
    have m3 : IntKind.i64.wrap ((r : Int) * (c : Int)) = (r : Int) * (c : Int) := by
      have e : (r : Int) * (c : Int) = ((r * c : Nat) : Int) := by push_cast; rfl
      rw [e]; exact IntWalk.i64_in _ (by omega)
    rw [hr] at HC s1 s2
    rw [hc] at HX s3 s4
    rw [hr, hc]
    by_cases hl : s.size = r * (c + 1)
    · have hmk := run_make_cells0 (r * c) (by omega)
      rw [Int.natCast_mul] at hmk
      go_enter Try.func16, Try.ntmps16
      go_wp2_with (first
        | (go_at_call 38; refine (HC.out _).mono ?_; rintro e w1 ⟨rfl, rfl⟩)
        | (go_at_call 39; refine (HX.out _).mono ?_; rintro e w1 ⟨rfl, rfl⟩)
        | (go_at_call 40; refine (impl_isBoardSize _ _ _).mono ?_; rintro e w1 ⟨rfl, rfl⟩; rw [HS.out]))
      go_loopw [6] (fun v wr => ∃ p : Nat, p ≤ s.size ∧ plTo c s.data.toList p ∧ wr.ownsRow w.heap.size 45 2 v (cq s.data.toList p).length (flat (cq s.data.toList p)) ∧ wr.heap[w.heap.size + 1 + 1]? = some (.stringIter s p) ∧ Whole wr w.heap.size 30 [.int .i64 0, .int .i64 0, .slice none 0 0] ∧ Below w.heap.size w wr) (fun _ wr => s.size - wr.iterPos (w.heap.size + 1 + 1))
      case atStart =>
        refine ⟨0, Nat.zero_le _, fun i hi => absurd hi (Nat.not_lt_zero i), ?_, ?_, ?_, ?_⟩
        · refine ⟨rfl, .inr ⟨w.heap.size + 1, r * c, (zrow (2 * (r * c))).toArray, rfl, Nat.le_succ _, ?_, Nat.zero_le _, by unfold maxLen; omega, by simp [zrow, Nat.mul_comm], by rw [show (cq s.data.toList 0).length = 0 from rfl, Nat.zero_mul, List.take_zero]; rfl⟩⟩
          show (((w.alloc _).alloc _).alloc _).heap[w.heap.size + 1]? = _
          rw [Below.heap_alloc _ _ _ (by simp)]
          have h := heap_alloc_new (w.alloc (.cells #[.int .i64 0, .int .i64 0, .slice none 0 0] 30)) (.cells (zrow (2 * (r * c))).toArray 45)
          rw [World.size_alloc] at h
          exact h
        · have := World.iter_heap ((w.alloc (.cells #[.int .i64 0, .int .i64 0, .slice none 0 0] 30)).alloc (.cells (zrow (2 * (r * c))).toArray 45)) s 0
          simpa using this
        · exact ((Whole.alloc (heap_alloc_new w _) _).alloc _)
        · exact (((Below.refl _ _).alloc (Nat.le_refl _) _).alloc (by simp) _).alloc (by simp; omega) _
      case round =>
        obtain ⟨p, hp, hpl, hown, hit, X0, hb⟩ := hrel
        have hpos : wr.iterPos (w.heap.size + 1 + 1) = p := by simp [World.iterPos, hit]
        have hzi : w.heap.size + 1 + 1 < wr.heap.size := (Array.getElem?_eq_some_iff.1 hit).1
        by_cases hlt : p < s.size
        · have hltL : p < s.data.toList.length := by omega
          have eL : s.data.toList[p] = s[p]'hlt := by
            have h1 := bytes_at s p hlt
            rw [List.getElem?_eq_getElem hltL] at h1
            exact Option.some.inj h1
          have HSk := Lib.hid (fun hb => cq_skip hltL hb)
          have HCe := Lib.hid (fun hb => cq_cell hltL hb)
          have HPs := Lib.hid (fun hb hm => plTo_skip hpl hltL hb hm)
          have HPc := Lib.hid (fun hb => plTo_cell hpl hltL hb)
          have HPb := Lib.hid (fun hb hm => okQ_false (L := s.data.toList) (by rw [hc]; exact plTo_bad (c := c) hltL hb hm))
          rw [eL] at HSk HCe HPs HPc HPb
          have hq100 := cq_len s.data.toList p
          have hrem : Int.tmod (p : Int) ((c : Int) + 1) = (p : Int) % ((c : Int) + 1) := Int.tmod_eq_emod_of_nonneg (by omega)
          have hc0 : ¬ ((c : Int) + 1 = 0) := by omega
          by_cases h128 : (s[p]'hlt).toNat < 128
          · have hnx := fun ty => Lib.run_next_ascii_at (P := Try.prog) wr (w.heap.size + 1 + 1) s p ty hit hlt h128
            have own2 := row_iterAt hown hit (p + 1)
            have it2 := Lib.iterAt_heap wr (w.heap.size + 1 + 1) s p (p + 1) hit
            have b2 : Below w.heap.size w (wr.iterAt (w.heap.size + 1 + 1) s (p + 1)) := Lib.below_iterAt hb (by omega) s (p + 1)
            have X2 : Whole (wr.iterAt (w.heap.size + 1 + 1) s (p + 1)) w.heap.size 30 [.int .i64 0, .int .i64 0, .slice none 0 0] := (Lib.iterAt_other wr (w.heap.size + 1 + 1) w.heap.size s (p + 1) (by omega)).trans X0
            have sz2 := Lib.iterAt_size wr (w.heap.size + 1 + 1) s (p + 1)
            have HS2 := Lib.hid sz2
            have HP := Lib.hid hpos
            clear hown hpl hb hit hpos sz2 X0
            generalize wr.iterAt (w.heap.size + 1 + 1) s (p + 1) = wi at *
            have szi : w.heap.size + 1 + 1 < wi.heap.size := by have := HS2.out; omega
            by_cases h10 : s[p]'hlt = 10
            · have e10 : (((s[p]'hlt).toNat : Int) == 10) = true := by rw [h10]; rfl
              by_cases hm : p % (c + 1) = c
              · have em : ((p : Int) % ((c : Int) + 1) == (c : Int)) = true := by rw [beq_iff_eq]; exact_mod_cast hm
                generalize ((s[p]'hlt).toNat : Int) = lt at *
                go_wp2
                refine ⟨⟨p + 1, by omega, HPs.out h10 hm, by rw [HSk.out h10]; exact own2, it2, X2, b2⟩, ?_⟩
                rw [show wi.iterPos (w.heap.size + 1 + 1) = p + 1 by simp [World.iterPos, it2], HP.out]
                omega
              · have em : ((p : Int) % ((c : Int) + 1) == (c : Int)) = false := by rw [beq_eq_false_iff_ne]; intro e; apply hm; exact_mod_cast e
                have e3 : (rrC 10).isSome = false := by decide +kernel
                go_wp2_with fail
                refine (impl_cellWith _ _).mono ?_; rintro e w1 ⟨rfl, b1⟩
                rw [e3]
                have hb1 : Below w.heap.size w w1 := b2.trans (b1.mono (by omega))
                have X1 := X2.below b1 X2.lt
                have hx1' := X1.lt
                have HOk := Lib.hid (show okQ s.data.toList = false from HPb.out (by rw [h10]; exact okB_ten) (fun q => hm q.2))
                have hs1 : w.heap.size + 1 + 1 < w1.heap.size := Nat.lt_of_lt_of_le szi b1.size
                have X1k0 : w1.cell? ⟨w.heap.size, 0, none⟩ = some (.int .i64 0) := (X1.cell 0).trans rfl; have X1k1 : w1.cell? ⟨w.heap.size, 1, none⟩ = some (.int .i64 0) := (X1.cell 1).trans rfl; have X1k2 : w1.cell? ⟨w.heap.size, 2, none⟩ = some (.slice none 0 0) := (X1.cell 2).trans rfl
                have X1f0 := X1.frozen 0; have X1f1 := X1.frozen 1; have X1f2 := X1.frozen 2
                clear e3 b1 b2
                go_wp2
                have hpr : prL s.data.toList = [] := by unfold prL; rw [HOk.out]; rfl
                rw [HOk.out, hpr]
                refine bodyPost_ret (v := .tuple #[.agg #[.int .i64 0, .int .i64 0, .slice none 0 0], .bool false]) ?_ rfl ?_; (focus (simp [results, Try.results16, go_sem, *]; done))
                exact PostB.none_ (by (repeat' (first | (with_reducible exact Below.refl _ _) | (with_reducible assumption) | (with_reducible refine Below.alloc ?_ ?_ _) | (with_reducible refine Below.setCell ?_ ?_ _) | (with_reducible refine Below.drew ?_) | (with_reducible refine below_drewN ?_ _) | (with_reducible refine Below.trans ?_ (Below.mono (by assumption) ?_)) | (with_reducible exact Nat.le_refl _) | (simp; done) | omega | (simp at *; omega))))
            · have e10 : (((s[p]'hlt).toNat : Int) == 10) = false := by
                rw [beq_eq_false_iff_ne]; intro e; apply h10; exact UInt8.toNat_inj.1 (by show (s[p]'hlt).toNat = 10; omega)
              rcases Bool.eq_false_or_eq_true (okB (s[p]'hlt)) with ho | ho
              · go_wp2_with fail
                refine (impl_cellWith _ _).mono ?_; rintro e w1 ⟨rfl, b1⟩
                have hb1 : Below w.heap.size w w1 := b2.trans (b1.mono (by omega))
                have own1 := row_keep own2 b1
                have it1 : w1.heap[w.heap.size + 1 + 1]? = some (.stringIter s (p + 1)) := (b1.block _ szi).trans it2
                have X1 := X2.below b1 X2.lt
                have hx1' := X1.lt
                have hs1 : w.heap.size + 1 + 1 < w1.heap.size := Nat.lt_of_lt_of_le szi b1.size
                have e1 : rrK ((s[p]'hlt).toNat : Int) = (cellB (s[p]'hlt)).1 := rfl
                have e2 : rrS ((s[p]'hlt).toNat : Int) = (cellB (s[p]'hlt)).2 := rfl
                have e3 : (rrC ((s[p]'hlt).toNat : Int)).isSome = true := ho
                have HO := Lib.hid ho
                have HN := Lib.hid (HCe.out h10)
                rw [e1, e2, e3]
                clear e1 e2 e3 ho b1 own2 it2 b2 X2
                have HF := Lib.hid (show flat [cellB (s[p]'hlt)] = [.int .i64 (cellB (s[p]'hlt)).1, .int .i64 (cellB (s[p]'hlt)).2] from rfl)
                generalize (cellB (s[p]'hlt)).1 = x at *
                generalize (cellB (s[p]'hlt)).2 = y at *
                go_wp2_with (first | (at_builtin; refine wpList_append_own _ rfl (.tmp 57) (.tmp 59) 28 rfl w.heap.size 45 i0 _ 2 16 Try.underlying28 hi hz0 hz1 hz2 rfl (by omega) u6 (cq s.data.toList p).length _ rfl ((own1.alloc _).alloc _) ⟨w1.heap.size + 1, 0, none⟩ 1 1 [.int .i64 x, .int .i64 y] rfl rfl two_cells2 two_one (by unfold maxLen; omega) (by omega) (by simp; omega) ?_; intro v3 w3 hown3 hg3 _) | fail)
                have hb3 : Below w.heap.size w w3 := row_below ((own1.alloc _).alloc _) ((hb1.alloc (by omega) _).alloc (by simp; omega) _) (by simp; omega) hg3
                have it3 : w3.heap[w.heap.size + 1 + 1]? = some (.stringIter s (p + 1)) := by
                  refine (hg3.block _ (by simp; omega) (fun h => row_iter own1 it1 h.symm)).trans ?_
                  rw [Below.heap_alloc _ _ _ (by simp; omega), Below.heap_alloc _ _ _ (by omega)]
                  exact it1
                have X3 := ((X1.alloc _).alloc _).grown hg3 (row_apart own1 X1 (by decide))
                refine ⟨⟨p + 1, by omega, HPc.out HO.out, by rw [HN.out, flat_append, HF.out, List.length_append]; exact hown3, it3, X3, hb3⟩, ?_⟩
                rw [show w3.iterPos (w.heap.size + 1 + 1) = p + 1 by simp [World.iterPos, it3], HP.out]
                omega
              · have e3 : (rrC ((s[p]'hlt).toNat : Int)).isSome = false := ho
                go_wp2_with fail
                refine (impl_cellWith _ _).mono ?_; rintro e w1 ⟨rfl, b1⟩
                rw [e3]
                have hb1 : Below w.heap.size w w1 := b2.trans (b1.mono (by omega))
                have X1 := X2.below b1 X2.lt
                have hx1' := X1.lt
                have HOk := Lib.hid (show okQ s.data.toList = false from HPb.out ho (fun q => h10 q.1))
                have hs1 : w.heap.size + 1 + 1 < w1.heap.size := Nat.lt_of_lt_of_le szi b1.size
                have X1k0 : w1.cell? ⟨w.heap.size, 0, none⟩ = some (.int .i64 0) := (X1.cell 0).trans rfl; have X1k1 : w1.cell? ⟨w.heap.size, 1, none⟩ = some (.int .i64 0) := (X1.cell 1).trans rfl; have X1k2 : w1.cell? ⟨w.heap.size, 2, none⟩ = some (.slice none 0 0) := (X1.cell 2).trans rfl
                have X1f0 := X1.frozen 0; have X1f1 := X1.frozen 1; have X1f2 := X1.frozen 2
                clear e3 b1 b2
                go_wp2
                have hpr : prL s.data.toList = [] := by unfold prL; rw [HOk.out]; rfl
                rw [HOk.out, hpr]
                refine bodyPost_ret (v := .tuple #[.agg #[.int .i64 0, .int .i64 0, .slice none 0 0], .bool false]) ?_ rfl ?_; (focus (simp [results, Try.results16, go_sem, *]; done))
                exact PostB.none_ (by (repeat' (first | (with_reducible exact Below.refl _ _) | (with_reducible assumption) | (with_reducible refine Below.alloc ?_ ?_ _) | (with_reducible refine Below.setCell ?_ ?_ _) | (with_reducible refine Below.drew ?_) | (with_reducible refine below_drewN ?_ _) | (with_reducible refine Below.trans ?_ (Below.mono (by assumption) ?_)) | (with_reducible exact Nat.le_refl _) | (simp; done) | omega | (simp at *; omega))))
          · have hnx := fun ty => Lib.run_next_any_at (P := Try.prog) wr (w.heap.size + 1 + 1) s p ty hit hlt
            have hd := (decode_high s p hlt (by omega)).1
            have b2 : Below w.heap.size w (wr.iterAt (w.heap.size + 1 + 1) s (p + (Utf8.decode s p).2)) := Lib.below_iterAt hb (by omega) s _
            have sz2 := Lib.iterAt_size wr (w.heap.size + 1 + 1) s (p + (Utf8.decode s p).2)
            have X2 : Whole (wr.iterAt (w.heap.size + 1 + 1) s (p + (Utf8.decode s p).2)) w.heap.size 30 [.int .i64 0, .int .i64 0, .slice none 0 0] := (Lib.iterAt_other wr (w.heap.size + 1 + 1) w.heap.size s _ (by omega)).trans X0
            have HS2 := Lib.hid sz2
            have HOk := Lib.hid (show okQ s.data.toList = false from HPb.out (okB_high (by omega)) (fun q => by have h1 := q.1; rw [h1] at h128; exact h128 (by decide)))
            clear hown hpl hb hit hpos sz2 X0
            generalize wr.iterAt (w.heap.size + 1 + 1) s (p + (Utf8.decode s p).2) = wi at *
            have szi : w.heap.size + 1 + 1 < wi.heap.size := by have := HS2.out; omega
            generalize (Utf8.decode s p).1 = r0 at *
            have e10 : ((r0 : Int) == 10) = false := by rw [beq_eq_false_iff_ne]; omega
            go_wp2_with fail
            refine (impl_cellWith _ _).mono ?_; rintro e w1 ⟨rfl, b1⟩
            have e3 : (rrC (r0 : Int)).isSome = false := by rw [rr_high (by omega)]; rfl
            rw [e3]
            have hb1 : Below w.heap.size w w1 := b2.trans (b1.mono (by omega))
            have X1 := X2.below b1 X2.lt
            have hx1' := X1.lt
            have hs1 : w.heap.size + 1 + 1 < w1.heap.size := Nat.lt_of_lt_of_le szi b1.size
            have X1k0 : w1.cell? ⟨w.heap.size, 0, none⟩ = some (.int .i64 0) := (X1.cell 0).trans rfl; have X1k1 : w1.cell? ⟨w.heap.size, 1, none⟩ = some (.int .i64 0) := (X1.cell 1).trans rfl; have X1k2 : w1.cell? ⟨w.heap.size, 2, none⟩ = some (.slice none 0 0) := (X1.cell 2).trans rfl
            have X1f0 := X1.frozen 0; have X1f1 := X1.frozen 1; have X1f2 := X1.frozen 2
            clear e3 b1 b2
            go_wp2
            have hpr : prL s.data.toList = [] := by unfold prL; rw [HOk.out]; rfl
            rw [HOk.out, hpr]
            refine bodyPost_ret (v := .tuple #[.agg #[.int .i64 0, .int .i64 0, .slice none 0 0], .bool false]) ?_ rfl ?_; (focus (simp [results, Try.results16, go_sem, *]; done))
            exact PostB.none_ (by (repeat' (first | (with_reducible exact Below.refl _ _) | (with_reducible assumption) | (with_reducible refine Below.alloc ?_ ?_ _) | (with_reducible refine Below.setCell ?_ ?_ _) | (with_reducible refine Below.drew ?_) | (with_reducible refine below_drewN ?_ _) | (with_reducible refine Below.trans ?_ (Below.mono (by assumption) ?_)) | (with_reducible exact Nat.le_refl _) | (simp; done) | omega | (simp at *; omega))))
        · have hnx := fun ty => Lib.run_next_end_at (P := Try.prog) wr (w.heap.size + 1 + 1) s p ty hit hlt
          obtain rfl : p = s.size := by omega
          have hok : okQ s.data.toList = true := by
            unfold okQ
            rw [hr, hc, HS.out, hlen, Int.toNat_natCast, okPl_iff.2 (fun i hi => hpl i (by omega)), show decide ((s.size : Int) = (r : Int) * ((c : Int) + 1)) = true from by rw [decide_eq_true_eq, hl]; push_cast; rfl]
            rfl
          have hpr : prL s.data.toList = cq s.data.toList s.size := by
            unfold prL cq
            rw [hok, if_pos rfl, ← hlen, List.take_length]
          generalize cq s.data.toList s.size = Q at *
          obtain ⟨A2, c2, rfl⟩ := slice_of_row hown
          have ho := own_of_row hown
          have hap : 0 < (flat (Q)).length → ∀ a, A2 = some a → w.heap.size ≠ a.block := fun hx a ha => (own_apart ho.1 X0 (by decide) hx ha).symm
          have hz0' := X0.lt
          have X0k0 : wr.cell? ⟨w.heap.size, 0, none⟩ = some (.int .i64 0) := (X0.cell 0).trans rfl; have X0k1 : wr.cell? ⟨w.heap.size, 1, none⟩ = some (.int .i64 0) := (X0.cell 1).trans rfl; have X0k2 : wr.cell? ⟨w.heap.size, 2, none⟩ = some (.slice none 0 0) := (X0.cell 2).trans rfl
          have X0f0 := X0.frozen 0; have X0f1 := X0.frozen 1; have X0f2 := X0.frozen 2
          clear hown hpl hit hpos
          go_wp2
          refine bodyPost_ret (v := .tuple #[.agg #[.int .i64 (r : Int), .int .i64 (c : Int), .slice A2 (Q).length c2], .bool true]) ?_ rfl ?_; (focus (simp [results, Try.results16, go_sem, *]; done))
          rw [hok, hpr]
          exact PostB.mk (((ho.1.set_far2 ⟨w.heap.size, 0, none⟩ (.int .i64 (r : Int)) hap).set_far2 ⟨w.heap.size, 1, none⟩ (.int .i64 (c : Int)) hap).set_far2 ⟨w.heap.size, 2, none⟩ (.slice A2 (Q).length c2) hap) ho.2 (by (repeat' (first | (with_reducible exact Below.refl _ _) | (with_reducible assumption) | (with_reducible refine Below.alloc ?_ ?_ _) | (with_reducible refine Below.setCell ?_ ?_ _) | (with_reducible refine Below.drew ?_) | (with_reducible refine below_drewN ?_ _) | (with_reducible refine Below.trans ?_ (Below.mono (by assumption) ?_)) | (with_reducible exact Nat.le_refl _) | (simp; done) | omega | (simp at *; omega))))
    · have hok : okQ s.data.toList = false := by
        unfold okQ
        rw [hr, hc, hlen, show decide ((s.size : Int) = (r : Int) * ((c : Int) + 1)) = false from by
          rw [decide_eq_false_iff_not]; intro e; apply hl; exact_mod_cast e, Bool.and_false, Bool.false_and]
      unfold prL
      rw [hok]
      have hne : ((s.size : Int) != (r : Int) * ((c : Int) + 1)) = true := by
        rw [bne_iff_ne]; intro e; apply hl; exact_mod_cast e
      go_enter Try.func16, Try.ntmps16
      go_wp2_with (first
        | (go_at_call 38; refine (HC.out _).mono ?_; rintro e w1 ⟨rfl, rfl⟩)
        | (go_at_call 39; refine (HX.out _).mono ?_; rintro e w1 ⟨rfl, rfl⟩)
        | (go_at_call 40; refine (impl_isBoardSize _ _ _).mono ?_; rintro e w1 ⟨rfl, rfl⟩; rw [HS.out]))
      refine bodyPost_ret (v := .tuple #[.agg #[.int .i64 0, .int .i64 0, .slice none 0 0], .bool false]) ?_ rfl ?_; (focus (simp [results, Try.results16, go_sem, *]; done))
      exact PostB.none_ (by (repeat' (first | (with_reducible exact Below.refl _ _) | (with_reducible assumption) | (with_reducible refine Below.alloc ?_ ?_ _) | (with_reducible refine Below.setCell ?_ ?_ _) | (with_reducible refine Below.drew ?_) | (with_reducible refine below_drewN ?_ _) | (with_reducible refine Below.trans ?_ (Below.mono (by assumption) ?_)) | (with_reducible exact Nat.le_refl _) | (simp; done) | omega | (simp at *; omega))))
  · have hok : okQ s.data.toList = false := by unfold okQ; rw [hs, Bool.false_and, Bool.false_and]
    unfold prL
    rw [hok]
    go_enter Try.func16, Try.ntmps16
    go_wp2_with (first
      | (go_at_call 38; refine (HC.out _).mono ?_; rintro e w1 ⟨rfl, rfl⟩)
      | (go_at_call 39; refine (HX.out _).mono ?_; rintro e w1 ⟨rfl, rfl⟩)
      | (go_at_call 40; refine (impl_isBoardSize _ _ _).mono ?_; rintro e w1 ⟨rfl, rfl⟩; rw [hs]))
    refine bodyPost_ret (v := .tuple #[.agg #[.int .i64 0, .int .i64 0, .slice none 0 0], .bool false]) ?_ rfl ?_; (focus (simp [results, Try.results16, go_sem, *]; done))
    exact PostB.none_ (by (repeat' (first | (with_reducible exact Below.refl _ _) | (with_reducible assumption) | (with_reducible refine Below.alloc ?_ ?_ _) | (with_reducible refine Below.setCell ?_ ?_ _) | (with_reducible refine Below.drew ?_) | (with_reducible refine below_drewN ?_ _) | (with_reducible refine Below.trans ?_ (Below.mono (by assumption) ?_)) | (with_reducible exact Nat.le_refl _) | (simp; done) | omega | (simp at *; omega))))
end Go.Proofs.Ytdcaohmcidmigaa
