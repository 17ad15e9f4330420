/- l1Split, the model's: a text cut at each occurrence of a byte. -/
import Derived.Test.YtdcaohmcidmigaaParse1
namespace Go.Proofs.Ytdcaohmcidmigaa
open Go.ChangeShapes Go.WideShapes Go.ChangeAt Go.RowKit Go.Joins Go.Deep
set_option linter.unusedSimpArgs false
set_option linter.unusedVariables false
set_option maxRecDepth 100000
set_option maxHeartbeats 2000000
theorem strInfo : (Try.prog.info? 9).map (fun i => (i.zero, i.size, i.bytes)) = some (some (.string ⟨#[]⟩), 1, 16) := by kernel_rfl
def strV (ls : List (List UInt8)) : List Value := ls.map fun l => .string ⟨l.toArray⟩
theorem strV_len (ls : List (List UInt8)) : (strV ls).length = ls.length := by simp [strV]
theorem strV_app (a : List (List UInt8)) (x : List UInt8) : strV (a ++ [x]) = strV a ++ [.string ⟨x.toArray⟩] := by simp [strV]
theorem extract_list (s : ByteArray) (f i : Nat) : s.extract f i = ⟨((s.data.toList.drop f).take (i - f)).toArray⟩ := by
  apply ByteArray.ext
  rw [ByteArray.data_extract]
  apply Array.toList_inj.1
  rw [Array.toList_extract]
theorem spl_hit {b : UInt8} {L : List UInt8} {i : Nat} (h : L.getD i 0 = b) : spl b L (i + 1) = ((spl b L i).1 ++ [(L.drop (spl b L i).2).take (i - (spl b L i).2)], i + 1) := by
  show (if L.getD i 0 = b then _ else _) = _
  rw [if_pos h]
theorem spl_miss {b : UInt8} {L : List UInt8} {i : Nat} (h : L.getD i 0 ≠ b) : spl b L (i + 1) = spl b L i := by
  show (if L.getD i 0 = b then _ else _) = _
  rw [if_neg h]
theorem row_cap {w : World} {base : Nat} {e : TypeId} {size n cap : Nat} {A : Option Addr} {xs : List Value} (h : w.ownsRow base e size (.slice A n cap) n xs) : n ≤ cap := by
  rcases h.2 with ⟨e, h0⟩ | ⟨g, cap', cur, e, _, _, h1, _⟩
  · omega
  · cases e; exact h1
theorem one_str {w : World} {x : Value} {t : TypeId} : ∀ j u, [x][j]? = some u → (w.alloc (.cells #[x] t)).cell? ((⟨w.heap.size, 0, none⟩ : Addr).add j) = some u := by
  intro j u h
  cases j with
  | zero =>
    have := (heap_alloc_new w (.cells #[x] t))
    simp at h
    subst h
    exact (cell_of_row _ _ 0 _ _ _ this).trans rfl
  | succ j => simp at h
theorem spec_l1Split (s : ByteArray) (b : UInt8) (w : World) (hn : s.size ≤ 1048576) :
    Calls Try.prog 57 #[.string s, .int .u8 (b.toNat : Int)] w fun e w' => ∃ A' cap', e = .returned (.slice A' (linesOf b s.data.toList).length cap') ∧ Own w' A' 9 (strV (linesOf b s.data.toList)) ∧ New w A' ∧ Below w.heap.size w w' ∧ (linesOf b s.data.toList).length ≤ cap' := by
  obtain ⟨i0, hi, hz0, hz1, hz2⟩ := info_parts strInfo
  have hlen : s.data.toList.length = s.size := by simp
  go_enter Try.func57, Try.ntmps57
  go_wp2
  go_loopw [5, 6, 7] (fun v f i wr => ∃ k : Nat, k ≤ s.size ∧ i = .int .i64 k ∧ f = .int .i64 ((spl b s.data.toList k).2 : Int) ∧ wr.ownsRow w.heap.size 9 1 v (spl b s.data.toList k).1.length (strV (spl b s.data.toList k).1) ∧ Below w.heap.size w wr) (fun _ _ i _ => s.size - (intOf i).toNat)
  case atStart => exact ⟨0, Nat.zero_le _, rfl, rfl, World.ownsRow_nil _ _ _ _, Below.refl _ _⟩
  case round =>
    obtain ⟨k, hk, rfl, rfl, hown, hb⟩ := hrel
    obtain ⟨hf, hc⟩ := spl_le b s.data.toList k
    have hs := hb.size
    by_cases hlt : k < s.size
    · have e0 : s.data.toList.getD k 0 = s[k]'hlt := by
        have h1 := bytes_at s k hlt
        rw [List.getD_eq_getElem?_getD, h1]
        rfl
      have HH := Lib.hid (fun h => spl_hit (b := b) (L := s.data.toList) (i := k) h)
      have HM := Lib.hid (fun h => spl_miss (b := b) (L := s.data.toList) (i := k) h)
      have HE := Lib.hid (extract_list s (spl b s.data.toList k).2 k)
      rw [e0] at HH HM
      have hwk : IntKind.i64.wrap ((k : Int) + 1) = (k : Int) + 1 := IntWalk.i64_in _ (by omega)
      generalize hsp : spl b s.data.toList k = sp at *
      obtain ⟨o, f⟩ := sp
      dsimp only at hf hc hown HH HM HE
      by_cases hbk : s[k]'hlt = b
      · have eb : (((s[k]'hlt).toNat : Int) == (b.toNat : Int)) = true := by rw [hbk]; simp
        go_wp2_with (first | (at_builtin; go_loud (refine wpList_append_own _ rfl (.tmp 19) (.tmp 24) 78 rfl w.heap.size 9 i0 _ 1 16 Try.underlying78 hi hz0 hz1 hz2 rfl (by omega) u5 o.length _ rfl (hown.alloc _) ⟨wr.heap.size, 0, none⟩ 1 1 [.string (s.extract f k)] rfl rfl one_str (by intro u hu; rw [List.mem_singleton] at hu; subst hu; rfl) (by unfold maxLen; omega) (by omega) (by rw [World.size_alloc]; omega) ?_; intro v3 w3 hown3 hg3 _)) | fail)
        have hb3 : Below w.heap.size w w3 := row_below (hown.alloc _) (hb.alloc hs _) (by rw [World.size_alloc]; omega) hg3
        go_roundw
        case rel =>
          refine ⟨k + 1, by omega, by go_num, ?_, ?_, hb3⟩
          · rw [HH.out hbk]; go_num
          · rw [HH.out hbk]
            dsimp only
            rw [List.length_append, strV_app, ← HE.out]
            exact hown3
        case measure => simp [intOf]; omega
      · have eb : (((s[k]'hlt).toNat : Int) == (b.toNat : Int)) = false := by
          rw [beq_eq_false_iff_ne]; intro e; exact hbk (UInt8.toNat_inj.1 (by omega))
        go_wp2
        go_roundw
        case rel =>
          refine ⟨k + 1, by omega, by go_num, ?_, ?_, hb⟩
          · rw [HM.out hbk]
          · rw [HM.out hbk]; exact hown
        case measure => simp [intOf]; omega
    · obtain rfl : k = s.size := by omega
      have HE := Lib.hid (extract_list s (spl b s.data.toList s.size).2 s.size)
      have HL := Lib.hid (show linesOf b s.data.toList = (spl b s.data.toList s.size).1 ++ [(s.data.toList.drop (spl b s.data.toList s.size).2).take (s.size - (spl b s.data.toList s.size).2)] by
        unfold linesOf
        rw [hlen, List.take_of_length_le (by rw [List.length_drop]; omega)])
      generalize hsp : spl b s.data.toList s.size = sp at *
      obtain ⟨o, f⟩ := sp
      dsimp only at hf hc hown HE HL
      go_wp2_with (first | (at_builtin; go_loud (refine wpList_append_own _ rfl (.tmp 28) (.tmp 32) 78 rfl w.heap.size 9 i0 _ 1 16 Try.underlying78 hi hz0 hz1 hz2 rfl (by omega) u5 o.length _ rfl (hown.alloc _) ⟨wr.heap.size, 0, none⟩ 1 1 [.string (s.extract f s.size)] rfl rfl one_str (by intro u hu; rw [List.mem_singleton] at hu; subst hu; rfl) (by unfold maxLen; omega) (by omega) (by rw [World.size_alloc]; omega) ?_; intro v3 w3 hown3 hg3 _)) | fail)
      have hb3 : Below w.heap.size w w3 := row_below (hown.alloc _) (hb.alloc hs _) (by rw [World.size_alloc]; omega) hg3
      rw [HE.out, ← strV_app, ← HL.out] at hown3
      have hll : o.length + 1 = (linesOf b s.data.toList).length := by rw [HL.out, List.length_append]; rfl
      rw [hll] at hown3
      obtain ⟨A2, c2, rfl⟩ := slice_of_row hown3
      have hcap := row_cap hown3
      have ho := own_of_row hown3
      go_returns
      exact ⟨A2, c2, rfl, ho.1, ho.2, hb3, hcap⟩
end Go.Proofs.Ytdcaohmcidmigaa
