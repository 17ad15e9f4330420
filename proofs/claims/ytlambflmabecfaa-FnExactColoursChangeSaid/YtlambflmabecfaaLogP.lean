/- AgreeingEntries, PeriodOf: the model's and the program's. -/
import Derived.BigQuiet
import Derived.Test.YtlambflmabecfaaLogB
namespace Go.Proofs.Ytlambflmabecfaa
open Go.ChangeShapes Go.WideShapes Go.ChangeAt Go.RowKit Go.Joins Go.Deep
set_option linter.unusedSimpArgs false
set_option linter.unusedVariables false
set_option maxRecDepth 100000
set_option maxHeartbeats 4000000
theorem spec_AgreeingEntries (A : Option Addr) (cap : Nat) (l : List LE) (A' : Option Addr) (cap' : Nat) (m : List LE) (w : World) (hn : l.length ≤ 1048576) (hr : Rd w w.heap.size A (flatL l)) (hn' : m.length ≤ 1048576) (hr' : Rd w w.heap.size A' (flatL m)) :
    Calls Try.prog 30 #[.slice A l.length cap, .slice A' m.length cap'] w fun e w' => e = .returned (.tuple #[.int .i64 (selI (okLog l && okLog m) (agreeL l m : Int)), .bool (okLog l && okLog m)]) ∧ Below w.heap.size w w' := by
  go_enter Try.func30, Try.ntmps30
  go_wp2_with fail
  refine (spec_loGood _ _ _ _ hn hr).mono ?_; rintro e w1 ⟨rfl, b1⟩
  rcases Bool.eq_false_or_eq_true (okLog l) with h1 | h1
  · rewrite [h1]
    go_wp2_with fail
    refine (spec_loGood _ _ _ _ hn' ((hr'.below b1).mono b1.size)).mono ?_; rintro e w2 ⟨rfl, b2⟩
    have b0 := b1.trans (b2.mono b1.size)
    clear b1 b2
    rcases Bool.eq_false_or_eq_true (okLog m) with h2 | h2
    · rewrite [h2]
      have s0 := b0.size
      go_wp2_with fail
      refine (spec_loAgree _ _ _ _ _ _ _ hn ((hr.below b0).mono b0.size) ((hr'.below b0).mono b0.size)).mono ?_; rintro e w3 ⟨rfl, b3⟩
      go_wp2
      go_returns
      exact ⟨by first | rfl | (rw [h1, h2]; rfl), by (repeat' (first | (with_reducible exact Below.refl _ _) | (with_reducible assumption) | (with_reducible refine Below.alloc ?_ ?_ _) | (with_reducible refine Below.setCell ?_ ?_ _) | (with_reducible refine Below.drew ?_) | (with_reducible refine below_drewN ?_ _) | (with_reducible refine Below.trans ?_ (Below.mono (by assumption) ?_)) | (with_reducible exact Nat.le_refl _) | (simp; done) | omega | (simp at *; omega)))⟩
    · rewrite [h2]
      go_wp2
      go_returns
      exact ⟨by first | rfl | (rw [h1, h2]; rfl), b0⟩
  · rewrite [h1]
    go_wp2
    go_returns
    exact ⟨by first | rfl | (rw [h1]; rfl), by (repeat' (first | (with_reducible exact Below.refl _ _) | (with_reducible assumption) | (with_reducible refine Below.alloc ?_ ?_ _) | (with_reducible refine Below.setCell ?_ ?_ _) | (with_reducible refine Below.drew ?_) | (with_reducible refine below_drewN ?_ _) | (with_reducible refine Below.trans ?_ (Below.mono (by assumption) ?_)) | (with_reducible exact Nat.le_refl _) | (simp; done) | omega | (simp at *; omega)))⟩
theorem impl_AgreeingEntries (A : Option Addr) (cap : Nat) (l : List LE) (A' : Option Addr) (cap' : Nat) (m : List LE) (w : World) (hn : l.length ≤ 1048576) (hr : Rd w w.heap.size A (flatL l)) (hn' : m.length ≤ 1048576) (hr' : Rd w w.heap.size A' (flatL m)) :
    Calls Try.prog 31 #[.slice A l.length cap, .slice A' m.length cap'] w fun e w' => e = .returned (.tuple #[.int .i64 (selI (okLog l && okLog m) (agreeL l m : Int)), .bool (okLog l && okLog m)]) ∧ Below w.heap.size w w' := by
  go_enter Try.func31, Try.ntmps31
  go_wp2_with fail
  refine (impl_IsLog _ _ _ _ hn hr).mono ?_; rintro e w1 ⟨rfl, b1⟩
  rcases Bool.eq_false_or_eq_true (okLog l) with h1 | h1
  · rewrite [h1]
    go_wp2_with fail
    refine (impl_IsLog _ _ _ _ hn' ((hr'.below b1).mono b1.size)).mono ?_; rintro e w2 ⟨rfl, b2⟩
    have b0 := b1.trans (b2.mono b1.size)
    clear b1 b2
    rcases Bool.eq_false_or_eq_true (okLog m) with h2 | h2
    · rewrite [h2]
      have s0 := b0.size
      go_wp2_with fail
      refine (impl_countAgreeing _ _ _ _ _ _ _ hn ((hr.below b0).mono b0.size) ((hr'.below b0).mono b0.size)).mono ?_; rintro e w3 ⟨rfl, b3⟩
      go_wp2
      go_returns
      exact ⟨by first | rfl | (rw [h1, h2]; rfl), by (repeat' (first | (with_reducible exact Below.refl _ _) | (with_reducible assumption) | (with_reducible refine Below.alloc ?_ ?_ _) | (with_reducible refine Below.setCell ?_ ?_ _) | (with_reducible refine Below.drew ?_) | (with_reducible refine below_drewN ?_ _) | (with_reducible refine Below.trans ?_ (Below.mono (by assumption) ?_)) | (with_reducible exact Nat.le_refl _) | (simp; done) | omega | (simp at *; omega)))⟩
    · rewrite [h2]
      go_wp2
      go_returns
      exact ⟨by first | rfl | (rw [h1, h2]; rfl), b0⟩
  · rewrite [h1]
    go_wp2
    go_returns
    exact ⟨by first | rfl | (rw [h1]; rfl), by (repeat' (first | (with_reducible exact Below.refl _ _) | (with_reducible assumption) | (with_reducible refine Below.alloc ?_ ?_ _) | (with_reducible refine Below.setCell ?_ ?_ _) | (with_reducible refine Below.drew ?_) | (with_reducible refine below_drewN ?_ _) | (with_reducible refine Below.trans ?_ (Below.mono (by assumption) ?_)) | (with_reducible exact Nat.le_refl _) | (simp; done) | omega | (simp at *; omega)))⟩
theorem sliceL_l (A : Option Addr) (n cap l : Nat) (hc : l ≤ n) (w : World) :
    (Instr.slice 25 (.slice A n cap) (some (.int .i64 (l : Int))) none none).run Try.prog w = .ok (.slice (if cap = l then A else A.map (·.add (l * 4))) (n - l) (cap - l)) w := by
  rw [run_slice_l w 25 A n cap Try.underlying25 .i64 (l : Int) (by omega) (by omega)]
  have hs : (sizeOf (Try.prog.elem 25)).run Try.prog w = .ok 4 w := by rfl
  rw [hs]
  simp only [Result.andThen, sliced, Int.toNat_natCast]
theorem flatL_split (l : List LE) (k : Nat) (hk : k ≤ l.length) (j : Nat) : (flatL l)[k * 4 + j]? = (flatL (l.drop k))[j]? := by
  have e2 : flatL l = flatL (l.take k) ++ flatL (l.drop k) := by rw [← flatL_app, List.take_append_drop]
  have e3 : (flatL (l.take k)).length = k * 4 := by rw [flatL_len, List.length_take]; omega
  rw [e2, List.getElem?_append_right (by omega), e3, Nat.add_sub_cancel_left]
theorem addr_addL (b o k : Nat) : (⟨b, o, none⟩ : Addr).add k = ⟨b, o + k, none⟩ := by
  unfold Addr.add
  split <;> simp_all
theorem rd_dropL {w : World} {n cap h : Nat} {A : Option Addr} {l : List LE} (hc : l.length ≤ cap) (r : Rd w n A (flatL l)) : Rd w n (if cap = h then A else A.map (·.add (h * 4))) (flatL (l.drop h)) := fun hx => by
  have hx' := hx
  rw [flatL_len, List.length_drop] at hx'
  obtain ⟨b, o, e, hb, hcc⟩ := r (by rw [flatL_len]; omega)
  subst e
  rw [if_neg (by omega)]
  refine ⟨b, o + h * 4, by rw [Option.map_some, addr_addL], hb, fun j u hu => ?_⟩
  rw [Nat.add_assoc]
  exact hcc (h * 4 + j) u (by rw [flatL_split l h (by omega)]; exact hu)
theorem spec_PeriodOf (A : Option Addr) (cap : Nat) (l : List LE) (w : World) (hn : l.length ≤ 1048576) (hr : Rd w w.heap.size A (flatL l)) (hcap : l.length ≤ cap) :
    Calls Try.prog 32 #[.slice A l.length cap] w fun e w' => e = .returned (.tuple #[.int .i64 (selI (okPer l) (perL l : Int)), .bool (okPer l)]) ∧ Below w.heap.size w w' := by
  go_enter Try.func32, Try.ntmps32
  go_wp2_with fail
  refine (spec_loGood _ _ _ _ hn hr).mono ?_; rintro e w1 ⟨rfl, b1⟩
  rcases Bool.eq_false_or_eq_true (okLog l) with h1 | h1
  · rewrite [h1]
    by_cases h0 : l.length = 0
    · have HE := Lib.hid (show okPer l = false by unfold okPer; rw [decide_eq_false (by omega), Bool.and_false])
      have hz : ((l.length : Int) == 0) = true := by simp; exact List.eq_nil_of_length_eq_zero h0
      clear h1
      go_wp2
      go_returns
      exact ⟨by rw [HE.out]; rfl, by (repeat' (first | (with_reducible exact Below.refl _ _) | (with_reducible assumption) | (with_reducible refine Below.alloc ?_ ?_ _) | (with_reducible refine Below.setCell ?_ ?_ _) | (with_reducible refine Below.drew ?_) | (with_reducible refine below_drewN ?_ _) | (with_reducible refine Below.trans ?_ (Below.mono (by assumption) ?_)) | (with_reducible exact Nat.le_refl _) | (simp; done) | omega | (simp at *; omega)))⟩
    · have HE := Lib.hid (show okPer l = true by unfold okPer; rw [h1, decide_eq_true (by omega)]; rfl)
      have hz : ((l.length : Int) == 0) = false := by rw [beq_eq_false_iff_ne]; omega
      clear h1
      go_wp2_with fail
      go_loopw [4] (fun i wr => ∃ p : Nat, 1 ≤ p ∧ p ≤ l.length ∧ i = .int .i64 p ∧ perF l p (l.length - p) = perL l ∧ Below w.heap.size w wr) (fun i _ => l.length - (intOf i).toNat)
      case atStart => exact ⟨1, Nat.le_refl _, by omega, rfl, rfl, b1⟩
      case round =>
        obtain ⟨p, hp1, hpl, rfl, hF, hb⟩ := hrel
        have hs := hb.size
        clear b1
        by_cases hlt : p < l.length
        · have hsl := fun wx => sliceL_l A l.length cap p (by omega) wx
          have HQ := Lib.hid (fun w' h h' => spec_loAgree (if cap = p then A else A.map (·.add (p * 4))) (cap - p) (l.drop p) A cap l w' (by rw [List.length_drop]; omega) h h')
          rw [List.length_drop] at HQ
          have HR := Lib.hid (rd_dropL (h := p) hcap ((hr.below hb).mono hs))
          have HF := Lib.hid hF
          clear hF
          have HY := Lib.hid (fun h => perF_yes (l := l) (p := p) (n := l.length - p) h)
          have HN := Lib.hid (fun h => perF_no (l := l) (p := p) (n := l.length - (p + 1)) h)
          have HM := Lib.hid (show l.length - p = l.length - (p + 1) + 1 by omega)
          generalize (if cap = p then A else A.map (·.add (p * 4))) = A2 at *
          go_wp2_with fail
          refine (HQ.out _ HR.out ((hr.below hb).mono hs)).mono ?_; rintro e w3 ⟨rfl, b3⟩
          clear HQ HR
          generalize agreeL (l.drop p) l = n at *
          by_cases he : n = l.length - p
          · have he' : ((n : Int) == (l.length : Int) - (p : Int)) = true := by rw [beq_iff_eq]; omega
            have HX := Lib.hid ((HY.out he).symm.trans HF.out)
            clear HY HN he
            go_wp2
            go_returns
            exact ⟨by rw [HE.out, ← HX.out]; rfl, by (repeat' (first | (with_reducible exact Below.refl _ _) | (with_reducible assumption) | (with_reducible refine Below.alloc ?_ ?_ _) | (with_reducible refine Below.setCell ?_ ?_ _) | (with_reducible refine Below.drew ?_) | (with_reducible refine below_drewN ?_ _) | (with_reducible refine Below.trans ?_ (Below.mono (by assumption) ?_)) | (with_reducible exact Nat.le_refl _) | (simp; done) | omega | (simp at *; omega)))⟩
          · have he' : ((n : Int) == (l.length : Int) - (p : Int)) = false := by rw [beq_eq_false_iff_ne]; omega
            have HX := Lib.hid ((HN.out he).symm.trans ((congrArg (perF l p) HM.out.symm).trans HF.out))
            clear HY HN he
            go_wp2
            first
              | exact ⟨⟨p + 1, by omega, by omega, by go_num, HX.out, hb.trans (b3.mono hs)⟩, by simp [intOf]; omega⟩
              | (go_roundw
                 case rel => exact ⟨p + 1, by omega, by omega, by go_num, HX.out, hb.trans (b3.mono hs)⟩
                 case measure => simp [intOf]; omega)
        · obtain rfl : p = l.length := by omega
          have HX := Lib.hid (show perL l = l.length by rw [← hF, Nat.sub_self]; rfl)
          clear hF
          go_wp2
          go_returns
          exact ⟨by rw [HE.out, HX.out]; rfl, hb⟩
  · have HE := Lib.hid (show okPer l = false by unfold okPer; rw [h1, Bool.false_and])
    rewrite [h1]
    go_wp2
    go_returns
    exact ⟨by rw [HE.out]; rfl, b1⟩
theorem agree_all (l : List LE) : agreeL l (l.drop l.length) = l.length - l.length := by
  rw [List.drop_eq_nil_of_le (Nat.le_refl _), agree_nil', Nat.sub_self]
theorem impl_PeriodOf (A : Option Addr) (cap : Nat) (l : List LE) (w : World) (hn : l.length ≤ 1048576) (hr : Rd w w.heap.size A (flatL l)) (hcap : l.length ≤ cap) :
    Calls Try.prog 33 #[.slice A l.length cap] w fun e w' => e = .returned (.tuple #[.int .i64 (selI (okPer l) (perL l : Int)), .bool (okPer l)]) ∧ Below w.heap.size w w' := by
  go_enter Try.func33, Try.ntmps33
  go_wp2_with fail
  refine (impl_IsLog _ _ _ _ hn hr).mono ?_; rintro e w1 ⟨rfl, b1⟩
  rcases Bool.eq_false_or_eq_true (okLog l) with h1 | h1
  · rewrite [h1]
    have HE := Lib.hid (show okPer l = decide (0 < l.length) by unfold okPer; rw [h1, Bool.true_and])
    clear h1
    go_wp2_with fail
    go_loopw [11] (fun i wr => ∃ k : Nat, k ≤ l.length ∧ i = .int .i64 k ∧ (0 < l.length → k < l.length ∧ perF l (k + 1) (l.length - (k + 1)) = perL l) ∧ Below w.heap.size w wr) (fun i _ => l.length - (intOf i).toNat)
    case atStart => exact ⟨0, Nat.zero_le _, rfl, fun h => ⟨h, rfl⟩, b1⟩
    case round =>
      obtain ⟨k, hk, rfl, hF, hb⟩ := hrel
      have hs := hb.size
      clear b1
      by_cases hlt : k < l.length
      · obtain ⟨p, hp⟩ : ∃ p : Nat, p = k + 1 := ⟨_, rfl⟩
        have hF' := (hF (by omega)).2
        have hpi : (p : Int) = (k : Int) + 1 := by omega
        rw [← hp] at hF'
        have hpl0 : p ≤ l.length := by omega
        have hsl := fun wx => sliceL_l A l.length cap p hpl0 wx
        rw [hpi] at hsl
        have HQ := Lib.hid (fun w' h h' => impl_countAgreeing A cap l (if cap = p then A else A.map (·.add (p * 4))) (cap - p) (l.drop p) w' hn h h')
        rw [List.length_drop] at HQ
        have HR := Lib.hid (rd_dropL (h := p) hcap ((hr.below hb).mono hs))
        have HF := Lib.hid hF'
        have HO := Lib.hid (show 0 < l.length by omega)
        have HP := Lib.hid hp
        have HI := Lib.hid hpi
        have HY := Lib.hid (fun h => perF_yes (l := l) (p := p) (n := l.length - p) h)
        have HN := Lib.hid (fun h => perF_no (l := l) (p := p) (n := l.length - (p + 1)) h)
        have HM := Lib.hid (fun (h : p < l.length) => show l.length - p = l.length - (p + 1) + 1 by omega)
        have HL := Lib.hid (fun (h : p = l.length) => show agreeL l (l.drop p) = l.length - p by rw [h]; exact agree_all l)
        have HC := Lib.hid (agree_comm l (l.drop p))
        clear hF hF' hp hpi hpl0
        generalize (if cap = p then A else A.map (·.add (p * 4))) = A2 at *
        go_wp2_with fail
        refine (HQ.out _ ((hr.below hb).mono hs) HR.out).mono ?_; rintro e w3 ⟨rfl, b3⟩
        clear HQ HR hsl
        generalize agreeL l (l.drop p) = n at *
        by_cases he : n = l.length - p
        · have he' : ((n : Int) == (l.length : Int) - ((k : Int) + 1)) = true := by have := HI.out; rw [beq_iff_eq]; omega
          have HX := Lib.hid ((HY.out (HC.out.symm.trans he)).symm.trans HF.out)
          clear HY HN he
          go_wp2
          go_returns
          exact ⟨by rw [HE.out, decide_eq_true HO.out, ← HX.out, ← HI.out]; rfl, by (repeat' (first | (with_reducible exact Below.refl _ _) | (with_reducible assumption) | (with_reducible refine Below.alloc ?_ ?_ _) | (with_reducible refine Below.setCell ?_ ?_ _) | (with_reducible refine Below.drew ?_) | (with_reducible refine below_drewN ?_ _) | (with_reducible refine Below.trans ?_ (Below.mono (by assumption) ?_)) | (with_reducible exact Nat.le_refl _) | (simp; done) | omega | (simp at *; omega)))⟩
        · have hpl : p < l.length := by
            have := HP.out
            rcases Nat.lt_or_ge p l.length with h | h
            · exact h
            · exact absurd (HL.out (by omega)) he
          have he' : ((n : Int) == (l.length : Int) - ((k : Int) + 1)) = false := by have := HI.out; rw [beq_eq_false_iff_ne]; omega
          have HX := Lib.hid ((HN.out (fun h => he (HC.out.trans h))).symm.trans ((congrArg (perF l p) (HM.out hpl).symm).trans HF.out))
          have HD := Lib.hid hpl
          clear HY HN he hpl
          go_wp2
          first
            | exact ⟨⟨k + 1, by omega, by go_num, fun _ => by rw [← HP.out]; exact ⟨HD.out, HX.out⟩, hb.trans (b3.mono hs)⟩, by simp [intOf]; omega⟩
            | (go_roundw
               case rel => exact ⟨k + 1, by omega, by go_num, fun _ => by rw [← HP.out]; exact ⟨HD.out, HX.out⟩, hb.trans (b3.mono hs)⟩
               case measure => simp [intOf]; omega)
      · obtain rfl : k = l.length := by omega
        have HX := Lib.hid (show ¬ 0 < l.length from fun h => absurd (hF h).1 (by omega))
        clear hF
        go_wp2
        go_returns
        exact ⟨by rw [HE.out, decide_eq_false HX.out]; rfl, hb⟩
  · have HE := Lib.hid (show okPer l = false by unfold okPer; rw [h1, Bool.false_and])
    rewrite [h1]
    go_wp2
    go_returns
    exact ⟨by rw [HE.out]; rfl, b1⟩
end Go.Proofs.Ytlambflmabecfaa
