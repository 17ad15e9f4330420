/- LogText: the model's text walked. -/
import Derived.Deep.RegionHeld3
import Derived.Deep.Cut
import Derived.Test.YtlambflmabecfaaDoorLogX
namespace Go.Proofs.YtlambflmabecfaaDoor
open Go.ChangeShapes Go.WideShapes Go.ChangeAt Go.RowKit Go.Joins Go.Deep
set_option linter.unusedSimpArgs false
set_option linter.unusedVariables false
set_option maxRecDepth 100000
set_option maxHeartbeats 4000000
theorem strAdd (a b : List UInt8) (h : a.length + b.length ≤ 8388608) (w : World) : (Op.stringOp .add ⟨a.toArray⟩ ⟨b.toArray⟩).run Tryd.prog w = .ok (.string ⟨(a ++ b).toArray⟩) w := by
  rw [run_string_add w _ _ (by show ((a.toArray.size : Nat) : Int) ≤ _; rw [List.size_toArray]; omega) (by show ((b.toArray.size : Nat) : Int) ≤ _; rw [List.size_toArray]; omega), bytes_app]
theorem held_weaken {P : Program} {md : Region.Mode} {ops : Array Oper} {Q : Exit → Act → World → Prop} {S S' : World → Prop} (hs : ∀ w, S' w → S w) : ∀ (fuel : Nat) (listed : Array Bool) (a : Act) (w : World), wpAnyH P md ops Q S' fuel listed a w → wpAnyH P md ops Q S fuel listed a w
  | 0, _, _, _, h => h
  | fuel + 1, _, _, _, h => ⟨h.1, fun i hi => wpOp_mono (fun a' w' h' => ⟨hs _ h'.1, held_weaken hs fuel _ a' w' h'.2⟩) (h.2 i hi)⟩
theorem spec_loText (A : Option Addr) (cap : Nat) (l : List LE) (w : World) (hok : ∀ e ∈ l, okE1 e = true) (hn : l.length ≤ 60) (hr : Rd w w.heap.size A (flatL l)) :
    Calls Tryd.prog 15 #[.slice A l.length cap] w fun e w' => e = .returned (.string ⟨(textL l).toArray⟩) ∧ Below w.heap.size w w' := by
  have HOK := Lib.hid hok
  clear hok
  go_enter Tryd.func15, Tryd.ntmps15
  go_wp2_with fail
  go_loopw [3, 8] (fun t i wr => ∃ k : Nat, k ≤ l.length ∧ i = .int .i64 k ∧ t = .string ⟨(textL (l.take k)).toArray⟩ ∧ Below w.heap.size w wr) (fun _ i _ => l.length - (intOf i).toNat)
  case atStart => exact ⟨0, Nat.zero_le _, rfl, rfl, by (repeat' (first | (with_reducible exact Below.refl _ _) | (with_reducible assumption) | (with_reducible refine Below.alloc ?_ ?_ _) | (with_reducible refine Below.setCell ?_ ?_ _) | (with_reducible refine Below.drew ?_) | (with_reducible refine below_drewN ?_ _) | (with_reducible refine Below.trans ?_ (Below.mono (by assumption) ?_)) | (with_reducible exact Nat.le_refl _) | (simp; done) | omega | (simp at *; omega)))⟩
  case round =>
    obtain ⟨k, hk, rfl, rfl, hb⟩ := hrel
    have hs := hb.size
    have hle := textL_le HOK.out k
    by_cases hlt : k < l.length
    · (obtain ⟨b, o, rfl, hbl, hc⟩ := hr (by rw [flatL_len]; omega); obtain ⟨a0, a1, a2, a3⟩ := flatL_at l k hlt; have hc0 : wr.cell? ⟨b, o + k * 4, none⟩ = some (.int .i64 l[k].1) := (hb.cell (p := ⟨b, _, none⟩) hbl).trans (hc _ _ a0); have hc1 : wr.cell? ⟨b, o + k * 4 + 1, none⟩ = some (.int .i64 l[k].2.1) := (hb.cell (p := ⟨b, _, none⟩) hbl).trans (hc _ _ a1); have hc2 : wr.cell? ⟨b, o + k * 4 + 2, none⟩ = some (.int .i64 l[k].2.2.1) := (hb.cell (p := ⟨b, _, none⟩) hbl).trans (hc _ _ a2); have hc3 : wr.cell? ⟨b, o + k * 4 + 3, none⟩ = some (.int .i64 l[k].2.2.2) := (hb.cell (p := ⟨b, _, none⟩) hbl).trans (hc _ _ a3); clear a0 a1 a2 a3)
      obtain ⟨e1, e2, e3, e4⟩ := okE1_parts (HOK.out l[k] (List.getElem_mem hlt))
      have HT := Lib.hid (textL_take hlt)
      clear hr hc
      (generalize l[k].1 = x at *; generalize l[k].2.1 = y at *; generalize l[k].2.2.1 = z at *; generalize l[k].2.2.2 = u at *)
      obtain ⟨x', rfl⟩ : ∃ n : Nat, x = (n : Int) := ⟨x.toNat, by omega⟩
      obtain ⟨y', rfl⟩ : ∃ n : Nat, y = (n : Int) := ⟨y.toNat, by omega⟩
      obtain ⟨z', rfl⟩ : ∃ n : Nat, z = (n : Int) := ⟨z.toNat, by omega⟩
      have hx2 : x' < 2 := by omega
      have hy4 : y' < 4 := by omega
      have hz100 : z' < 100 := by omega
      have HL := Lib.hid (fun w => spec_l1Num z' w hz100)
      have HH := Lib.hid (show lineE ((x' : Int), (y' : Int), (z' : Int), u) = headE x' y' z' ++ (colT u ++ [10]) from rfl)
      have hhl := headE_len (x := x') (y := y') hz100
      have hlc := nmC_len x'
      have hle6 := nmE_len y'
      have hdz := dec_lenX hz100
      have hx0 : (0 : Int) ≤ (x' : Int) := by omega
      have hxi : (x' : Int) < 2 := by omega
      have hy0 : (0 : Int) ≤ (y' : Int) := by omega
      have hyi : (y' : Int) < 4 := by omega
      have HA := Lib.hid (fun w => spec_loColours w)
      have HB := Lib.hid (fun w => spec_loEnds w)
      have HA2 := Lib.hid (fun (w' : World) (g : Nat) (h : ∀ k, k < 2 → w'.cell? ⟨g, k, none⟩ = some (.string ⟨(nmC k).toArray⟩)) => h x' hx2)
      have HB2 := Lib.hid (fun (w' : World) (g : Nat) (h : ∀ k, k < 4 → w'.cell? ⟨g, k, none⟩ = some (.string ⟨(nmE k).toArray⟩)) => h y' hy4)
      generalize hcx : nmC x' = cx at *
      generalize hey : nmE y' = ey at *
      generalize hdd : Lib.decDigits z' = dz at *
      have HD := Lib.hid (show headE x' y' z' = cx ++ [32] ++ ey ++ [32] ++ dz ++ [32] from by unfold headE; rw [hcx, hey, hdd])
      clear hcx hey hdd
      generalize textL (l.take k) = tx at *
      generalize headE x' y' z' = hd at *
      obtain ⟨p1, hp1⟩ : ∃ p : ByteArray, p = ⟨(cx ++ [32]).toArray⟩ := ⟨_, rfl⟩
      obtain ⟨p2, hp2⟩ : ∃ p : ByteArray, p = ⟨(cx ++ [32] ++ ey).toArray⟩ := ⟨_, rfl⟩
      obtain ⟨p3, hp3⟩ : ∃ p : ByteArray, p = ⟨(cx ++ [32] ++ ey ++ [32]).toArray⟩ := ⟨_, rfl⟩
      obtain ⟨p4, hp4⟩ : ∃ p : ByteArray, p = ⟨(cx ++ [32] ++ ey ++ [32] ++ dz).toArray⟩ := ⟨_, rfl⟩
      obtain ⟨p5, hp5⟩ : ∃ p : ByteArray, p = ⟨(cx ++ [32] ++ ey ++ [32] ++ dz ++ [32]).toArray⟩ := ⟨_, rfl⟩
      obtain ⟨p6, hp6⟩ : ∃ p : ByteArray, p = ⟨(tx ++ hd).toArray⟩ := ⟨_, rfl⟩
      have a1 : ∀ w, (Op.stringOp .add ⟨cx.toArray⟩ ⟨#[32]⟩).run Tryd.prog w = .ok (.string p1) w := fun w => by rw [hp1]; exact strAdd cx [32] (by simp; omega) w
      have a2 : ∀ w, (Op.stringOp .add p1 ⟨ey.toArray⟩).run Tryd.prog w = .ok (.string p2) w := fun w => by rw [hp1, hp2]; exact strAdd _ ey (by simp; omega) w
      have a3 : ∀ w, (Op.stringOp .add p2 ⟨#[32]⟩).run Tryd.prog w = .ok (.string p3) w := fun w => by rw [hp2, hp3]; exact strAdd _ [32] (by simp; omega) w
      have a4 : ∀ w, (Op.stringOp .add p3 ⟨dz.toArray⟩).run Tryd.prog w = .ok (.string p4) w := fun w => by rw [hp3, hp4]; exact strAdd _ dz (by simp; omega) w
      have a5 : ∀ w, (Op.stringOp .add p4 ⟨#[32]⟩).run Tryd.prog w = .ok (.string p5) w := fun w => by rw [hp4, hp5]; exact strAdd _ [32] (by simp; omega) w
      have a6 : ∀ w, (Op.stringOp .add ⟨tx.toArray⟩ p5).run Tryd.prog w = .ok (.string p6) w := fun w => by rw [hp5, hp6, HD.out]; exact strAdd tx _ (by simp; omega) w
      obtain ⟨p8, hp8⟩ : ∃ p : ByteArray, p = ⟨(Lib.decDigits u.toNat ++ [10]).toArray⟩ := ⟨_, rfl⟩
      obtain ⟨p9, hp9⟩ : ∃ p : ByteArray, p = ⟨(tx ++ hd ++ (colT u ++ [10])).toArray⟩ := ⟨_, rfl⟩
      have hdu : 0 ≤ u → (Lib.decDigits u.toNat).length ≤ 2 := fun _ => dec_lenX (by omega)
      have H7 := Lib.hid (show u < 0 → ∀ w, (Op.stringOp .add p6 ⟨#[45, 10]⟩).run Tryd.prog w = .ok (.string p9) w from fun hu w => by
        rw [hp6, hp9, show colT u = [45] from if_pos hu]
        exact strAdd (tx ++ hd) [45, 10] (by simp; omega) w)
      have H8 := Lib.hid (show 0 ≤ u → ∀ w, (Op.stringOp .add ⟨(Lib.decDigits u.toNat).toArray⟩ ⟨#[10]⟩).run Tryd.prog w = .ok (.string p8) w from fun hu w => by
        have := hdu (by omega)
        rw [hp8]
        exact strAdd _ [10] (by simp; omega) w)
      have H9 := Lib.hid (show 0 ≤ u → ∀ w, (Op.stringOp .add p6 p8).run Tryd.prog w = .ok (.string p9) w from fun hu w => by
        have := hdu (by omega)
        rw [hp6, hp8, hp9, show colT u = Lib.decDigits u.toNat from if_neg (by omega)]
        exact strAdd (tx ++ hd) _ (by simp; omega) w)
      have HU := Lib.hid (show 0 ≤ u → ∀ w, Calls Tryd.prog 31 #[.int .i64 u] w fun e w' => e = .returned (.string ⟨(Lib.decDigits u.toNat).toArray⟩) ∧ Below w.heap.size w w' from fun hu w => by
        have h := spec_l1Num u.toNat w (by omega)
        rwa [Int.toNat_of_nonneg (by omega)] at h)
      have HP := Lib.hid (show (Value.string p9) = .string ⟨(textL (l.take (k + 1))).toArray⟩ by rw [hp9, HT.out, HH.out, List.append_assoc])
      clear hdu hp8 hp9 HT HH
      generalize (⟨(Lib.decDigits u.toNat).toArray⟩ : ByteArray) = bu at *
      clear hp1 hp2 hp3 hp4 hp5 hp6 HD
      generalize (⟨cx.toArray⟩ : ByteArray) = bc at *
      generalize (⟨ey.toArray⟩ : ByteArray) = be at *
      generalize (⟨dz.toArray⟩ : ByteArray) = bz at *
      generalize (⟨tx.toArray⟩ : ByteArray) = bt at *
      have bl : Below wr.heap.size wr (wr.alloc (.cells #[.int .i64 (x' : Int), .int .i64 (y' : Int), .int .i64 (z' : Int), .int .i64 u] 39)) := (Below.refl _ _).alloc (Nat.le_refl _) _
      have Xf : Whole (wr.alloc (.cells #[.int .i64 (x' : Int), .int .i64 (y' : Int), .int .i64 (z' : Int), .int .i64 u] 39)) wr.heap.size 39 [.int .i64 (x' : Int), .int .i64 (y' : Int), .int .i64 (z' : Int), .int .i64 u] := heap_alloc_new wr _
      have B1 := hb.trans (bl.mono hs)
      clear bl hb
      go_upto_region 5 with (fail)
      clear hc0 hc1 hc2 hc3
      generalize wr.alloc (.cells #[.int .i64 (x' : Int), .int .i64 (y' : Int), .int .i64 (z' : Int), .int .i64 u] 39) = wl at *
      generalize wr.heap.size = gf at *
      have hfl := Xf.lt
      have hs1 := B1.size
      have KS := Lib.hid (fun (w' : World) (h : Below wl.heap.size wl w') => (⟨(h.cell (p := ⟨gf, 0, none⟩) hfl).trans (Xf.cell 0), (h.cell (p := ⟨gf, 1, none⟩) hfl).trans (Xf.cell 1), (h.cell (p := ⟨gf, 2, none⟩) hfl).trans (Xf.cell 2)⟩ : w'.cell? ⟨gf, 0, none⟩ = some (.int .i64 (x' : Int)) ∧ w'.cell? ⟨gf, 1, none⟩ = some (.int .i64 (y' : Int)) ∧ w'.cell? ⟨gf, 2, none⟩ = some (.int .i64 (z' : Int))))
      have bd : Below wl.heap.size wl wl.drew := (Below.refl _ _).drew
      refine wp_region_held_drew (S := fun w' => w'.cell? ⟨gf, 0, none⟩ = some (.int .i64 (x' : Int)) ∧ w'.cell? ⟨gf, 1, none⟩ = some (.int .i64 (y' : Int)) ∧ w'.cell? ⟨gf, 2, none⟩ = some (.int .i64 (z' : Int))) (by kernel_rfl) (KS.out _ bd) (fun hHeld => ?_)
      (refine wpAnyH_take (i := 0) (oi := _) (v := ?_) rfl (by kernel_rfl) (by kernel_rfl) (by kernel_rfl) (fun _ _ _ h => h) (Or.inl ⟨by rfl, ?_⟩) (by assumption) ?_; rotate_left 1; focus ((intro w hSw; (try dsimp only at hSw); go_simp); (first | done | (with_reducible rfl))); (try simp only [Act.put, List.setIfInBounds_toArray, List.set_cons_zero, List.set_cons_succ]))
      (refine wpAnyH_take (i := 2) (oi := _) (v := ?_) rfl (by kernel_rfl) (by kernel_rfl) (by kernel_rfl) (fun _ _ _ h => h) (Or.inl ⟨by rfl, ?_⟩) (by assumption) ?_; rotate_left 1; focus ((intro w hSw; (try dsimp only at hSw); go_simp); (first | done | (with_reducible rfl))); (try simp only [Act.put, List.setIfInBounds_toArray, List.set_cons_zero, List.set_cons_succ]))
      (refine wpAnyH_take (i := 3) (oi := _) (v := ?_) rfl (by kernel_rfl) (by kernel_rfl) (by kernel_rfl) (fun _ _ _ h => h) (Or.inl ⟨by rfl, ?_⟩) (by assumption) ?_; rotate_left 1; focus ((intro w hSw; (try dsimp only at hSw); go_simp); (first | done | (with_reducible rfl))); (try simp only [Act.put, List.setIfInBounds_toArray, List.set_cons_zero, List.set_cons_succ]))
      (refine wpAnyH_take (i := 8) (oi := _) (v := ?_) rfl (by kernel_rfl) (by kernel_rfl) (by kernel_rfl) (fun _ _ _ h => h) (Or.inl ⟨by rfl, ?_⟩) (by assumption) ?_; rotate_left 1; focus ((intro w hSw; (try dsimp only at hSw); go_simp); (first | done | (with_reducible rfl))); (try simp only [Act.put, List.setIfInBounds_toArray, List.set_cons_zero, List.set_cons_succ]))
      (refine wpAnyH_take (i := 9) (oi := _) (v := ?_) rfl (by kernel_rfl) (by kernel_rfl) (by kernel_rfl) (fun _ _ _ h => h) (Or.inl ⟨by rfl, ?_⟩) (by assumption) ?_; rotate_left 1; focus ((intro w hSw; (try dsimp only at hSw); go_simp); (first | done | (with_reducible rfl))); (try simp only [Act.put, List.setIfInBounds_toArray, List.set_cons_zero, List.set_cons_succ]))
      (refine wpAnyH_take (i := 10) (oi := _) (v := ?_) rfl (by kernel_rfl) (by kernel_rfl) (by kernel_rfl) (fun _ _ _ h => h) (Or.inl ⟨by rfl, ?_⟩) (by assumption) ?_; rotate_left 1; focus ((intro w hSw; (try dsimp only at hSw); go_simp); (first | done | (with_reducible rfl))); (try simp only [Act.put, List.setIfInBounds_toArray, List.set_cons_zero, List.set_cons_succ]))
      (refine wpAnyH_take (i := 15) (oi := _) (v := ?_) rfl (by kernel_rfl) (by kernel_rfl) (by kernel_rfl) (fun _ _ _ h => h) (Or.inl ⟨by rfl, ?_⟩) (by assumption) ?_; rotate_left 1; focus ((intro w hSw; (try dsimp only at hSw); go_simp); (first | done | (with_reducible rfl))); (try simp only [Act.put, List.setIfInBounds_toArray, List.set_cons_zero, List.set_cons_succ]))
      (refine wpAnyH_take (i := 16) (oi := _) (v := ?_) rfl (by kernel_rfl) (by kernel_rfl) (by kernel_rfl) (fun _ _ _ h => h) (Or.inl ⟨by rfl, ?_⟩) (by assumption) ?_; rotate_left 1; focus ((intro w hSw; (try dsimp only at hSw); go_simp); (first | done | (with_reducible rfl))); (try simp only [Act.put, List.setIfInBounds_toArray, List.set_cons_zero, List.set_cons_succ]))
      (refine wpAnyH_take (i := 17) (oi := _) (v := ?_) rfl (by kernel_rfl) (by kernel_rfl) (by kernel_rfl) (fun _ _ _ h => h) (Or.inl ⟨by rfl, ?_⟩) (by assumption) ?_; rotate_left 1; focus ((intro w hSw; (try dsimp only at hSw); go_simp); (first | done | (with_reducible rfl))); (try simp only [Act.put, List.setIfInBounds_toArray, List.set_cons_zero, List.set_cons_succ]))
      refine wpAnyH_ready (rs := [1]) (by kernel_rfl) (by simp) ?_
      refine AllReadyH.cons (o := _) rfl (fun K hK => ?_) AllReadyH.nil
      go_simp
      refine (spec_loColours _).mono ?_; rintro e w2 ⟨gA, rfl, hA, lA, b2⟩
      have qA := HA2.out w2 gA hA
      clear hA
      go_wp2_with fail
      have bw2 : Below wl.heap.size wl w2 := bd.trans b2
      refine hK.out _ _ (KS.out _ bw2) (fun hHeld2 => ?_)
      clear hK K
      (try simp only [Act.put, List.setIfInBounds_toArray, List.set_cons_zero, List.set_cons_succ])
      refine held_weaken (S' := fun w' => (w'.cell? ⟨gf, 0, none⟩ = some (.int .i64 (x' : Int)) ∧ w'.cell? ⟨gf, 1, none⟩ = some (.int .i64 (y' : Int)) ∧ w'.cell? ⟨gf, 2, none⟩ = some (.int .i64 (z' : Int))) ∧ w'.cell? ⟨gA, x', none⟩ = some (.string bc)) (fun _ h => h.1) _ _ _ _ ?_
      have hH2 : (fun w' : World => (w'.cell? ⟨gf, 0, none⟩ = some (.int .i64 (x' : Int)) ∧ w'.cell? ⟨gf, 1, none⟩ = some (.int .i64 (y' : Int)) ∧ w'.cell? ⟨gf, 2, none⟩ = some (.int .i64 (z' : Int))) ∧ w'.cell? ⟨gA, x', none⟩ = some (.string bc)) w2 := ⟨hHeld2, qA⟩
      clear hHeld hHeld2
      (refine wpAnyH_take (i := 4) (oi := _) (v := ?_) rfl (by kernel_rfl) (by kernel_rfl) (by kernel_rfl) (fun _ _ _ h => h) (Or.inl ⟨by rfl, ?_⟩) (by assumption) ?_; rotate_left 1; focus ((intro w hSw; (try dsimp only at hSw); go_simp); (first | done | (with_reducible rfl))); (try simp only [Act.put, List.setIfInBounds_toArray, List.set_cons_zero, List.set_cons_succ]))
      (refine wpAnyH_take (i := 5) (oi := _) (v := ?_) rfl (by kernel_rfl) (by kernel_rfl) (by kernel_rfl) (fun _ _ _ h => h) (Or.inl ⟨by rfl, ?_⟩) (by assumption) ?_; rotate_left 1; focus ((intro w hSw; (try dsimp only at hSw); go_simp); (first | done | (with_reducible rfl))); (try simp only [Act.put, List.setIfInBounds_toArray, List.set_cons_zero, List.set_cons_succ]))
      (refine wpAnyH_take (i := 6) (oi := _) (v := ?_) rfl (by kernel_rfl) (by kernel_rfl) (by kernel_rfl) (fun _ _ _ h => h) (Or.inl ⟨by rfl, ?_⟩) (by assumption) ?_; rotate_left 1; focus ((intro w hSw; (try dsimp only at hSw); go_simp); (first | done | (with_reducible rfl))); (try simp only [Act.put, List.setIfInBounds_toArray, List.set_cons_zero, List.set_cons_succ]))
      refine wpAnyH_ready (rs := [7]) (by kernel_rfl) (by simp) ?_
      refine AllReadyH.cons (o := _) rfl (fun K hK => ?_) AllReadyH.nil
      go_simp
      refine (spec_loEnds _).mono ?_; rintro e w3 ⟨gB, rfl, hB, lB, b3⟩
      have qB := HB2.out w3 gB hB
      clear hB
      go_wp2_with fail
      have bw3 : Below wl.heap.size wl w3 := bw2.trans (b3.mono bw2.size)
      have qA3 := (b3.cell (p := ⟨gA, x', none⟩) lA).trans qA
      refine hK.out _ _ ⟨KS.out _ bw3, qA3⟩ (fun hHeld3 => ?_)
      clear hK K
      (try simp only [Act.put, List.setIfInBounds_toArray, List.set_cons_zero, List.set_cons_succ])
      refine held_weaken (S' := fun w' => ((w'.cell? ⟨gf, 0, none⟩ = some (.int .i64 (x' : Int)) ∧ w'.cell? ⟨gf, 1, none⟩ = some (.int .i64 (y' : Int)) ∧ w'.cell? ⟨gf, 2, none⟩ = some (.int .i64 (z' : Int))) ∧ w'.cell? ⟨gA, x', none⟩ = some (.string bc)) ∧ w'.cell? ⟨gB, y', none⟩ = some (.string be)) (fun _ h => h.1) _ _ _ _ ?_
      have hH3 : (fun w' : World => ((w'.cell? ⟨gf, 0, none⟩ = some (.int .i64 (x' : Int)) ∧ w'.cell? ⟨gf, 1, none⟩ = some (.int .i64 (y' : Int)) ∧ w'.cell? ⟨gf, 2, none⟩ = some (.int .i64 (z' : Int))) ∧ w'.cell? ⟨gA, x', none⟩ = some (.string bc)) ∧ w'.cell? ⟨gB, y', none⟩ = some (.string be)) w3 := ⟨hHeld3, qB⟩
      clear hH2 hHeld3
      (refine wpAnyH_take (i := 11) (oi := _) (v := ?_) rfl (by kernel_rfl) (by kernel_rfl) (by kernel_rfl) (fun _ _ _ h => h) (Or.inl ⟨by rfl, ?_⟩) (by assumption) ?_; rotate_left 1; focus ((intro w hSw; (try dsimp only at hSw); go_simp); (first | done | (with_reducible rfl))); (try simp only [Act.put, List.setIfInBounds_toArray, List.set_cons_zero, List.set_cons_succ]))
      (refine wpAnyH_take (i := 12) (oi := _) (v := ?_) rfl (by kernel_rfl) (by kernel_rfl) (by kernel_rfl) (fun _ _ _ h => h) (Or.inl ⟨by rfl, ?_⟩) (by assumption) ?_; rotate_left 1; focus ((intro w hSw; (try dsimp only at hSw); go_simp); (first | done | (with_reducible rfl))); (try simp only [Act.put, List.setIfInBounds_toArray, List.set_cons_zero, List.set_cons_succ]))
      (refine wpAnyH_take (i := 13) (oi := _) (v := ?_) rfl (by kernel_rfl) (by kernel_rfl) (by kernel_rfl) (fun _ _ _ h => h) (Or.inl ⟨by rfl, ?_⟩) (by assumption) ?_; rotate_left 1; focus ((intro w hSw; (try dsimp only at hSw); go_simp); (first | done | (with_reducible rfl))); (try simp only [Act.put, List.setIfInBounds_toArray, List.set_cons_zero, List.set_cons_succ]))
      (refine wpAnyH_take (i := 14) (oi := _) (v := ?_) rfl (by kernel_rfl) (by kernel_rfl) (by kernel_rfl) (fun _ _ _ h => h) (Or.inl ⟨by rfl, ?_⟩) (by assumption) ?_; rotate_left 1; focus ((intro w hSw; (try dsimp only at hSw); go_simp); (first | done | (with_reducible rfl))); (try simp only [Act.put, List.setIfInBounds_toArray, List.set_cons_zero, List.set_cons_succ]))
      refine wpAnyH_ready (rs := [18]) (by kernel_rfl) (by simp) ?_
      refine AllReadyH.cons (o := _) rfl (fun K hK => ?_) AllReadyH.nil
      go_simp
      refine (HL.out _).mono ?_; rintro e w4 ⟨rfl, b4⟩
      go_wp2_with fail
      have bw4 : Below wl.heap.size wl w4 := bw3.trans (b4.mono bw3.size)
      have lA3 : gA < w3.heap.size := Nat.lt_of_lt_of_le lA b3.size
      have qA4 := (b4.cell (p := ⟨gA, x', none⟩) lA3).trans qA3
      have qB4 := (b4.cell (p := ⟨gB, y', none⟩) lB).trans qB
      refine hK.out _ _ ⟨⟨KS.out _ bw4, qA4⟩, qB4⟩ (fun hHeld4 => ?_)
      clear hK K hH3
      (try simp only [Act.put, List.setIfInBounds_toArray, List.set_cons_zero, List.set_cons_succ])
      (refine wpAnyH_take (i := 19) (oi := _) (v := ?_) rfl (by kernel_rfl) (by kernel_rfl) (by kernel_rfl) (fun _ _ _ h => h) (Or.inl ⟨by rfl, ?_⟩) (by assumption) ?_; rotate_left 1; focus ((intro w hSw; (try dsimp only at hSw); go_simp); (first | done | (with_reducible rfl))); (try simp only [Act.put, List.setIfInBounds_toArray, List.set_cons_zero, List.set_cons_succ]))
      (refine wpAnyH_take (i := 20) (oi := _) (v := ?_) rfl (by kernel_rfl) (by kernel_rfl) (by kernel_rfl) (fun _ _ _ h => h) (Or.inl ⟨by rfl, ?_⟩) (by assumption) ?_; rotate_left 1; focus ((intro w hSw; (try dsimp only at hSw); go_simp); (first | done | (with_reducible rfl))); (try simp only [Act.put, List.setIfInBounds_toArray, List.set_cons_zero, List.set_cons_succ]))
      (refine wpAnyH_take (i := 21) (oi := _) (v := ?_) rfl (by kernel_rfl) (by kernel_rfl) (by kernel_rfl) (fun _ _ _ h => h) (Or.inl ⟨by rfl, ?_⟩) (by assumption) ?_; rotate_left 1; focus ((intro w hSw; (try dsimp only at hSw); go_simp); (first | done | (with_reducible rfl))); (try simp only [Act.put, List.setIfInBounds_toArray, List.set_cons_zero, List.set_cons_succ]))
      (refine wpAnyH_take (i := 22) (oi := _) (v := ?_) rfl (by kernel_rfl) (by kernel_rfl) (by kernel_rfl) (fun _ _ _ h => h) (Or.inl ⟨by rfl, ?_⟩) (by assumption) ?_; rotate_left 1; focus ((intro w hSw; (try dsimp only at hSw); go_simp); (first | done | (with_reducible rfl))); (try simp only [Act.put, List.setIfInBounds_toArray, List.set_cons_zero, List.set_cons_succ]))
      refine wpAnyH_done (by kernel_rfl) ?_ _
      have X4 := (Xf.below bw4 hfl)
      have B4 := B1.trans (bw4.mono hs1)
      have hs5 := B4.size
      have hx3 : w4.cell? ⟨gf, 3, none⟩ = some (.int .i64 u) := X4.cell 3
      clear bw2 bw3 bw4 b2 b3 b4 qA qA3 qA4 qB qB4 lA lA3 lB a1 a2 a3 a4 a5 a6 KS HL Xf B1 X4 hHeld4 bd
      by_cases hu : u < 0
      · have a7 := H7.out hu
        clear H7 H8 H9 HU
        go_wp2
        exact ⟨⟨k + 1, by omega, by go_num, HP.out, B4⟩, by simp [intOf]; omega⟩
      · have hu0 : 0 ≤ u := by omega
        have a8 := H8.out hu0
        have a9 := H9.out hu0
        have HU2 := Lib.hid (HU.out hu0)
        clear H7 H8 H9 HU
        go_wp2_with fail
        refine (HU2.out _).mono ?_; rintro e w5 ⟨rfl, b5⟩
        go_wp2
        exact ⟨⟨k + 1, by omega, by go_num, HP.out, B4.trans (b5.mono hs5)⟩, by simp [intOf]; omega⟩
    · obtain rfl : k = l.length := by omega
      go_wp2
      go_returns
      exact ⟨by rw [List.take_length]; rfl, hb⟩
theorem spec_LogText (A : Option Addr) (cap : Nat) (l : List LE) (w : World) (hn : l.length ≤ 1048576) (hr : Rd w w.heap.size A (flatL l)) :
    Calls Tryd.prog 6 #[.slice A l.length cap] w fun e w' => e = .returned (.tuple #[.string ⟨(textO l).toArray⟩, .bool (okLog l)]) ∧ Below w.heap.size w w' := by
  go_enter Tryd.func6, Tryd.ntmps6
  go_wp2_with fail
  refine (spec_loGood _ _ _ _ hn hr).mono ?_; rintro e w1 ⟨rfl, b1⟩
  rcases Bool.eq_false_or_eq_true (okLog l) with h1 | h1
  · have HO := Lib.hid h1
    have HC := Lib.hid (show textO l = textL l by unfold textO; rw [h1]; rfl)
    obtain ⟨h60, hok⟩ := okLog_parts h1
    have HQ := Lib.hid (fun w' h => spec_loText A cap l w' hok h60 h)
    rewrite [h1]
    clear h1 hok
    generalize textL l = t at *
    have s1 := b1.size
    go_wp2_with fail
    refine (HQ.out _ ((hr.below b1).mono b1.size)).mono ?_; rintro e w2 ⟨rfl, b2⟩
    go_wp2
    go_returns
    exact ⟨by rw [HC.out, HO.out]; rfl, by (repeat' (first | (with_reducible exact Below.refl _ _) | (with_reducible assumption) | (with_reducible refine Below.alloc ?_ ?_ _) | (with_reducible refine Below.setCell ?_ ?_ _) | (with_reducible refine Below.drew ?_) | (with_reducible refine below_drewN ?_ _) | (with_reducible refine Below.trans ?_ (Below.mono (by assumption) ?_)) | (with_reducible exact Nat.le_refl _) | (simp; done) | omega | (simp at *; omega)))⟩
  · have HO := Lib.hid h1
    have HC := Lib.hid (show textO l = [] by unfold textO; rw [h1]; rfl)
    rewrite [h1]
    clear h1
    go_wp2
    go_returns
    exact ⟨by rw [HC.out, HO.out]; rfl, by (repeat' (first | (with_reducible exact Below.refl _ _) | (with_reducible assumption) | (with_reducible refine Below.alloc ?_ ?_ _) | (with_reducible refine Below.setCell ?_ ?_ _) | (with_reducible refine Below.drew ?_) | (with_reducible refine below_drewN ?_ _) | (with_reducible refine Below.trans ?_ (Below.mono (by assumption) ?_)) | (with_reducible exact Nat.le_refl _) | (simp; done) | omega | (simp at *; omega)))⟩
end Go.Proofs.YtlambflmabecfaaDoor
