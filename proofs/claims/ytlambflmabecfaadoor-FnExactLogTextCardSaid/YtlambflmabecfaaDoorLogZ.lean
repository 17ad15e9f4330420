/- LogText: the program's. -/
import Derived.Test.YtlambflmabecfaaDoorJoin4
import Derived.Test.YtlambflmabecfaaDoorLogT1
namespace Go.Proofs.YtlambflmabecfaaDoor
open Go.ChangeShapes Go.WideShapes Go.ChangeAt Go.RowKit Go.Joins Go.Deep
set_option linter.unusedSimpArgs false
set_option linter.unusedVariables false
set_option maxRecDepth 100000
set_option maxHeartbeats 4000000
/-- The two tables of names. -/
structure Tab (w : World) : Prop where
  l0 : 0 < w.heap.size
  l1 : 1 < w.heap.size
  c : ∀ k, k < 2 → w.cell? ⟨0, k, none⟩ = some (.string ⟨(nmC k).toArray⟩)
  e : ∀ k, k < 3 → w.cell? ⟨1, k, none⟩ = some (.string ⟨(nmE (k + 1)).toArray⟩)
theorem Tab.below {w w' : World} (h : Tab w) (b : Below w.heap.size w w') : Tab w' :=
  ⟨Nat.lt_of_lt_of_le h.l0 b.size, Nat.lt_of_lt_of_le h.l1 b.size, fun k hk => (b.cell (p := ⟨0, k, none⟩) h.l0).trans (h.c k hk), fun k hk => (b.cell (p := ⟨1, k, none⟩) h.l1).trans (h.e k hk)⟩
theorem impl_entryLine (x y z u : Int) (hok : okE1 (x, y, z, u) = true) (w : World) (ht : Tab w) :
    Calls Tryd.prog 19 #[.agg #[.int .i64 x, .int .i64 y, .int .i64 z, .int .i64 u]] w fun e w' => e = .returned (.string ⟨(lineE (x, y, z, u)).toArray⟩) ∧ Below w.heap.size w w' := by
  obtain ⟨e1, e2, e3, e4⟩ := okE1_parts hok
  dsimp only at e1 e2 e3 e4
  obtain ⟨x', rfl⟩ : ∃ n : Nat, x = (n : Int) := ⟨x.toNat, by omega⟩
  obtain ⟨y', hy'⟩ : ∃ n : Nat, y = (n : Int) + 1 := ⟨y.toNat - 1, by omega⟩
  obtain ⟨z', rfl⟩ : ∃ n : Nat, z = (n : Int) := ⟨z.toNat, by omega⟩
  have hx0 : (0 : Int) ≤ (x' : Int) := by omega
  have hxi : (x' : Int) < 2 := by omega
  have hy0 : (0 : Int) ≤ (y' : Int) := by omega
  have hyi : (y' : Int) < 3 := by omega
  have hy1 : y - 1 = (y' : Int) := by omega
  have hyt : y.toNat = y' + 1 := by omega
  have hyw : IntKind.i64.wrap (y - 1) = (y' : Int) := by rw [IntWalk.i64_in _ (by omega)]; exact hy1
  have hz100 : z' < 100 := by omega
  have hlc := nmC_len x'
  have hle6 := nmE_len (y' + 1)
  have hdz := dec_lenX hz100
  have hcu := colT_len (u := u) (by omega)
  have HZ := Lib.hid (fun w => Tryd.strconv_Itoa_small z' hz100 w)
  have HL := Lib.hid (show lineE ((x' : Int), y, (z' : Int), u) = jnW [nmC x', nmE (y' + 1), Lib.decDigits z', colT u] 3 ++ [10] by
    unfold lineE headE jnW jnW jnW jnW
    rw [hyt]
    simp)
  have HN := Lib.hid (show u < 0 → colT u = [45] from fun h => if_pos h)
  have HY := Lib.hid (show 0 ≤ u → colT u = Lib.decDigits u.toNat from fun h => if_neg (by omega))
  have HU := Lib.hid (show 0 ≤ u → ∀ w, Calls Tryd.prog 35 #[.int .i64 u] w fun e w' => e = .returned (.string ⟨(Lib.decDigits u.toNat).toArray⟩) ∧ w' = w from fun h w => by
    have h1 := Tryd.strconv_Itoa_small u.toNat (by omega) w
    rwa [Int.toNat_of_nonneg h] at h1)
  have HCx := Lib.hid (ht.c x' (by omega))
  have HEy := Lib.hid (ht.e y' (by omega))
  generalize hcx : nmC x' = cx at *
  generalize hey : nmE (y' + 1) = ey at *
  generalize hdd : Lib.decDigits z' = dz at *
  generalize hcc : colT u = cu at *
  clear hcx hey hdd hcc hok e1 e2 e3 hyt hy'
  obtain ⟨bc, hbc⟩ : ∃ b, (⟨cx.toArray⟩ : ByteArray) = b := ⟨_, rfl⟩
  obtain ⟨be, hbe⟩ : ∃ b, (⟨ey.toArray⟩ : ByteArray) = b := ⟨_, rfl⟩
  rw [hbc] at HCx
  rw [hbe] at HEy
  have HBC := Lib.hid hbc
  have HBE := Lib.hid hbe
  clear hbc hbe
  rewrite [HL.out]
  go_enter Tryd.func19, Tryd.ntmps19
  obtain ⟨v0, hv0⟩ : ∃ v, v = w.alloc (.cells #[.int .i64 (x' : Int), .int .i64 y, .int .i64 (z' : Int), .int .i64 u] 39) := ⟨_, rfl⟩
  have X0 : Whole v0 w.heap.size 39 [.int .i64 (x' : Int), .int .i64 y, .int .i64 (z' : Int), .int .i64 u] := by rw [hv0]; exact heap_alloc_new w _
  have B0 : Below w.heap.size w v0 := by rw [hv0]; exact (Below.refl _ _).alloc (Nat.le_refl _) _
  have hT0 := ht.below B0
  have qA : v0.cell? ⟨0, x', none⟩ = some (.string bc) := (B0.cell (p := ⟨0, x', none⟩) ht.l0).trans HCx.out
  have qB : v0.cell? ⟨1, y', none⟩ = some (.string be) := (B0.cell (p := ⟨1, y', none⟩) ht.l1).trans HEy.out
  have HV := Lib.hid hv0.symm
  clear hv0 HCx HEy
  go_upto_region 1 with (fail)
  rewrite [HV.out]
  clear HV
  have k3 : v0.cell? ⟨w.heap.size, 3, none⟩ = some (.int .i64 u) := X0.cell 3
  have hy := X0.lt
  by_cases hu : u < 0
  · have hcu' := HN.out hu
    subst hcu'
    go_upto_region 4 with (fail)
    clear HU HY HN
    have s0 := B0.size
    have KS := Lib.hid (fun (w' : World) (h : Below v0.heap.size v0 w') => (⟨(h.cell (p := ⟨w.heap.size, 0, none⟩) X0.lt).trans (X0.cell 0), (h.cell (p := ⟨w.heap.size, 1, none⟩) X0.lt).trans (X0.cell 1), (h.cell (p := ⟨w.heap.size, 2, none⟩) X0.lt).trans (X0.cell 2), (h.cell (p := ⟨0, x', none⟩) hT0.l0).trans qA, (h.cell (p := ⟨1, y', none⟩) hT0.l1).trans qB⟩ : w'.cell? ⟨w.heap.size, 0, none⟩ = some (.int .i64 (x' : Int)) ∧ w'.cell? ⟨w.heap.size, 1, none⟩ = some (.int .i64 y) ∧ w'.cell? ⟨w.heap.size, 2, none⟩ = some (.int .i64 (z' : Int)) ∧ w'.cell? ⟨0, x', none⟩ = some (.string bc) ∧ w'.cell? ⟨1, y', none⟩ = some (.string be)))
    clear hy1
    go_region_held3 (fun w' => w'.cell? ⟨w.heap.size, 0, none⟩ = some (.int .i64 (x' : Int)) ∧ w'.cell? ⟨w.heap.size, 1, none⟩ = some (.int .i64 y) ∧ w'.cell? ⟨w.heap.size, 2, none⟩ = some (.int .i64 (z' : Int)) ∧ w'.cell? ⟨0, x', none⟩ = some (.string bc) ∧ w'.cell? ⟨1, y', none⟩ = some (.string be)) (exact KS.out _ (by (repeat' (first | (with_reducible exact Below.refl _ _) | (with_reducible assumption) | (with_reducible refine Below.alloc ?_ ?_ _) | (with_reducible refine Below.setCell ?_ ?_ _) | (with_reducible refine Below.drew ?_) | (with_reducible refine below_drewN ?_ _) | (with_reducible refine Below.trans ?_ (Below.mono (by assumption) ?_)) | go_size)))) ((first
      | (go_at_call 35; refine (HZ.out _).mono ?_; rintro e w4 ⟨rfl, rfl⟩)
      | fail))
    obtain ⟨v5, hv5⟩ : ∃ v5, v5 = (v0.alloc (.cells #[.string bc, .string be, .string ⟨dz.toArray⟩, .string ⟨#[45]⟩] 9)).drew := ⟨_, rfl⟩
    have X5 : Whole v5 v0.heap.size 9 [.string bc, .string be, .string ⟨dz.toArray⟩, .string ⟨#[45]⟩] := by rw [hv5]; exact heap_alloc_new v0 _
    have b5 : Below v0.heap.size v0 v5 := by rw [hv5]; exact ((Below.refl _ _).alloc (Nat.le_refl _) _).drew
    rewrite [show (v0.alloc (.cells #[.string bc, .string be, .string ⟨dz.toArray⟩, .string ⟨#[45]⟩] 9)).drew = v5 from hv5.symm]
    clear hv5
    have B5 := B0.trans (b5.mono s0)
    have s5 := B5.size
    have hxl : ∀ x ∈ [cx, ey, dz, [45]], x.length ≤ 20 := by
      intro x hx
      simp only [List.mem_cons, List.not_mem_nil, or_false] at hx
      rcases hx with rfl | rfl | rfl | rfl <;> first | omega | decide
    have hJl := jnW_le hxl 3
    have hJ := join_four v0.heap.size [cx, ey, dz, [45]] hxl v5 (fun k hk => by
      rw [X5.cell]
      rcases (show k = 0 ∨ k = 1 ∨ k = 2 ∨ k = 3 by omega) with rfl | rfl | rfl | rfl
      · show some (Value.string bc) = some (.string ⟨cx.toArray⟩); rw [HBC.out]
      · show some (Value.string be) = some (.string ⟨ey.toArray⟩); rw [HBE.out]
      · rfl
      · rfl) X5.lt
    have a1 : ∀ w, (Op.stringOp .add ⟨(jnW [cx, ey, dz, [45]] 3).toArray⟩ ⟨#[10]⟩).run Tryd.prog w = .ok (.string ⟨(jnW [cx, ey, dz, [45]] 3 ++ [10]).toArray⟩) w := fun w => strAdd _ [10] (by show _ + 1 ≤ _; omega) w
    clear hJl hxl HL
    generalize hJn : jnW [cx, ey, dz, [45]] 3 = J at *
    have HJ := Lib.hid hJ
    have HJn := Lib.hid hJn
    clear hJn hJ X5 qA qB KS X0 B0 b5 hT0
    go_wp2_with fail
    refine HJ.out.mono ?_; rintro e w6 ⟨rfl, b6⟩
    go_wp2
    go_returns
    exact ⟨by rw [HJn.out]; rfl, B5.trans (b6.mono s5)⟩
  · have hu0 : 0 ≤ u := by omega
    have hcu' := HY.out hu0
    have HU2 := Lib.hid (HU.out hu0)
    rw [← hcu'] at HU2
    clear HU HY HN hcu'
    go_wp2_with fail
    refine (HU2.out _).mono ?_; rintro e w5 ⟨rfl, hw5⟩
    obtain rfl := hw5.symm
    clear hw5
    go_upto_region 4 with (fail)
    clear HU2
    have s0 := B0.size
    have KS := Lib.hid (fun (w' : World) (h : Below v0.heap.size v0 w') => (⟨(h.cell (p := ⟨w.heap.size, 0, none⟩) X0.lt).trans (X0.cell 0), (h.cell (p := ⟨w.heap.size, 1, none⟩) X0.lt).trans (X0.cell 1), (h.cell (p := ⟨w.heap.size, 2, none⟩) X0.lt).trans (X0.cell 2), (h.cell (p := ⟨0, x', none⟩) hT0.l0).trans qA, (h.cell (p := ⟨1, y', none⟩) hT0.l1).trans qB⟩ : w'.cell? ⟨w.heap.size, 0, none⟩ = some (.int .i64 (x' : Int)) ∧ w'.cell? ⟨w.heap.size, 1, none⟩ = some (.int .i64 y) ∧ w'.cell? ⟨w.heap.size, 2, none⟩ = some (.int .i64 (z' : Int)) ∧ w'.cell? ⟨0, x', none⟩ = some (.string bc) ∧ w'.cell? ⟨1, y', none⟩ = some (.string be)))
    clear hy1
    go_region_held3 (fun w' => w'.cell? ⟨w.heap.size, 0, none⟩ = some (.int .i64 (x' : Int)) ∧ w'.cell? ⟨w.heap.size, 1, none⟩ = some (.int .i64 y) ∧ w'.cell? ⟨w.heap.size, 2, none⟩ = some (.int .i64 (z' : Int)) ∧ w'.cell? ⟨0, x', none⟩ = some (.string bc) ∧ w'.cell? ⟨1, y', none⟩ = some (.string be)) (exact KS.out _ (by (repeat' (first | (with_reducible exact Below.refl _ _) | (with_reducible assumption) | (with_reducible refine Below.alloc ?_ ?_ _) | (with_reducible refine Below.setCell ?_ ?_ _) | (with_reducible refine Below.drew ?_) | (with_reducible refine below_drewN ?_ _) | (with_reducible refine Below.trans ?_ (Below.mono (by assumption) ?_)) | go_size)))) ((first
      | (go_at_call 35; refine (HZ.out _).mono ?_; rintro e w4 ⟨rfl, rfl⟩)
      | fail))
    obtain ⟨v5, hv5⟩ : ∃ v5, v5 = (v0.alloc (.cells #[.string bc, .string be, .string ⟨dz.toArray⟩, .string ⟨cu.toArray⟩] 9)).drew := ⟨_, rfl⟩
    have X5 : Whole v5 v0.heap.size 9 [.string bc, .string be, .string ⟨dz.toArray⟩, .string ⟨cu.toArray⟩] := by rw [hv5]; exact heap_alloc_new v0 _
    have b5 : Below v0.heap.size v0 v5 := by rw [hv5]; exact ((Below.refl _ _).alloc (Nat.le_refl _) _).drew
    rewrite [show (v0.alloc (.cells #[.string bc, .string be, .string ⟨dz.toArray⟩, .string ⟨cu.toArray⟩] 9)).drew = v5 from hv5.symm]
    clear hv5
    have B5 := B0.trans (b5.mono s0)
    have s5 := B5.size
    have hxl : ∀ x ∈ [cx, ey, dz, cu], x.length ≤ 20 := by
      intro x hx
      simp only [List.mem_cons, List.not_mem_nil, or_false] at hx
      rcases hx with rfl | rfl | rfl | rfl <;> first | omega | decide
    have hJl := jnW_le hxl 3
    have hJ := join_four v0.heap.size [cx, ey, dz, cu] hxl v5 (fun k hk => by
      rw [X5.cell]
      rcases (show k = 0 ∨ k = 1 ∨ k = 2 ∨ k = 3 by omega) with rfl | rfl | rfl | rfl
      · show some (Value.string bc) = some (.string ⟨cx.toArray⟩); rw [HBC.out]
      · show some (Value.string be) = some (.string ⟨ey.toArray⟩); rw [HBE.out]
      · rfl
      · rfl) X5.lt
    have a1 : ∀ w, (Op.stringOp .add ⟨(jnW [cx, ey, dz, cu] 3).toArray⟩ ⟨#[10]⟩).run Tryd.prog w = .ok (.string ⟨(jnW [cx, ey, dz, cu] 3 ++ [10]).toArray⟩) w := fun w => strAdd _ [10] (by show _ + 1 ≤ _; omega) w
    clear hJl hxl HL
    generalize hJn : jnW [cx, ey, dz, cu] 3 = J at *
    have HJ := Lib.hid hJ
    have HJn := Lib.hid hJn
    clear hJn hJ X5 qA qB KS X0 B0 b5 hT0
    go_wp2_with fail
    refine HJ.out.mono ?_; rintro e w6 ⟨rfl, b6⟩
    go_wp2
    go_returns
    exact ⟨by rw [HJn.out]; rfl, B5.trans (b6.mono s5)⟩
theorem impl_LogText (A : Option Addr) (cap : Nat) (l : List LE) (w : World) (hn : l.length ≤ 1048576) (hr : Rd w w.heap.size A (flatL l)) (ht : Tab w) :
    Calls Tryd.prog 8 #[.slice A l.length cap] w fun e w' => e = .returned (.tuple #[.string ⟨(textO l).toArray⟩, .bool (okLog l)]) ∧ Below w.heap.size w w' := by
  go_enter Tryd.func8, Tryd.ntmps8
  go_wp2_with fail
  refine (impl_IsLog _ _ _ _ hn hr).mono ?_; rintro e w1 ⟨rfl, b1⟩
  rcases Bool.eq_false_or_eq_true (okLog l) with h1 | h1
  · have HO := Lib.hid h1
    have HC := Lib.hid (show textO l = textL l by unfold textO; rw [h1]; rfl)
    obtain ⟨h60, hok⟩ := okLog_parts h1
    have HOK := Lib.hid hok
    rewrite [h1]
    clear h1 hok
    have hs1 := b1.size
    go_wp2
    go_loopw [12] (fun i wr => ∃ k : Nat, k ≤ l.length ∧ i = .int .i64 k ∧ Bld w1.heap.size w1.heap.size (textL (l.take k)) wr ∧ Below w1.heap.size w1 wr) (fun i _ => l.length - (intOf i).toNat)
    case atStart =>
      refine ⟨0, by omega, rfl, ?_, (Below.refl _ _).alloc (Nat.le_refl _) _⟩
      exact .inl ⟨Nat.le_refl _, .slice none 0 0, heap_alloc_new w1 _, World.ownsRow_nil _ _ _ _, by simp [Value.ownBlock]⟩
    case round =>
      obtain ⟨k, hk, rfl, hbd, hb1⟩ := hrel
      have hb := b1.trans (hb1.mono hs1)
      have hs := hb.size
      have hsq := hb1.size
      have hle := textL_le HOK.out k
      by_cases hlt : k < l.length
      · (obtain ⟨b, o, rfl, hbl, hc⟩ := hr (by rw [flatL_len]; omega); obtain ⟨a0, a1, a2, a3⟩ := flatL_at l k hlt; have hc0 : wr.cell? ⟨b, o + k * 4, none⟩ = some (.int .i64 l[k].1) := (hb.cell (p := ⟨b, _, none⟩) hbl).trans (hc _ _ a0); have hc1 : wr.cell? ⟨b, o + k * 4 + 1, none⟩ = some (.int .i64 l[k].2.1) := (hb.cell (p := ⟨b, _, none⟩) hbl).trans (hc _ _ a1); have hc2 : wr.cell? ⟨b, o + k * 4 + 2, none⟩ = some (.int .i64 l[k].2.2.1) := (hb.cell (p := ⟨b, _, none⟩) hbl).trans (hc _ _ a2); have hc3 : wr.cell? ⟨b, o + k * 4 + 3, none⟩ = some (.int .i64 l[k].2.2.2) := (hb.cell (p := ⟨b, _, none⟩) hbl).trans (hc _ _ a3); clear a0 a1 a2 a3)
        have hok := HOK.out l[k] (List.getElem_mem hlt)
        have hll : (lineE (l[k].1, l[k].2.1, l[k].2.2.1, l[k].2.2.2)).length ≤ 20 := lineE_len hok
        have HT := Lib.hid (textL_take hlt)
        have HQ := Lib.hid (fun w' h => impl_entryLine l[k].1 l[k].2.1 l[k].2.2.1 l[k].2.2.2 hok w' h)
        clear hr hc hok
        (generalize l[k].1 = x at *; generalize l[k].2.1 = y at *; generalize l[k].2.2.1 = z at *; generalize l[k].2.2.2 = u at *)
        generalize lineE (x, y, z, u) = ln at *
        generalize textL (l.take k) = tx at *
        have bl : Below wr.heap.size wr (wr.alloc (.cells #[.int .i64 x, .int .i64 y, .int .i64 z, .int .i64 u] 39)) := (Below.refl _ _).alloc (Nat.le_refl _) _
        have hbd2 := hbd.keep bl
        have hb2 := hb1.trans (bl.mono hsq)
        clear hbd hb1 bl
        go_wp2_with fail
        refine (HQ.out _ (ht.below (b1.trans (hb2.mono hs1)))).mono ?_; rintro e w3 ⟨rfl, b3⟩
        have hbd3 := hbd2.keep b3
        have hb3 := hb2.trans (b3.mono hb2.size)
        have hz3 := hb3.size
        clear hbd2 hb2 b3 HQ hc0 hc1 hc2 hc3
        go_wp2_with fail
        refine (WriteString_any _ _ _ _ _ hbd3 (by omega) (by show ln.toArray.size ≤ _; rw [List.size_toArray]; omega) hz3).mono ?_; rintro e w4 ⟨rfl, hbd4, b4⟩
        have hb4 := hb3.trans b4
        clear b4 hbd3 hb3 hb hs
        rw [bytes_back, ← HT.out] at hbd4
        go_wp2
        first
          | exact ⟨⟨k + 1, by omega, by go_num, hbd4, hb4⟩, by simp [intOf]; omega⟩
          | (go_roundw
             case rel => exact ⟨k + 1, by omega, by go_num, hbd4, hb4⟩
             case measure => simp [intOf]; omega)
      · obtain rfl : k = l.length := by omega
        rw [List.take_length] at hbd
        go_wp2_with fail
        refine (String_any _ _ _ _ hbd hsq).mono ?_; rintro e w2 ⟨rfl, b2⟩
        go_wp2
        go_returns
        exact ⟨by rw [HC.out, HO.out]; rfl, b1.trans ((hb1.trans b2).mono hs1)⟩
  · have HO := Lib.hid h1
    have HC := Lib.hid (show textO l = [] by unfold textO; rw [h1]; rfl)
    rewrite [h1]
    clear h1
    go_wp2
    go_returns
    exact ⟨by rw [HC.out, HO.out]; rfl, b1⟩
theorem spec_LogTextT (A : Option Addr) (cap : Nat) (l : List LE) (w : World) (hn : l.length ≤ 1048576) (hr : Rd w w.heap.size A (flatL l)) (_ : Tab w) :
    Calls Tryd.prog 6 #[.slice A l.length cap] w fun e w' => e = .returned (.tuple #[.string ⟨(textO l).toArray⟩, .bool (okLog l)]) ∧ Below w.heap.size w w' := spec_LogText A cap l w hn hr
end Go.Proofs.YtlambflmabecfaaDoor
