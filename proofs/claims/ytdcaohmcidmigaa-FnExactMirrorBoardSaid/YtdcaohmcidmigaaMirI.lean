/- MirrorBoard, the program. -/
import Derived.Test.YtdcaohmcidmigaaMirS
import Derived.Test.YtdcaohmcidmigaaReadCells2
import Derived.Test.YtdcaohmcidmigaaMirJ
namespace Go.Proofs.Ytdcaohmcidmigaa
open Go.ChangeShapes Go.WideShapes Go.ChangeAt Go.RowKit Go.Joins Go.Deep
set_option linter.unusedSimpArgs false
set_option linter.unusedVariables false
set_option maxRecDepth 100000
attribute [local go_sem] Oper.semAt_some
set_option maxHeartbeats 4000000
theorem impl_MirrorBoard_no (R C : Int) (A : Option Addr) (cap : Nat) (l : List (Int × Int)) (w : World) (hg : goodB R C l = false) (hn : l.length ≤ 1048576) (hr : Rd w w.heap.size A (flat l)) :
    Calls Try.prog 12 #[.agg #[.int .i64 R, .int .i64 C, .slice A l.length cap]] w (PostB w 0 0 [] false) := by
  have HG := Lib.hid hg
  clear hg
  go_enter Try.func12, Try.ntmps12
  obtain ⟨v0, hv0, X0, X1, B0, hz0⟩ := two_boxes w [.int .i64 R, .int .i64 C, .slice A l.length cap] 30 [.int .i64 0, .int .i64 0, .slice none 0 0] 30; have HV := Lib.hid hv0; have hz : w.heap.size + 1 < v0.heap.size := (by omega); have hy : w.heap.size < v0.heap.size := (by omega); have hb0 := B0.size; clear hv0 hz0; go_wp2_with fail; rewrite [show (w.alloc (.cells ([.int .i64 R, .int .i64 C, .slice A l.length cap] : List Value).toArray 30)).alloc (.cells ([.int .i64 0, .int .i64 0, .slice none 0 0] : List Value).toArray 30) = v0 from HV.out]; clear HV
  refine (impl_IsBoard _ _ _ _ l _ hn ((hr.below B0).mono B0.size)).mono ?_; rintro e w1 ⟨rfl, b1⟩
  rewrite [HG.out]
  replace X0 := X0.below b1 X0.lt; replace X1 := X1.below b1 X1.lt; replace B0 := B0.trans (b1.mono B0.size); have hy := X0.lt; have hz := X1.lt; have hb0 := B0.size; clear b1
  have X1k0 : w1.cell? ⟨w.heap.size + 1, 0, none⟩ = some (.int .i64 0) := (X1.cell 0).trans rfl; have X1k1 : w1.cell? ⟨w.heap.size + 1, 1, none⟩ = some (.int .i64 0) := (X1.cell 1).trans rfl; have X1k2 : w1.cell? ⟨w.heap.size + 1, 2, none⟩ = some (.slice none 0 0) := (X1.cell 2).trans rfl
  have X1f0 := X1.frozen 0; have X1f1 := X1.frozen 1; have X1f2 := X1.frozen 2
  go_wp2
  refine bodyPost_ret (v := .tuple #[.agg #[.int .i64 0, .int .i64 0, .slice none 0 0], .bool false]) ?_ rfl ?_; (focus (simp [results, Try.results12, go_sem, *]; done))
  exact PostB.none_ (by (repeat' (first | (with_reducible exact Below.refl _ _) | (with_reducible assumption) | (with_reducible refine Below.alloc ?_ ?_ _) | (with_reducible refine Below.setCell ?_ ?_ _) | (with_reducible refine Below.drew ?_) | (with_reducible refine below_drewN ?_ _) | (with_reducible refine Below.trans ?_ (Below.mono (by assumption) ?_)) | (with_reducible exact Nat.le_refl _) | (simp; done) | omega | (simp at *; omega))))
theorem impl_MirrorBoard_yes (R C : Int) (b o cap : Nat) (l : List (Int × Int)) (w : World) (hg : goodB R C l = true) (hn : l.length ≤ 1048576) (hcap : l.length ≤ cap) (hr : Rd w w.heap.size (some ⟨b, o, none⟩) (flat l)) :
    Calls Try.prog 12 #[.agg #[.int .i64 R, .int .i64 C, .slice (some ⟨b, o, none⟩) l.length cap]] w (PostB w R C (mirB C l R.toNat) true) := by
  have HG := Lib.hid hg
  obtain ⟨i0, hi, hz0, hz1, hz2⟩ := info_parts cellInfo
  obtain ⟨s1, s2, s3, s4⟩ := sizeB_iff.1 (goodB_iff.1 hg).1
  obtain ⟨_, hl90, hlp⟩ := goodB_parts hg
  have hmk := run_make_cells0 l.length hn
  clear hg
  refine (callsIn_wide (n := 9)).1 ?_
  refine callsIn_of_wp_marks Try.func12 rfl trivial ?_
  simp only [Try.ntmps12, List.size_toArray, List.length_cons, List.length_nil, Nat.reduceAdd, Nat.reduceSub, Array.replicate_succ, Array.replicate_zero, List.push_toArray, List.append_toArray, List.nil_append, List.cons_append]
  refine (wpIn_wide (n := 9)).2 ?_
  obtain ⟨v0, hv0, X0, X1, B0, hz0⟩ := two_boxes w [.int .i64 R, .int .i64 C, .slice (some ⟨b, o, none⟩) l.length cap] 30 [.int .i64 0, .int .i64 0, .slice none 0 0] 30; have HV := Lib.hid hv0; have hz : w.heap.size + 1 < v0.heap.size := (by omega); have hy : w.heap.size < v0.heap.size := (by omega); have hb0 := B0.size; clear hv0 hz0; go_wp2_with fail; rewrite [show (w.alloc (.cells ([.int .i64 R, .int .i64 C, .slice (some ⟨b, o, none⟩) l.length cap] : List Value).toArray 30)).alloc (.cells ([.int .i64 0, .int .i64 0, .slice none 0 0] : List Value).toArray 30) = v0 from HV.out]; clear HV
  refine (impl_IsBoard _ _ _ _ l _ hn ((hr.below B0).mono B0.size)).mono ?_; rintro e w1 ⟨rfl, b1⟩
  rewrite [HG.out]
  replace X0 := X0.below b1 X0.lt; replace X1 := X1.below b1 X1.lt; replace B0 := B0.trans (b1.mono B0.size); have hy := X0.lt; have hz := X1.lt; have hb0 := B0.size; clear b1
  have X0k0 : w1.cell? ⟨w.heap.size, 0, none⟩ = some (.int .i64 R) := (X0.cell 0).trans rfl; have X0k1 : w1.cell? ⟨w.heap.size, 1, none⟩ = some (.int .i64 C) := (X0.cell 1).trans rfl; have X0k2 : w1.cell? ⟨w.heap.size, 2, none⟩ = some (.slice (some ⟨b, o, none⟩) l.length cap) := (X0.cell 2).trans rfl
  go_upto_region 4 with (fail)
  clear X0k0 X0k1 X0k2
  have bd : Below w1.heap.size w1 ((w1.alloc (.cells (zrow (2 * l.length)).toArray 45)).alloc (.cells #[.slice (some ⟨w1.heap.size, 0, none⟩) 0 l.length] 28)) := ((Below.refl _ _).alloc (Nat.le_refl _) _).alloc (by simp) _
  have hown : ((w1.alloc (.cells (zrow (2 * l.length)).toArray 45)).alloc (.cells #[.slice (some ⟨w1.heap.size, 0, none⟩) 0 l.length] 28)).ownsRow w.heap.size 45 2 (.slice (some ⟨w1.heap.size, 0, none⟩) 0 l.length) 0 [] := by
    refine ⟨rfl, .inr ⟨w1.heap.size, l.length, (zrow (2 * l.length)).toArray, rfl, hb0, ?_, Nat.zero_le _, by unfold maxLen; omega, by first | (simp [zrow]; done) | (simp [zrow]; omega), by rw [Nat.zero_mul, List.take_zero]⟩⟩
    show ((w1.alloc _).alloc _).heap[w1.heap.size]? = _
    rw [Below.heap_alloc _ _ _ (by simp)]
    exact heap_alloc_new w1 _
  have X4 : Whole ((w1.alloc (.cells (zrow (2 * l.length)).toArray 45)).alloc (.cells #[.slice (some ⟨w1.heap.size, 0, none⟩) 0 l.length] 28)) (w1.heap.size + 1) 28 [.slice (some ⟨w1.heap.size, 0, none⟩) 0 l.length] := by
    have h := heap_alloc_new (w1.alloc (.cells (zrow (2 * l.length)).toArray 45)) (.cells #[.slice (some ⟨w1.heap.size, 0, none⟩) 0 l.length] 28)
    rw [World.size_alloc] at h
    exact h
  replace X0 := X0.below bd X0.lt
  replace X1 := X1.below bd X1.lt
  replace B0 := B0.trans (bd.mono B0.size)
  have hGw : w.heap.size + 1 < w1.heap.size + 1 := by omega
  clear bd hmk
  generalize (w1.alloc (.cells (zrow (2 * l.length)).toArray 45)).alloc (.cells #[.slice (some ⟨w1.heap.size, 0, none⟩) 0 l.length] 28) = w2 at *
  generalize Value.slice (some (⟨w1.heap.size, 0, none⟩ : Addr)) 0 l.length = v2 at *
  generalize w1.heap.size + 1 = G at *
  have X0k0 : w2.cell? ⟨w.heap.size, 0, none⟩ = some (.int .i64 R) := (X0.cell 0).trans rfl; have X0k1 : w2.cell? ⟨w.heap.size, 1, none⟩ = some (.int .i64 C) := (X0.cell 1).trans rfl; have X0k2 : w2.cell? ⟨w.heap.size, 2, none⟩ = some (.slice (some ⟨b, o, none⟩) l.length cap) := (X0.cell 2).trans rfl
  go_wp2
  clear X0k0 X0k1 X0k2
  refine (wpIn_wide (n := 9)).1 ?_
  refine wpIn_loop (fun a' w' => ∃ (k : Nat) (v : Value) (Ds : List Nat) (u5 u21 u22 u23 u24 u25 u26 u38 : Value), (k : Int) ≤ R ∧ OutI w' w l R C b o cap G v (mirB C l k) Ds ∧ a' = { tmps := #[.agg #[.int .i64 R, .int .i64 C, .slice (some ⟨b, o, none⟩) l.length cap], .pointer (some ⟨w.heap.size, 0, none⟩), .pointer (some ⟨w.heap.size + 1, 0, none⟩), .bool false, .pointer (some ⟨G, 0, none⟩), u5, undef, undef, undef, undef, .agg #[.int .i64 R, .int .i64 C, .slice (some ⟨b, o, none⟩) l.length cap], .bool true, .bool false, undef, .pointer (some ⟨w.heap.size, 2, none⟩), .slice (some ⟨b, o, none⟩) l.length cap, .int .i64 (l.length : Int), v2, .pointer (some ⟨w.heap.size, 0, none⟩), .int .i64 R, .int .i64 (k : Int), u21, u22, u23, u24, u25, u26, undef, undef, undef, undef, undef, undef, undef, undef, undef, undef, undef, u38, undef, undef, undef, undef, undef, undef], defers := Ds.map collD }) (fun a' _ => R.toNat - (intOf (a'.tmps.getD 20 undef)).toNat) ?start ?round
  case start => exact ⟨0, v2, [], undef, undef, undef, undef, undef, undef, undef, undef, by omega, ⟨X0, X1, X4, hown, B0, List.nodup_nil, fun _ h => absurd h List.not_mem_nil⟩, rfl⟩
  case round =>
    rintro a' wr ⟨k, v, Ds, u5, u21, u22, u23, u24, u25, u26, u38, hk, HI, rfl⟩
    clear X0 X1 X4 hown B0 hy hz hb0
    obtain ⟨X0, X1, X4, hown, B0, hnd, hDs⟩ := HI
    refine (wpIn_wide (n := 9)).2 ?_
    by_cases hlt : (k : Int) < R
    · have X0k0 : wr.cell? ⟨w.heap.size, 0, none⟩ = some (.int .i64 R) := (X0.cell 0).trans rfl; have X0k1 : wr.cell? ⟨w.heap.size, 1, none⟩ = some (.int .i64 C) := (X0.cell 1).trans rfl; have X0k2 : wr.cell? ⟨w.heap.size, 2, none⟩ = some (.slice (some ⟨b, o, none⟩) l.length cap) := (X0.cell 2).trans rfl
      go_wp2_with fail
      refine (impl_rowCells _ _ _ _ _ l k _ HG.out hlt hcap).mono ?_; rintro e w3 ⟨rfl, b3⟩
      clear X0k0 X0k1 X0k2
      replace X0 := X0.below b3 X0.lt
      replace X1 := X1.below b3 X1.lt
      replace X4 := X4.below b3 X4.lt
      replace hown := row_keep hown b3
      replace hDs : ∀ D ∈ Ds, w.heap.size ≤ D ∧ w3.heap[D]? = some (.deferred (some [])) := fun D hD => ⟨(hDs D hD).1, (b3.block D (Array.getElem?_eq_some_iff.1 (hDs D hD).2).1).trans (hDs D hD).2⟩
      replace B0 := B0.trans (b3.mono B0.size)
      clear b3
      go_wp2_with fail
      refine (callsIn_wide.1 (back_in Fence.wide 3 trivial rfl _ _ _ w3)).mono ?_; rintro e w4 ⟨rfl, rfl⟩
      obtain ⟨b', o', e, hbl, hc⟩ := rowL_rd HG.out hlt (hr.below B0) (by rw [flat_length, rowL_len HG.out hlt]; omega)
      cases e
      have hlen := rowL_len HG.out hlt
      have XB : Whole (w3.alloc (.cells #[.slice (some ⟨b, o + k * C.toNat * 2, none⟩) (rowL C l k).length (cap - k * C.toNat)] 28)) w3.heap.size 28 [.slice (some ⟨b, o + k * C.toNat * 2, none⟩) (rowL C l k).length (cap - k * C.toNat)] := heap_alloc_new w3 _
      have bd : Below w3.heap.size w3 (w3.alloc (.cells #[.slice (some ⟨b, o + k * C.toNat * 2, none⟩) (rowL C l k).length (cap - k * C.toNat)] 28)) := (Below.refl _ _).alloc (Nat.le_refl _) _
      have hGl := X4.lt
      have hs := B0.size
      replace hDs : ∀ D ∈ Ds, w.heap.size ≤ D ∧ (w3.alloc (.cells #[.slice (some ⟨b, o + k * C.toNat * 2, none⟩) (rowL C l k).length (cap - k * C.toNat)] 28)).heap[D]? = some (.deferred (some [])) := fun D hD => ⟨(hDs D hD).1, (bd.block D (Array.getElem?_eq_some_iff.1 (hDs D hD).2).1).trans (hDs D hD).2⟩
      replace hc : ∀ j u, (flat (rowL C l k))[j]? = some u → (w3.alloc (.cells #[.slice (some ⟨b, o + k * C.toNat * 2, none⟩) (rowL C l k).length (cap - k * C.toNat)] 28)).cell? ⟨b, o + k * C.toNat * 2 + j, none⟩ = some u := fun j u h => (bd.cell (p := ⟨b, _, none⟩) (by show b < _; omega)).trans (hc j u h)
      have HI : OutI (w3.alloc (.cells #[.slice (some ⟨b, o + k * C.toNat * 2, none⟩) (rowL C l k).length (cap - k * C.toNat)] 28)) w l R C b o cap G v (mirB C l k) Ds := ⟨X0.alloc _, X1.alloc _, X4.alloc _, hown.alloc _, B0.alloc hs _, hnd, hDs⟩
      have hBG : w3.heap.size ≠ G := by omega
      clear X0 X1 X4 hown B0 hnd bd hDs
      generalize hw4 : w3.alloc (.cells #[.slice (some ⟨b, o + k * C.toNat * 2, none⟩) (rowL C l k).length (cap - k * C.toNat)] 28) = w4 at *
      clear hw4
      have hs4 := HI.below.size
      have hDlt : ∀ D ∈ Ds, D < w4.heap.size := fun D hD => (Array.getElem?_eq_some_iff.1 (HI.ds D hD).2).1
      go_wp2
      refine (wpIn_wide (n := 9)).1 ?_
      refine wpIn_rangeFunc_ownH (F := Fence.wide) (n := 9) rfl (by decide) (gf := 54) (lb := #[.pointer (some ⟨w3.heap.size, 0, none⟩)]) rfl trivial (enters_of Try.func54 (by kernel_rfl) rfl)
        (back_stops Fence.wide (9 - 1) trivial rfl (by decide) w3.heap.size w.heap.size b (o + k * C.toNat * 2) (cap - k * C.toNat) (rowL C l k) (by rw [hlen]; omega) hbl w4 hs4 XB hc) KeepB.trans (KeepB.put hs4 XB.lt) (Below.refl _ _) (fun _ => rfl)
        (fun (pre : List (Nat × (Int × Int))) W => ∃ v', OutI W w l R C b o cap G v' (mirB C l k ++ pre.map fun x => mirP x.2) Ds ∧ Whole W w3.heap.size 28 [.slice (some ⟨b, o + k * C.toNat * 2, none⟩) (rowL C l k).length (cap - k * C.toNat)])
        (fun _ _ _ => False)
        (outI_own (fun (pre : List (Nat × (Int × Int))) => mirB C l k ++ pre.map fun x => mirP x.2) hs4 hDlt)
        (fun _ _ _ _ _ hs _ _ => hs)
        ⟨v, by rw [List.map_nil, List.append_nil]; exact HI, XB⟩
        (fun x a' W => ∃ Bx, Whole W Bx 45 [.int .i64 x.2.1, .int .i64 x.2.2] ∧ a' = { tmps := #[.agg #[.int .i64 R, .int .i64 C, .slice (some ⟨b, o, none⟩) l.length cap], .pointer (some ⟨w.heap.size, 0, none⟩), .pointer (some ⟨w.heap.size + 1, 0, none⟩), .bool false, .pointer (some ⟨G, 0, none⟩), .int .i64 (k : Int), undef, .pointer (some ⟨Bx, 0, none⟩), undef, undef, .agg #[.int .i64 R, .int .i64 C, .slice (some ⟨b, o, none⟩) l.length cap], .bool true, .bool false, undef, .pointer (some ⟨w.heap.size, 2, none⟩), .slice (some ⟨b, o, none⟩) l.length cap, .int .i64 (l.length : Int), v2, .pointer (some ⟨w.heap.size, 0, none⟩), .int .i64 R, .int .i64 (k : Int), .bool true, .int .i64 (k : Int), .agg #[.int .i64 R, .int .i64 C, .slice (some ⟨b, o, none⟩) l.length cap], .int .i64 (k : Int), .slice (some ⟨b, o + k * C.toNat * 2, none⟩) C.toNat (cap - k * C.toNat), .func (.func 54) #[] #[.pointer (some ⟨w3.heap.size, 0, none⟩)], .int .i64 (x.1 : Int), .agg #[.int .i64 x.2.1, .int .i64 x.2.2], undef, undef, undef, undef, undef, undef, undef, undef, undef, u38, undef, undef, undef, undef, undef, undef], defers := [] })
        (fun x a' _ X Y row hs hg hr => by obtain ⟨Bx, h1, h2⟩ := hs; exact ⟨Bx, whole_own Bx 45 (fun (_ : Unit) => [.int .i64 x.2.1, .int .i64 x.2.2]) () X Y row h1 hg (fun r e => (hr r e).2), h2⟩)
        ?assign ?body ?done ?stop
      case assign =>
        rintro L pre x W K ⟨v', hI, hx⟩ hK
        gi_wp2
        refine hK _ _ ((KeepsOthers.alloc _ _).from _) ⟨(Below.refl _ W).alloc hI.below.size _, Below.heap_alloc _ _ _ hx.lt⟩ ⟨v', ⟨hI.x0.alloc _, hI.x1.alloc _, hI.x4.alloc _, hI.own.alloc _, hI.below.alloc hI.below.size _, hI.nodup, fun D hD => ⟨(hI.ds D hD).1, (Below.heap_alloc _ _ _ (Array.getElem?_eq_some_iff.1 (hI.ds D hD).2).1).trans (hI.ds D hD).2⟩⟩, hx.alloc _⟩ ⟨W.heap.size, heap_alloc_new W _, rfl⟩
      case body =>
        rintro L pre x a' W hl ⟨r, hr'⟩ ⟨v', hI, hx⟩ ⟨Bx, hX, rfl⟩ hlt2
        have k0 : W.cell? ⟨Bx, 0, none⟩ = some (.int .i64 x.2.1) := (hX.cell 0).trans rfl
        have k1 : W.cell? ⟨Bx, 1, none⟩ = some (.int .i64 x.2.2) := (hX.cell 1).trans rfl
        have hcl : (mirB C l k ++ pre.map fun x => mirP x.2).length ≤ 180 := by
          rw [List.length_append, mirB_len, List.length_map]
          have h1 : k ≤ 10 := by omega
          have h2 : C.toNat ≤ 9 := by omega
          have h3 : k * C.toNat ≤ 10 * 9 := Nat.mul_le_mul h1 h2
          omega
        have HSn := Lib.hid (show mirB C l k ++ (pre ++ [x]).map (fun x => mirP x.2) = (mirB C l k ++ pre.map fun x => mirP x.2) ++ [mirP x.2] by rw [List.map_append, ← List.append_assoc]; rfl)
        have HP1 := Lib.hid (show (mirP x.2).1 = selI (good x.2.1 x.2.2) (mirK x.2.1) from rfl)
        have HP2 := Lib.hid (show (mirP x.2).2 = selI (good x.2.1 x.2.2) (mirS x.2.1 x.2.2) from rfl)
        generalize mirB C l k ++ (pre.map fun x => mirP x.2) = cs at *
        have hGW := hI.x4.lt
        gi_wp2_with (first
          | (refine ⟨trivial, ?_⟩; gi_at_call 34; refine (CallsIn.inRound L (callsIn_wide.2 (impl_MirrorCell _ _ _))).mono ?_; rintro e W5 ⟨rfl, b5⟩; rewrite [← HP1.out, ← HP2.out]; have k4 : W5.cell? ⟨G, 0, none⟩ = some v' := ((hI.x4.below b5 hI.x4.lt).cell 0).trans rfl; have hG5 : G < W5.heap.size := (hI.x4.below b5 hI.x4.lt).lt; have hs5 : w.heap.size ≤ W5.heap.size := Nat.le_trans hI.below.size b5.size)
          | (gi_at_builtin; refine wpListIn_append_own _ rfl (.tmp 34) (.tmp 36) 28 rfl w.heap.size 45 i0 _ 2 16 Try.underlying28 hi hz0 hz1 hz2 rfl (by omega) v' cs.length _ rfl (((row_keep hI.own b5).alloc _).alloc _) ⟨W5.heap.size + 1, 0, none⟩ 1 1 [.int .i64 (mirP x.2).1, .int .i64 (mirP x.2).2] rfl rfl two_cells2 two_one (by unfold maxLen; omega) (by omega) (by simp; omega) ?_; intro v3 wz hown3 hg3 _; obtain ⟨g', cap', rfl⟩ := ownsRow_succ hown3; have hz4 := round_all (B := w4.heap.size) hI hx hGw hBG b5 hown3 hg3; have xz : Whole wz G 28 [v'] := (((hI.x4.below b5 hI.x4.lt).alloc _).alloc _).grown hg3 (fun e => row_ne hI.own hI.x4 (fun cur e => by cases e) e.symm); have kz := (xz.cell 0).trans rfl; have fz := xz.frozen 0)
          | fail)
        obtain ⟨q1, q2, q3, q4⟩ := hz4
        exact ⟨q1, q2, ⟨_, by rw [HSn.out]; exact q3, q4⟩⟩
      case done =>
        rintro D ys W hD rfl ⟨v', hI, hx⟩ hK
        rw [bks_mir HG.out hlt, ← mirB_succ] at hI
        go_wp2
        refine ⟨⟨k + 1, v', D :: Ds, _, _, _, _, _, _, _, _, by omega, ⟨hI.x0, hI.x1, hI.x4, hI.own, hI.below, List.nodup_cons.2 ⟨fun h => by have := hDlt D h; omega, hI.nodup⟩, fun D' hD' => ?_⟩, rfl⟩, ?_⟩
        · rcases List.mem_cons.1 hD' with rfl | h
          · exact ⟨by omega, hK⟩
          · exact hI.ds D' h
        · show R.toNat - ((k : Int) + 1).toNat < R.toNat - (k : Int).toNat
          omega
      case stop =>
        rintro D c pre W _ _ h _
        exact h.elim
    · obtain rfl : R = (k : Int) := by omega
      obtain ⟨A2, c2, rfl⟩ := slice_of_row hown
      have ho := own_of_row hown
      have hap : 0 < (flat (mirB C l k)).length → ∀ a, A2 = some a → w.heap.size + 1 ≠ a.block := fun hx a ha => (own_apart ho.1 X1 (by decide) hx ha).symm
      have hz1' := X1.lt
      have X0k0 : wr.cell? ⟨w.heap.size, 0, none⟩ = some (.int .i64 (k : Int)) := (X0.cell 0).trans rfl; have X0k1 : wr.cell? ⟨w.heap.size, 1, none⟩ = some (.int .i64 C) := (X0.cell 1).trans rfl; have X0k2 : wr.cell? ⟨w.heap.size, 2, none⟩ = some (.slice (some ⟨b, o, none⟩) l.length cap) := (X0.cell 2).trans rfl
      have k4 := (X4.cell 0).trans rfl
      have X1k0 : wr.cell? ⟨w.heap.size + 1, 0, none⟩ = some (.int .i64 0) := (X1.cell 0).trans rfl; have X1k1 : wr.cell? ⟨w.heap.size + 1, 1, none⟩ = some (.int .i64 0) := (X1.cell 1).trans rfl; have X1k2 : wr.cell? ⟨w.heap.size + 1, 2, none⟩ = some (.slice none 0 0) := (X1.cell 2).trans rfl
      have X1f0 := X1.frozen 0; have X1f1 := X1.frozen 1; have X1f2 := X1.frozen 2
      clear hown
      go_wp2
      have Y1 : Whole (((wr.setCell ⟨w.heap.size + 1, 0, none⟩ (.int .i64 (k : Int))).setCell ⟨w.heap.size + 1, 1, none⟩ (.int .i64 C)).setCell ⟨w.heap.size + 1, 2, none⟩ (.slice A2 (mirB C l k).length c2)) (w.heap.size + 1) 30 [.int .i64 (k : Int), .int .i64 C, .slice A2 (mirB C l k).length c2] := ((X1.set 0 _).set 1 _).set 2 _
      have o1 := ((ho.1.set_far2 ⟨w.heap.size + 1, 0, none⟩ (.int .i64 (k : Int)) hap).set_far2 ⟨w.heap.size + 1, 1, none⟩ (.int .i64 C) hap).set_far2 ⟨w.heap.size + 1, 2, none⟩ (.slice A2 (mirB C l k).length c2) hap
      have b1 : Below w.heap.size w (((wr.setCell ⟨w.heap.size + 1, 0, none⟩ (.int .i64 (k : Int))).setCell ⟨w.heap.size + 1, 1, none⟩ (.int .i64 C)).setCell ⟨w.heap.size + 1, 2, none⟩ (.slice A2 (mirB C l k).length c2)) := by (repeat' (first | (with_reducible exact Below.refl _ _) | (with_reducible assumption) | (with_reducible refine Below.alloc ?_ ?_ _) | (with_reducible refine Below.setCell ?_ ?_ _) | (with_reducible refine Below.drew ?_) | (with_reducible refine below_drewN ?_ _) | (with_reducible refine Below.trans ?_ (Below.mono (by assumption) ?_)) | (with_reducible exact Nat.le_refl _) | (simp; done) | omega | (simp at *; omega)))
      have hD1 : ∀ D ∈ Ds, w.heap.size ≤ D ∧ (((wr.setCell ⟨w.heap.size + 1, 0, none⟩ (.int .i64 (k : Int))).setCell ⟨w.heap.size + 1, 1, none⟩ (.int .i64 C)).setCell ⟨w.heap.size + 1, 2, none⟩ (.slice A2 (mirB C l k).length c2)).heap[D]? = some (.deferred (some [])) := fun D hD => by
        obtain ⟨h1, h2⟩ := hDs D hD
        have hne : D ≠ w.heap.size + 1 := fun e => by
          subst e
          rw [show wr.heap[w.heap.size + 1]? = _ from X1] at h2
          cases h2
        refine ⟨h1, ?_⟩
        rw [Below.heap_setCell _ _ _ _ hne, Below.heap_setCell _ _ _ _ hne, Below.heap_setCell _ _ _ _ hne]
        exact h2
      clear X0k0 X0k1 X0k2 X1k0 X1k1 X1k2 X1f0 X1f1 X1f2 k4 X0 X1 X4 B0 hDs
      generalize ((wr.setCell ⟨w.heap.size + 1, 0, none⟩ (.int .i64 (k : Int))).setCell ⟨w.heap.size + 1, 1, none⟩ (.int .i64 C)).setCell ⟨w.heap.size + 1, 2, none⟩ (.slice A2 (mirB C l k).length c2) = w9 at *
      refine leaves_coll (B := w.heap.size) (fun W => Whole W (w.heap.size + 1) 30 [.int .i64 (k : Int), .int .i64 C, .slice A2 (mirB C l k).length c2] ∧ Own W A2 45 (flat (mirB C l k)) ∧ Below w.heap.size w W)
        (fun W D h hB hD => ⟨whole_put h.1 hD rfl, own_put h.2.1 hD rfl, below_put h.2.2 hB⟩) (fun W h => ?_) Ds w9 hnd hD1 ⟨Y1, o1, b1⟩
      have y0 := (h.1.cell 0).trans rfl
      have y1 := (h.1.cell 1).trans rfl
      have y2 := (h.1.cell 2).trans rfl
      refine ⟨.tuple #[.agg #[.int .i64 (k : Int), .int .i64 C, .slice A2 (mirB C l k).length c2], .bool true], ?_, PostB.mk h.2.1 ho.2 h.2.2⟩
      simp [results, Try.results12, go_sem, *]
theorem impl_MirrorBoard (R C : Int) (A : Option Addr) (cap : Nat) (l : List (Int × Int)) (w : World) (hn : l.length ≤ 1048576) (hr : Rd w w.heap.size A (flat l)) (hcap : l.length ≤ cap) :
    Calls Try.prog 12 #[.agg #[.int .i64 R, .int .i64 C, .slice A l.length cap]] w (PostB w (selI (goodB R C l) R) (selI (goodB R C l) C) (mirL R C l) (goodB R C l)) := by
  unfold mirL
  rcases Bool.eq_false_or_eq_true (goodB R C l) with hg | hg
  · obtain ⟨_, _, hlp⟩ := goodB_parts hg
    obtain ⟨b, o, rfl, _, _⟩ := hr (by rw [flat_length]; omega)
    rw [hg]
    exact impl_MirrorBoard_yes R C b o cap l w hg hn hcap hr
  · rw [hg]
    exact impl_MirrorBoard_no R C A cap l w hg hn hr
end Go.Proofs.Ytdcaohmcidmigaa
