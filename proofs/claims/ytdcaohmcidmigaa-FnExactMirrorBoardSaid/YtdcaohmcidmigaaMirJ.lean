/- MirrorBoard, the program: what its loops keep. -/
import Derived.Test.YtdcaohmcidmigaaMirS
import Derived.Test.YtdcaohmcidmigaaReadCells2
import Derived.Test.YtdcaohmcidmigaaBack
namespace Go.Proofs.Ytdcaohmcidmigaa
open Go.ChangeShapes Go.WideShapes Go.ChangeAt Go.RowKit Go.Joins Go.Deep
set_option linter.unusedSimpArgs false
set_option linter.unusedVariables false
set_option maxRecDepth 100000
set_option maxHeartbeats 1000000
def collD (D : Nat) : Deferred := { target := .collected D, args := #[] }
structure OutI (W w : World) (l : List (Int × Int)) (R C : Int) (b o cap G : Nat) (v : Value) (cs : List (Int × Int)) (Ds : List Nat) : Prop where
  x0 : Whole W w.heap.size 30 [.int .i64 R, .int .i64 C, .slice (some ⟨b, o, none⟩) l.length cap]
  x1 : Whole W (w.heap.size + 1) 30 [.int .i64 0, .int .i64 0, .slice none 0 0]
  x4 : Whole W G 28 [v]
  own : W.ownsRow w.heap.size 45 2 v cs.length (flat cs)
  below : Below w.heap.size w W
  nodup : Ds.Nodup
  ds : ∀ D ∈ Ds, w.heap.size ≤ D ∧ W.heap[D]? = some (.deferred (some []))
/-- The cell as the program mirrors it. -/
def mirP (x : Int × Int) : Int × Int := (selI (good x.1 x.2) (mirK x.1), selI (good x.1 x.2) (mirS x.1 x.2))
theorem keep_round {W W5 w3 : World} {o1 o2 : Obj} {G : Nat} {v v3 : Value} (b5 : Below W.heap.size W W5) (hg3 : ((W5.alloc o1).alloc o2).grownBy w3 v.ownBlock) :
    W.heap.size ≤ (w3.setCell ⟨G, 0, none⟩ v3).heap.size ∧ ∀ k o, W.heap[k]? = some o → k ≠ G → v.ownBlock ≠ some k → (w3.setCell ⟨G, 0, none⟩ v3).heap[k]? = some o := by
  have hs := b5.size
  have hs3 := hg3.size
  rw [World.size_alloc, World.size_alloc] at hs3
  refine ⟨by rw [World.size_setCell]; omega, fun k o hk hG hv => ?_⟩
  have hlt := (Array.getElem?_eq_some_iff.1 hk).1
  rw [Below.heap_setCell _ _ _ _ hG, hg3.block k (by rw [World.size_alloc, World.size_alloc]; omega) (fun e => hv e.symm), Below.heap_alloc _ _ _ (by rw [World.size_alloc]; omega), Below.heap_alloc _ _ _ (by omega), b5.block k hlt]
  exact hk
theorem row_ne {W : World} {base n size k : Nat} {e : TypeId} {v : Value} {xs : List Value} {o : Obj} (h : W.ownsRow base e size v n xs) (hk : W.heap[k]? = some o) (ho : ∀ cur, o ≠ .cells cur e (0, 0)) : v.ownBlock ≠ some k := by
  rcases h.2 with ⟨rfl, _⟩ | ⟨g, cap, cur, rfl, _, hh, _⟩
  · intro e; cases e
  · intro e
    obtain rfl : g = k := by simpa [Value.ownBlock] using e
    rw [hk] at hh
    exact ho _ (Option.some.inj hh)
theorem whole_own {β : Type} (g : Nat) (t : TypeId) (f : β → List Value) : Go.Own (fun s W => Whole W g t (f s)) := fun s X Y row hs hg hrow => by
  refine (hg.block g hs.lt (fun e => ?_)).trans hs
  obtain ⟨o, ho, hc⟩ := hrow g e.symm
  rw [show X.heap[g]? = _ from hs] at ho
  cases ho
  cases hc
theorem row_apart_obj {W : World} {base n size k : Nat} {e : TypeId} {v : Value} {xs : List Value} {o : Obj} (h : W.ownsRow base e size v n xs) (hk : W.heap[k]? = some o) (ho : o.isCells = false) : v.ownBlock ≠ some k :=
  row_ne h hk fun cur e' => by rw [e'] at ho; cases ho
theorem outI_own {β : Type} {w : World} {l : List (Int × Int)} {R C : Int} {b o cap G Bs B : Nat} {Ds : List Nat} {xs : List Value} (f : β → List (Int × Int)) (hB : w.heap.size ≤ B) (hD : ∀ D ∈ Ds, D < B) :
    OwnFrom B (fun (s : β) W => ∃ v, OutI W w l R C b o cap G v (f s) Ds ∧ Whole W Bs 28 xs) := by
  rintro s X Y row ⟨v, h, hx⟩ hg hr
  have hne : ∀ {g : Nat} {t : TypeId} {ys : List Value}, Whole X g t ys → some g ≠ row := fun hw e => by
    obtain ⟨_, ob, ho, hc⟩ := hr _ e.symm
    rw [show X.heap[_]? = _ from hw] at ho
    cases ho
    cases hc
  have hk : Y.ownsRow w.heap.size 45 2 v (f s).length (flat (f s)) := by
    refine h.own.kept hg ?_
    rcases h.own.2 with ⟨e, _⟩ | ⟨g, cap', cur, e, _, hh, _⟩
    · exact .inl (by rw [e]; rfl)
    · refine .inr fun er => ?_
      have eg : v.ownBlock = some g := by rw [e]; rfl
      obtain ⟨_, ob, ho, hc⟩ := hr g (by rw [← er, eg])
      exact row_apart_obj h.own ho hc eg
  refine ⟨v, ⟨h.x0.grown hg (hne h.x0), h.x1.grown hg (hne h.x1), h.x4.grown hg (hne h.x4), hk, ?_, h.nodup, fun D hd => ⟨(h.ds D hd).1, ?_⟩⟩, hx.grown hg (hne hx)⟩
  · exact ownFrom_below (β := Unit) (Nat.le_refl _) hB () X Y row h.below hg hr
  · have hlt := hD D hd
    refine (hg.block D (Array.getElem?_eq_some_iff.1 (h.ds D hd).2).1 (fun e => ?_)).trans (h.ds D hd).2
    have := (hr _ e.symm).1
    omega
theorem round_all {W W5 wz w : World} {l : List (Int × Int)} {R C : Int} {b o cap G Bs B : Nat} {Ds : List Nat} {xs : List Value} {v v3 : Value} {cs : List (Int × Int)} {o1 o2 : Obj} {x y : Int}
    (h : OutI W w l R C b o cap G v cs Ds) (hx : Whole W Bs 28 xs) (hG : w.heap.size + 1 < G) (hne : Bs ≠ G) (b5 : Below W.heap.size W W5)
    (hown3 : wz.ownsRow w.heap.size 45 2 v3 (cs.length + 1) (flat cs ++ [.int .i64 x, .int .i64 y])) (hg3 : ((W5.alloc o1).alloc o2).grownBy wz v.ownBlock) :
    KeepsFrom B W (wz.setCell ⟨G, 0, none⟩ v3) ∧ KeepB w.heap.size Bs W (wz.setCell ⟨G, 0, none⟩ v3) ∧ OutI (wz.setCell ⟨G, 0, none⟩ v3) w l R C b o cap G v3 (cs ++ [(x, y)]) Ds ∧ Whole (wz.setCell ⟨G, 0, none⟩ v3) Bs 28 xs := by
  obtain ⟨ks, kk⟩ := keep_round (G := G) (v3 := v3) b5 hg3
  have hs5 := b5.size
  have hsw := h.below.size
  have whole : ∀ {g : Nat} {t : TypeId} {ys : List Value}, Whole W g t ys → g ≠ G → t ≠ 45 → Whole (wz.setCell ⟨G, 0, none⟩ v3) g t ys := fun hw h1 h2 =>
    kk _ _ hw h1 (row_ne h.own hw fun cur e => by cases e; exact h2 rfl)
  have other : ∀ (k : Nat) (ob : Obj), W.heap[k]? = some ob → ob.isCells = false → (wz.setCell ⟨G, 0, none⟩ v3).heap[k]? = some ob := fun k ob hk hc =>
    kk k ob hk (fun e => by
      subst e
      rw [show W.heap[k]? = _ from h.x4] at hk
      cases hk
      cases hc) (row_apart_obj h.own hk hc)
  have hownY : ((W5.alloc o1).alloc o2).ownsRow w.heap.size 45 2 v cs.length (flat cs) := ((row_keep h.own b5).alloc _).alloc _
  have hX4z : Whole wz G 28 [v] := (((h.x4.below b5 h.x4.lt).alloc o1).alloc o2).grown hg3 (fun e => row_ne h.own h.x4 (fun cur e => by cases e) e.symm)
  have hbx : Whole (wz.setCell ⟨G, 0, none⟩ v3) Bs 28 xs := whole hx hne (by decide)
  refine ⟨⟨ks, fun k ob _ hk hc => other k ob hk hc⟩, ⟨?_, hbx.trans (Eq.symm hx)⟩, ⟨whole h.x0 (by omega) (by decide), whole h.x1 (by omega) (by decide), hX4z.set 0 _, ?_, ?_, h.nodup, fun D hd => ⟨(h.ds D hd).1, other D _ (h.ds D hd).2 rfl⟩⟩, hbx⟩
  · have h1 : Below w.heap.size W ((W5.alloc o1).alloc o2) := ((b5.mono hsw).alloc (by omega) _).alloc (by rw [World.size_alloc]; omega) _
    exact (row_below hownY h1 (by rw [World.size_alloc, World.size_alloc]; omega) hg3).setCell (p := ⟨G, 0, none⟩) (by show w.heap.size ≤ G; omega) _
  · rw [List.length_append, flat_append]
    exact row_setFarM hown3 _ _ (fun e => row_ne hown3 hX4z (fun cur e => by cases e) e.symm)
  · have h1 : Below w.heap.size w ((W5.alloc o1).alloc o2) := ((h.below.trans (b5.mono hsw)).alloc (by omega) _).alloc (by rw [World.size_alloc]; omega) _
    exact (row_below hownY h1 (by rw [World.size_alloc, World.size_alloc]; omega) hg3).setCell (p := ⟨G, 0, none⟩) (by show w.heap.size ≤ G; omega) _
theorem mirP_good {x : Int × Int} (h : good x.1 x.2 = true) : mirP x = mirC x := by unfold mirP mirC; rw [h]; rfl
theorem bks_mir {R C : Int} {l : List (Int × Int)} {k : Nat} (hg : goodB R C l = true) (hk : (k : Int) < R) : (bks (rowL C l k) (rowL C l k).length).map (fun x => mirP x.2) = mirRow C l k C.toNat := by
  obtain ⟨f1, f2, f3, f4, f5, f6, _, _, _⟩ := row_facts hg hk
  have hlen := rowL_len hg hk
  obtain ⟨c, rfl⟩ : ∃ c : Nat, C = (c : Int) := ⟨C.toNat, by omega⟩
  rw [hlen]
  simp only [Int.toNat_natCast] at *
  unfold bks mirRow
  rw [List.map_map]
  refine List.map_congr_left fun j hj => ?_
  have hj' : j < c := List.mem_range.1 hj
  show mirP (bk (rowL (c : Int) l k) j).2 = mirC (cellOf (c : Int) l (k : Int) ((c : Int) - 1 - (j : Int)))
  have hm : k * c + (c - 1 - j) < l.length := by have := Nat.succ_mul k c; omega
  have e1 : (rowL (c : Int) l k).getD (c - 1 - j) (0, 0) = l.getD (k * c + (c - 1 - j)) (0, 0) := by
    unfold rowL piece
    simp only [Int.toNat_natCast]
    rw [List.getD_eq_getElem?_getD, List.getD_eq_getElem?_getD, List.getElem?_take_of_lt (by have := Nat.succ_mul k c; omega), List.getElem?_drop]
  have e2 : atI (c : Int) (k : Int) ((c : Int) - 1 - (j : Int)) = k * c + (c - 1 - j) := by
    unfold atI
    have : (k : Int) * (c : Int) + ((c : Int) - 1 - (j : Int)) = ((k * c + (c - 1 - j) : Nat) : Int) := by push_cast; omega
    rw [this, Int.toNat_natCast]
  unfold bk cellOf
  dsimp only
  rw [hlen, e1, e2]
  refine mirP_good ?_
  rw [List.getD_eq_getElem?_getD, List.getElem?_eq_getElem hm]
  exact (goodB_iff.1 hg).2.2 _ (List.getElem_mem hm)
/-- The rounds' empty lists of deferred calls, taken in at the function's return. -/
theorem leaves_coll {F : Fence} {n : Nat} {P : Program} {fn : Func} {tmps : Array Value} {R : Ending → World → Prop} {B : Nat} (S : World → Prop)
    (hS : ∀ W D, S W → B ≤ D → W.heap[D]? = some (.deferred (some [])) → S (W.putObj D (.deferred none))) (hR : ∀ W, S W → LeavesIn F n P fn tmps R [] .returning W) :
    ∀ (Ds : List Nat) (W : World), Ds.Nodup → (∀ D ∈ Ds, B ≤ D ∧ W.heap[D]? = some (.deferred (some []))) → S W → LeavesInM F n P fn tmps R (Ds.map collD) .returning W
  | [], W, _, _, h => hR W h
  | D :: Ds, W, hn, hd, h => by
    obtain ⟨h1, h2⟩ := hd D List.mem_cons_self
    rw [List.nodup_cons] at hn
    refine ⟨by simp, .inl ⟨D, _, rfl, run_takeDeferred h2, leaves_coll S hS hR Ds _ hn.2 (fun D' hD' => ?_) (hS W D h h1 h2)⟩⟩
    obtain ⟨h3, h4⟩ := hd D' (List.mem_cons_of_mem _ hD')
    refine ⟨h3, ?_⟩
    have hne : D' ≠ D := fun e => by subst e; exact hn.1 hD'
    exact (World.putObj_heap_other hne).trans h4
theorem below_put {B D : Nat} {w W : World} {o : Obj} (h : Below B w W) (hD : B ≤ D) : Below B w (W.putObj D o) :=
  ⟨h.os, h.tape, h.output, by rw [World.putObj_size]; exact h.size, fun k hk => (World.putObj_heap_other (by omega)).trans (h.block k hk)⟩
theorem whole_put {W : World} {g D : Nat} {t : TypeId} {xs : List Value} {o o' : Obj} (h : Whole W g t xs) (hD : W.heap[D]? = some o) (ho : o.isCells = false) : Whole (W.putObj D o') g t xs :=
  (World.putObj_heap_other (fun e => by subst e; rw [show W.heap[g]? = _ from h] at hD; cases hD; cases ho)).trans h
theorem own_put {W : World} {D : Nat} {A : Option Addr} {t : TypeId} {xs : List Value} {o o' : Obj} (h : Own W A t xs) (hD : W.heap[D]? = some o) (ho : o.isCells = false) : Own (W.putObj D o') A t xs := fun hx => by
  obtain ⟨g, rest, rfl, hw⟩ := h hx
  exact ⟨g, rest, rfl, whole_put hw hD ho⟩
end Go.Proofs.Ytdcaohmcidmigaa
