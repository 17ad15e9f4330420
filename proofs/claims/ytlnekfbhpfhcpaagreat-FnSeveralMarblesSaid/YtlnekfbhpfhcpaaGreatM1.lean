/- Contracts of the program and of the model, walked, part 1 of 10. No condition but what each says. -/
import Derived.Test.YtlnekfbhpfhcpaaGreatRows
import Derived.WalkKit
import Derived.ProofKit
import Derived.Handy
import Derived.Lib.Hide
import Derived.WalkSpells
import Derived.WalkLawsBesides
import Derived.BigQuiet
import Derived.Deep.QuietTactic
import Derived.ChangeCalls
import Derived.Deep.Fields
import Derived.Lib.SmallJoins
import Derived.StillTailTactics
import Derived.Laws.AppendOwnNone
import Derived.IntWalk
import Derived.Maps.OwnSet
import Derived.Deep.RegionHeld3
import Derived.Deep.AppendLies
import Derived.Lib.BufferMore
import Derived.Deep.DeepCutAuto
namespace Go.Proofs.YtlnekfbhpfhcpaaGreat
open Go.ChangeShapes Go.WideShapes Go.ChangeAt Go.RowKit Go.Joins Go.Deep
set_option linter.unusedSimpArgs false
set_option linter.unusedVariables false
/-- Every argument reads, in a world in which nothing old has turned, as it read before. -/
theorem args_back {H : Type} {enc : TypeId × Value → H} {P : Program} {W W' : World} (hl : laidOutB P = true) (hb : Below W.heap.size W W') :
    ∀ {ts : List TypeId} {vs : List Value} {ds : List (DataW H)} {ps : List MemPlace}, (∀ t ∈ ts, P.readableRec t = true ∧ t < P.types.size) →
      DataW.TrodAll enc P W 0 (fun _ => true) true ts vs ds ps → (∀ x ∈ ps, x.block < W.heap.size) →
      DataW.TrodAll enc P W' 0 (fun b => decide (b < W.heap.size)) true ts vs ds ps := by
  intro ts
  induction ts with
  | nil =>
    intro vs ds ps _ h _
    obtain ⟨rfl, rfl, rfl⟩ := trodAll_nil h
    exact trodAll_mk0
  | cons t ts ih =>
    intro vs ds ps hts h hlt
    obtain ⟨v0, vs0, d0, ds0, p0, q0, rfl, rfl, rfl, h0, r0⟩ := trodAll_cons h
    obtain ⟨h1, h2⟩ := hts t (List.mem_cons_self ..)
    exact trodAll_cons_mk (Below.trod hl h1 h2 h0 hb (fun x hx => hlt x (List.mem_append_left _ hx))) (ih (fun t' ht' => hts t' (List.mem_cons_of_mem _ ht')) r0 (fun x hx => hlt x (List.mem_append_right _ hx)))
/-- What a law's walk must give, whatever the arguments' shape. -/
def Walk (P : Program) (K : FuncId) (fn : Func) : Prop :=
  ∀ (H : Type) (enc : TypeId × Value → H) (W : World) (base : Nat) (args : Array Value) (ds : List (DataW H)) (ps : List MemPlace),
    DataW.TrodAll enc P W 0 (fun _ => true) true fn.params.toList args.toList ds ps →
    (∀ (j : Nat) t v, fn.params[j]? = some t → args[j]? = some v → Value.okWide P W .any base t v) →
    Calls P K args W fun e W' => e = .returned (.bool true) ∧ Below W.heap.size W W'
theorem lifted {C : Checked} {os : Os} {K : FuncId} {fn : Func} {s : ChangeSpec} (started : os.Started) {H : Type} {enc : TypeId × Value → H} {bt : TypeId}
    (own : ownKnob C.prog.godebug = none) (noInit : C.prog.inits.idxOf? K = none) (hfn : C.prog.funcs[K]? = some fn)
    (i : Input) (fuel : Nat)
    (hv : (World.plainHolding C.prog os i).variablesB C.prog = true)
    (hr : ((World.plainHolding C.prog os i).heap.toList.drop C.prog.globals.size).take ((begin C.prog (fun _ _ => 0) default).world.heap.size - C.prog.globals.size) =
      (begin C.prog (fun _ _ => 0) default).world.heap.toList.drop C.prog.globals.size)
    (hok : Input.okWideB C.prog (World.plainHolding C.prog os i) K ⟨#[], i.args, []⟩ = true)
    (hpre : s.preB enc C.prog fn [] false (World.plainHolding C.prog os i).memory i.args fuel = true)
    (hsz : s.sizedB enc C.prog fn false (World.plainHolding C.prog os i).memory i.args fuel = true)
    (hl : laidOutB C.prog = true) (hts : (fn.params.toList.all fun t => C.prog.readableRec t && decide (t < C.prog.types.size)) = true)
    (hvars : s.vars = []) (hbt : fn.resultTypes = #[bt]) (hub : C.prog.underlying bt = some .bool)
    (hspec : ∀ ds : List (DataW H), ds.length = fn.params.size → (s.fn H ds).results = [.lit (.bool true)] ∧ (s.fn H ds).args = ds ∧ (s.fn H ds).vars = [])
    (hwalk : Walk C.prog K fn) :
    ReturnsInHanded {} C os K .any (s.pre6 enc C.prog fn [] false) (s.post enc C.prog fn false true false false) := by
  refine returnsInHanded_of_change own started noInit hfn (ChangeSpec.witness6 (modest := false) i fuel hv hr hok hpre hsz) ?_
  intro W base args ds gs before hval hW _ _
  have hW' := hW
  obtain ⟨p, q, hA, hV, rfl, _, _⟩ := hW
  rw [hvars] at hV
  obtain ⟨rfl, rfl⟩ := trodVars_none hV
  simp only [List.append_nil] at hW'
  have hlen : ds.length = fn.params.size := by
    have := (trodAll_length hA).2
    simpa using this
  have hlt : ∀ x ∈ p, x.block < W.heap.size := fun x hx => hW'.lt x hx
  refine (hwalk H enc W base args ds p hA hval).mono fun e W' ⟨he, hb⟩ => ⟨_, he, ?_⟩
  obtain ⟨s1, s2, s3⟩ := hspec ds hlen
  have hts' : ∀ t ∈ fn.params.toList, C.prog.readableRec t = true ∧ t < C.prog.types.size := fun t ht => by
    have := List.all_eq_true.1 hts t ht
    simpa using this
  refine ⟨ds, [], p, [], p, [], hW', ?_, ?_, ?_, ?_, ?_⟩
  · rw [List.append_nil, s1, hbt]
    exact trodAll_mk1 (shut_bool hub _)
  · rw [List.append_nil, s2]
    exact args_back hl hb hts' hA hlt
  · rw [List.append_nil, s3, hvars]
    rfl
  · exact World.keptBut_mono (fun x hx => ⟨hx, .inr (.inl hx)⟩) (hb.frame (· ∈ p))
  · intro h; cases h

/-- A struct of two integers, by value. -/
theorem open_ints2 {H : Type} {enc : TypeId × Value → H} {P : Program} {w : World} {base : Nat} {spare : Nat → Bool} {held : Bool} {r : Reach} {b0 : Nat} {t : TypeId} {f0 f1 : Field} {v : Value} {d : DataW H} {p : List MemPlace}
    (hs : P.underlying t = some (.struct #[f0, f1])) (hone : oneCellFields P #[f0, f1] = true) (hC : P.cellsOf t = 2) (k0 : P.underlying f0.type = some (.int .i64)) (k1 : P.underlying f1.type = some (.int .i64))
    (hv : Value.okWide P w r b0 t v) (h : DataW.Trod enc P w base spare held t v d p) :
    ∃ a b : Int, v = .agg #[.int .i64 a, .int .i64 b] ∧ (Lit.int .i64 a).wf = true ∧ (Lit.int .i64 b).wf = true := by
  obtain ⟨c0, c1, y0, y1, m, rfl, _, _, hy0, hy1⟩ := Go.Joins.open_agg2 hs hone hC hv h
  obtain ⟨a, e0, _, wa⟩ := DataW.trod_int k0 hy0
  obtain ⟨b, e1, _, wb⟩ := DataW.trod_int k1 hy1
  simp at e0 e1
  subst e0 e1
  exact ⟨a, b, rfl, wa, wb⟩
theorem own : ownKnob Tryz.prog.godebug = none := by kernel_rfl
theorem laidOut : laidOutB Tryz.prog = true := by kernel_rfl
theorem ret_bool {a b : Bool} (h : a = b) : Ending.returned (.bool a) = .returned (.bool b) := by rw [h]
theorem ret_int {a b : Int} (h : a = b) : Ending.returned (.int .i64 a) = .returned (.int .i64 b) := by rw [h]
/-- What a callee that only grows the world leaves: old cells and old marks read as before. -/
theorem bcell {W w1 : World} (hb : Below W.heap.size W w1) : (∀ b o, b < W.heap.size → w1.cell? ⟨b, o, none⟩ = W.cell? ⟨b, o, none⟩) ∧ (∀ b o, b < W.heap.size → w1.frozen? ⟨b, o, none⟩ = W.frozen? ⟨b, o, none⟩) :=
  ⟨fun b o h => hb.cell (p := ⟨b, o, none⟩) h, fun b o h => hb.frozen (p := ⟨b, o, none⟩) h⟩
/-- A block that holds a cell is there. -/
theorem lt_of_cell {w : World} {a : Addr} {v : Value} (h : w.cell? a = some v) : a.block < w.heap.size := by
  rcases Nat.lt_or_ge a.block w.heap.size with hlt | hge
  · exact hlt
  · simp [World.cell?, Array.getElem?_eq_none hge] at h
end Go.Proofs.YtlnekfbhpfhcpaaGreat
namespace Go.Proofs.YtlnekfbhpfhcpaaGreat
open Go.ChangeShapes Go.WideShapes Go.ChangeAt Go.RowKit Go.Joins Go.Deep
set_option linter.unusedSimpArgs false
set_option linter.unusedVariables false
def turning (k : Int) : Bool := decide (k = 3 ∨ k = 6)
def good (k s : Int) : Bool := decide (0 ≤ k ∧ k ≤ 7 ∧ (s = 0 ∨ s = 1 ∧ (k = 3 ∨ k = 6)))
set_option maxHeartbeats 400000
theorem spec_l1In (a b c : Int) (w : World) :
    Calls Tryz.prog 63 #[.int .i64 a, .int .i64 b, .int .i64 c] w fun e w' => e = .returned (.bool (decide (b ≤ a) && decide (a ≤ c))) ∧ w = w' := by
  by_cases h1 : b ≤ a
  all_goals go_enter Tryz.func63, Tryz.ntmps63
  all_goals go_wp2
  all_goals go_returns
  all_goals exact ⟨ret_bool (by (first | rfl | (refine Bool.eq_iff_iff.2 ?_; simp only [Bool.and_eq_true, Bool.or_eq_true, Bool.not_eq_true', decide_eq_true_eq, decide_eq_false_iff_not, beq_iff_eq, bne_iff_ne, ne_eq, true_iff, iff_true, false_iff, iff_false, Bool.false_eq_true, Bool.true_eq_false] <;> omega) | (simp; omega))), rfl⟩
theorem spec_paTurning (a b : Int) (w : World) :
    Calls Tryz.prog 92 #[.agg #[.int .i64 a, .int .i64 b]] w fun e w' => e = .returned (.bool (turning a)) ∧ Below w.heap.size w w' := by
  go_enter Tryz.func92, Tryz.ntmps92
  go_wp2
  all_goals go_returns
  all_goals refine ⟨ret_bool (by unfold turning; (first | rfl | (refine Bool.eq_iff_iff.2 ?_; simp only [Bool.and_eq_true, Bool.or_eq_true, Bool.not_eq_true', decide_eq_true_eq, decide_eq_false_iff_not, beq_iff_eq, bne_iff_ne, ne_eq, true_iff, iff_true, false_iff, iff_false, Bool.false_eq_true, Bool.true_eq_false] <;> omega) | (simp; omega))), by go_grown⟩
theorem impl_isKind (a : Int) (w : World) :
    Calls Tryz.prog 95 #[.int .i64 a] w fun e w' => e = .returned (.bool (decide (0 ≤ a) && decide (a ≤ 7))) ∧ w = w' := by
  go_enter Tryz.func95, Tryz.ntmps95
  go_wp2
  all_goals go_returns
  all_goals refine ⟨ret_bool (by (first | rfl | (refine Bool.eq_iff_iff.2 ?_; simp only [Bool.and_eq_true, Bool.or_eq_true, Bool.not_eq_true', decide_eq_true_eq, decide_eq_false_iff_not, beq_iff_eq, bne_iff_ne, ne_eq, true_iff, iff_true, false_iff, iff_false, Bool.false_eq_true, Bool.true_eq_false] <;> omega) | (simp; omega))), rfl⟩
theorem impl_IsTurning (a b : Int) (w : World) :
    Calls Tryz.prog 96 #[.agg #[.int .i64 a, .int .i64 b]] w fun e w' => e = .returned (.bool (good a b && turning a)) ∧ Below w.heap.size w w' := by
  go_enter Tryz.func96, Tryz.ntmps96
  go_wp2
  all_goals go_returns
  all_goals refine ⟨ret_bool (by unfold turning good; (first | rfl | (refine Bool.eq_iff_iff.2 ?_; simp only [Bool.and_eq_true, Bool.or_eq_true, Bool.not_eq_true', decide_eq_true_eq, decide_eq_false_iff_not, beq_iff_eq, bne_iff_ne, ne_eq, true_iff, iff_true, false_iff, iff_false, Bool.false_eq_true, Bool.true_eq_false] <;> omega) | (simp; omega))), by go_grown⟩
theorem spec_paGood (a b : Int) (w : World) :
    Calls Tryz.prog 68 #[.agg #[.int .i64 a, .int .i64 b]] w fun e w' => e = .returned (.bool (good a b)) ∧ Below w.heap.size w w' := by
  go_enter Tryz.func68, Tryz.ntmps68
  go_wp2_with (first | (go_at_call 63; refine (spec_l1In _ _ _ _).mono ?_; rintro e w1 ⟨rfl, rfl⟩) | (go_at_call 92; refine (spec_paTurning _ _ _).mono ?_; rintro e w1 ⟨rfl, bw1⟩; obtain ⟨cw1, fw1⟩ := bcell bw1; have zw10 : w.heap.size < w1.heap.size := (by have := bw1.size; first | omega | (simp at this; omega))))
  all_goals go_returns
  all_goals refine ⟨ret_bool (by unfold good; first | (unfold turning; (first | rfl | (refine Bool.eq_iff_iff.2 ?_; simp only [Bool.and_eq_true, Bool.or_eq_true, Bool.not_eq_true', decide_eq_true_eq, decide_eq_false_iff_not, beq_iff_eq, bne_iff_ne, ne_eq, true_iff, iff_true, false_iff, iff_false, Bool.false_eq_true, Bool.true_eq_false] <;> omega) | (simp; omega))) | (first | rfl | (refine Bool.eq_iff_iff.2 ?_; simp only [Bool.and_eq_true, Bool.or_eq_true, Bool.not_eq_true', decide_eq_true_eq, decide_eq_false_iff_not, beq_iff_eq, bne_iff_ne, ne_eq, true_iff, iff_true, false_iff, iff_false, Bool.false_eq_true, Bool.true_eq_false] <;> omega) | (simp; omega))), by (repeat' (first | (with_reducible exact Below.refl _ _) | (with_reducible assumption) | (with_reducible refine Below.alloc ?_ ?_ _) | (with_reducible refine Below.setCell ?_ ?_ _) | (with_reducible refine Below.drew ?_) | (with_reducible refine below_drewN ?_ _) | (with_reducible refine Below.trans ?_ (Below.mono (by assumption) ?_)) | (with_reducible exact Nat.le_refl _) | (simp; done) | omega | (simp at *; omega)))⟩
theorem impl_IsCell (a b : Int) (w : World) :
    Calls Tryz.prog 77 #[.agg #[.int .i64 a, .int .i64 b]] w fun e w' => e = .returned (.bool (good a b)) ∧ Below w.heap.size w w' := by
  go_enter Tryz.func77, Tryz.ntmps77
  go_wp2_with (first | (go_at_call 95; refine (impl_isKind _ _).mono ?_; rintro e w1 ⟨rfl, rfl⟩) | (go_at_call 96; refine (impl_IsTurning _ _ _).mono ?_; rintro e w1 ⟨rfl, bw1⟩; obtain ⟨cw1, fw1⟩ := bcell bw1; have zw10 : w.heap.size < w1.heap.size := (by have := bw1.size; first | omega | (simp at this; omega))))
  all_goals go_returns
  all_goals refine ⟨ret_bool (by unfold good; first | (unfold turning; (first | rfl | (refine Bool.eq_iff_iff.2 ?_; simp only [Bool.and_eq_true, Bool.or_eq_true, Bool.not_eq_true', decide_eq_true_eq, decide_eq_false_iff_not, beq_iff_eq, bne_iff_ne, ne_eq, true_iff, iff_true, false_iff, iff_false, Bool.false_eq_true, Bool.true_eq_false] <;> omega) | (simp; omega))) | (first | rfl | (refine Bool.eq_iff_iff.2 ?_; simp only [Bool.and_eq_true, Bool.or_eq_true, Bool.not_eq_true', decide_eq_true_eq, decide_eq_false_iff_not, beq_iff_eq, bne_iff_ne, ne_eq, true_iff, iff_true, false_iff, iff_false, Bool.false_eq_true, Bool.true_eq_false] <;> omega) | (simp; omega))), by (repeat' (first | (with_reducible exact Below.refl _ _) | (with_reducible assumption) | (with_reducible refine Below.alloc ?_ ?_ _) | (with_reducible refine Below.setCell ?_ ?_ _) | (with_reducible refine Below.drew ?_) | (with_reducible refine below_drewN ?_ _) | (with_reducible refine Below.trans ?_ (Below.mono (by assumption) ?_)) | (with_reducible exact Nat.le_refl _) | (simp; done) | omega | (simp at *; omega)))⟩
/-- A field of a result that is zero where the call fails. -/
def selI (ok : Bool) (x : Int) : Int := if ok then x else 0
theorem ret_cellb {a b c d : Int} {x y : Bool} (h : x = y) (h1 : y = true → a = c) (h2 : y = true → b = d) (h3 : y = false → a = 0) (h4 : y = false → b = 0) :
    Ending.returned (.tuple #[.agg #[.int .i64 a, .int .i64 b], .bool x]) = .returned (.tuple #[.agg #[.int .i64 (selI y c), .int .i64 (selI y d)], .bool y]) := by
  subst h
  cases x
  · rw [h3 rfl, h4 rfl]; rfl
  · rw [h1 rfl, h2 rfl]; rfl
theorem ret_eq {v u : Value} (h : v = u) : Ending.returned v = .returned u := by rw [h]
theorem spec_paTurn (a b : Int) (h : good a b = true) (w : World) :
    Calls Tryz.prog 93 #[.agg #[.int .i64 a, .int .i64 b]] w fun e w' => e = .returned (.agg #[.int .i64 a, .int .i64 (1 - b)]) ∧ Below w.heap.size w w' := by
  have h0 : 0 ≤ b := by unfold good at h; simp at h; omega
  have h1 : b ≤ 1 := by unfold good at h; simp at h; omega
  clear h
  go_enter Tryz.func93, Tryz.ntmps93
  go_wp2
  all_goals go_returns
  all_goals exact ⟨rfl, by (repeat' (first | (with_reducible exact Below.refl _ _) | (with_reducible assumption) | (with_reducible refine Below.alloc ?_ ?_ _) | (with_reducible refine Below.setCell ?_ ?_ _) | (with_reducible refine Below.drew ?_) | (with_reducible refine below_drewN ?_ _) | (with_reducible refine Below.trans ?_ (Below.mono (by assumption) ?_)) | (with_reducible exact Nat.le_refl _) | (simp; done) | omega | (simp at *; omega)))⟩
theorem impl_TurnCell (a b : Int) (w : World) :
    Calls Tryz.prog 79 #[.agg #[.int .i64 a, .int .i64 b]] w fun e w' => e = .returned (.tuple #[.agg #[.int .i64 (selI (good a b && turning a) a), .int .i64 (selI (good a b && turning a) (1 - b))], .bool (good a b && turning a)]) ∧ Below w.heap.size w w' := by
  by_cases hg : (good a b && turning a) = true
  · have h0 : 0 ≤ b := by unfold good at hg; simp at hg; omega
    have h1 : b ≤ 1 := by unfold good at hg; simp at hg; omega
    go_enter Tryz.func79, Tryz.ntmps79
    go_wp2_with (first | (go_at_call 96; refine (impl_IsTurning _ _ _).mono ?_; rintro e w1 ⟨rfl, bw1⟩; obtain ⟨cw1, fw1⟩ := bcell bw1; have zw10 : w.heap.size < w1.heap.size := (by have := bw1.size; first | omega | (simp at this; omega)); have zw11 : w.heap.size + 1 < w1.heap.size := (by have := bw1.size; first | omega | (simp at this; omega))))
    all_goals first | (refine bodyPost_ret (v := .tuple #[.agg #[.int .i64 0, .int .i64 0], .bool false]) ?_ rfl ?_; (focus (simp [results, Tryz.results79, go_sem, *]; done))) | (refine bodyPost_ret (v := .tuple #[.agg #[.int .i64 a, .int .i64 (1 - b)], .bool true]) ?_ rfl ?_; (focus (simp [results, Tryz.results79, go_sem, *]; done)))
    all_goals refine ⟨by refine ret_cellb ?_ ?_ ?_ ?_ ?_ <;> first | rfl | (simp_all; done) | (intros; rfl), by (repeat' (first | (with_reducible exact Below.refl _ _) | (with_reducible assumption) | (with_reducible refine Below.alloc ?_ ?_ _) | (with_reducible refine Below.setCell ?_ ?_ _) | (with_reducible refine Below.drew ?_) | (with_reducible refine below_drewN ?_ _) | (with_reducible refine Below.trans ?_ (Below.mono (by assumption) ?_)) | (with_reducible exact Nat.le_refl _) | (simp; done) | omega | (simp at *; omega)))⟩
  · have hg' : (good a b && turning a) = false := by simpa using hg
    clear hg
    go_enter Tryz.func79, Tryz.ntmps79
    go_wp2_with (first | (go_at_call 96; refine (impl_IsTurning _ _ _).mono ?_; rintro e w1 ⟨rfl, bw1⟩; obtain ⟨cw1, fw1⟩ := bcell bw1; have zw10 : w.heap.size < w1.heap.size := (by have := bw1.size; first | omega | (simp at this; omega)); have zw11 : w.heap.size + 1 < w1.heap.size := (by have := bw1.size; first | omega | (simp at this; omega))))
    all_goals first | (refine bodyPost_ret (v := .tuple #[.agg #[.int .i64 0, .int .i64 0], .bool false]) ?_ rfl ?_; (focus (simp [results, Tryz.results79, go_sem, *]; done))) | (refine bodyPost_ret (v := .tuple #[.agg #[.int .i64 a, .int .i64 (1 - b)], .bool true]) ?_ rfl ?_; (focus (simp [results, Tryz.results79, go_sem, *]; done)))
    all_goals refine ⟨by refine ret_cellb ?_ ?_ ?_ ?_ ?_ <;> first | rfl | (simp_all; done) | (intros; rfl), by (repeat' (first | (with_reducible exact Below.refl _ _) | (with_reducible assumption) | (with_reducible refine Below.alloc ?_ ?_ _) | (with_reducible refine Below.setCell ?_ ?_ _) | (with_reducible refine Below.drew ?_) | (with_reducible refine below_drewN ?_ _) | (with_reducible refine Below.trans ?_ (Below.mono (by assumption) ?_)) | (with_reducible exact Nat.le_refl _) | (simp; done) | omega | (simp at *; omega)))⟩
end Go.Proofs.YtlnekfbhpfhcpaaGreat
namespace Go.Proofs.YtlnekfbhpfhcpaaGreat
open Go.ChangeShapes Go.WideShapes Go.ChangeAt Go.RowKit Go.Joins Go.Deep
set_option linter.unusedSimpArgs false
set_option linter.unusedVariables false
set_option maxRecDepth 100000
set_option maxHeartbeats 400000
/-- The cells of a list, as memory holds them: two words each. -/
def flat (l : List (Int × Int)) : List Value := l.flatMap fun c => [.int .i64 c.1, .int .i64 c.2]
/-- The slice that begins at A reads as these words; it lies below block B. -/
def Rd (w : World) (B : Nat) (A : Option Addr) (xs : List Value) : Prop :=
  0 < xs.length → ∃ b o, A = some ⟨b, o, none⟩ ∧ b < B ∧ ∀ j u, xs[j]? = some u → w.cell? ⟨b, o + j, none⟩ = some u
theorem Rd.below {w w' : World} {B : Nat} {A : Option Addr} {xs : List Value} (h : Rd w B A xs) (hb : Below B w w') : Rd w' B A xs := fun hx => by
  obtain ⟨b, o, e, hlt, hc⟩ := h hx
  exact ⟨b, o, e, hlt, fun j u hu => (hb.cell (p := ⟨b, o + j, none⟩) hlt).trans (hc j u hu)⟩
theorem Rd.mono {w : World} {B B' : Nat} {A : Option Addr} {xs : List Value} (h : Rd w B A xs) (hB : B ≤ B') : Rd w B' A xs := fun hx => by
  obtain ⟨b, o, e, hlt, hc⟩ := h hx
  exact ⟨b, o, e, Nat.lt_of_lt_of_le hlt hB, hc⟩
/-- Block g holds just these words, of element type t, none of them frozen. -/
def Whole (w : World) (g : Nat) (t : TypeId) (xs : List Value) : Prop := w.heap[g]? = some (.cells xs.toArray t (0, 0))
theorem Whole.lt {w : World} {g : Nat} {t : TypeId} {xs : List Value} (h : Whole w g t xs) : g < w.heap.size := by
  rcases Nat.lt_or_ge g w.heap.size with hlt | hge
  · exact hlt
  · unfold Whole at h
    rw [Array.getElem?_eq_none hge] at h
    cases h
theorem Whole.cell {w : World} {g : Nat} {t : TypeId} {xs : List Value} (h : Whole w g t xs) (j : Nat) : w.cell? ⟨g, j, none⟩ = xs[j]? := by
  have := cell_of_row w g j xs.toArray t (0, 0) h
  simpa using this
theorem Whole.frozen {w : World} {g : Nat} {t : TypeId} {xs : List Value} (h : Whole w g t xs) (j : Nat) : w.frozen? ⟨g, j, none⟩ = false := by
  unfold Whole at h
  simp [World.frozen?, h]
theorem Whole.below {w w' : World} {B g : Nat} {t : TypeId} {xs : List Value} (h : Whole w g t xs) (hb : Below B w w') (hg : g < B) : Whole w' g t xs := (hb.block g hg).trans h
theorem Whole.alloc {w : World} {g : Nat} {t : TypeId} {xs : List Value} (h : Whole w g t xs) (o : Obj) : Whole (w.alloc o) g t xs := (Below.heap_alloc w o g h.lt).trans h
theorem Whole.set {w : World} {g : Nat} {t : TypeId} {xs : List Value} (h : Whole w g t xs) (j : Nat) (u : Value) : Whole (w.setCell ⟨g, j, none⟩ u) g t (xs.set j u) := by
  unfold Whole at h ⊢
  simp [World.setCell, Array.getElem?_modify, h]
theorem Whole.rd {w : World} {g : Nat} {t : TypeId} {xs : List Value} (h : Whole w g t xs) {B : Nat} (hB : g < B) : Rd w B (some ⟨g, 0, none⟩) xs := fun _ =>
  ⟨g, 0, rfl, hB, fun j u hu => by rw [Nat.zero_add, h.cell]; exact hu⟩
theorem flat_length (l : List (Int × Int)) : (flat l).length = 2 * l.length := by
  induction l with
  | nil => rfl
  | cons c l ih => simp [flat] at ih ⊢; omega
theorem flat_at (l : List (Int × Int)) (k : Nat) (h : k < l.length) : (flat l)[k * 2]? = some (.int .i64 l[k].1) ∧ (flat l)[k * 2 + 1]? = some (.int .i64 l[k].2) := by
  induction l generalizing k with
  | nil => simp at h
  | cons c l ih =>
    cases k with
    | zero => exact ⟨rfl, rfl⟩
    | succ k =>
      have := ih k (by simpa using h)
      have e1 : (flat (c :: l))[(k + 1) * 2]? = (flat l)[k * 2]? := by rw [show (k + 1) * 2 = k * 2 + 1 + 1 by omega]; rfl
      have e2 : (flat (c :: l))[(k + 1) * 2 + 1]? = (flat l)[k * 2 + 1]? := by rw [show (k + 1) * 2 = k * 2 + 1 + 1 by omega]; rfl
      rw [e1, e2]
      exact this
theorem cellInfo : (Tryz.prog.info? 86).map (fun i => (i.zero, i.size, i.bytes)) = some (some (.agg #[.int .i64 0, .int .i64 0]), 2, 16) := by kernel_rfl
/-- n zero words. -/
def zrow (n : Nat) : List Value := List.replicate n (.int .i64 0)
theorem made_cells (n : Nat) : madeCells (Value.agg #[.int .i64 0, .int .i64 0]).cells (n * 2) = (zrow (2 * n)).toArray := by
  apply Array.ext
  · simp [madeCells, zrow]; omega
  · intro i h1 h2
    have h3 : i % 2 = 0 ∨ i % 2 = 1 := by omega
    rcases h3 with h3 | h3 <;> simp [madeCells, zrow, Value.cells, h3]
theorem run_make_cells (n : Nat) (hn : n ≤ 1048576) (w : World) :
    (Instr.makeSlice 23 (.int .i64 (n : Int)) (.int .i64 (n : Int))).run Tryz.prog w = .ok (.slice (some ⟨w.heap.size, 0, none⟩) n n) (w.alloc (.cells (zrow (2 * n)).toArray 86)) := by
  obtain ⟨i0, hi, hz0, hz1, hz2⟩ := info_parts cellInfo
  have h := run_make (P := Tryz.prog) w 23 86 i0 _ Tryz.underlying23 hi hz0 .i64 .i64 (n : Int) (n : Int) (by omega) (by omega) (by rw [hz2]; omega) (by omega)
  rw [hz1] at h
  simp only [Int.toNat_natCast] at h
  rw [h, made_cells]
/-- What the copy holds after k rounds. -/
def part (l : List (Int × Int)) (k : Nat) : List Value := flat (l.take k) ++ zrow (2 * (l.length - k))
theorem part_zero (l : List (Int × Int)) : part l 0 = zrow (2 * l.length) := by simp [part, flat]
theorem part_all (l : List (Int × Int)) : part l l.length = flat l := by simp [part, zrow]
theorem part_at (l : List (Int × Int)) (k : Nat) (h : k < l.length) : (part l k)[k * 2]? = some (.int .i64 0) ∧ (part l k)[k * 2 + 1]? = some (.int .i64 0) := by
  have e : (flat (l.take k)).length = k * 2 := by rw [flat_length, List.length_take]; omega
  constructor
  · rw [part, List.getElem?_append_right (by omega), e]
    rw [zrow, List.getElem?_replicate, if_pos (by omega)]
  · rw [part, List.getElem?_append_right (by omega), e]
    rw [zrow, List.getElem?_replicate, if_pos (by omega)]
theorem part_step (l : List (Int × Int)) (k : Nat) (h : k < l.length) : ((part l k).set (k * 2) (.int .i64 l[k].1)).set (k * 2 + 1) (.int .i64 l[k].2) = part l (k + 1) := by
  have e : (flat (l.take k)).length = k * 2 := by rw [flat_length, List.length_take]; omega
  have ez : zrow (2 * (l.length - k)) = .int .i64 0 :: .int .i64 0 :: zrow (2 * (l.length - (k + 1))) := by
    rw [show 2 * (l.length - k) = 2 * (l.length - (k + 1)) + 1 + 1 by omega]
    rfl
  have ef : flat (l.take (k + 1)) = flat (l.take k) ++ [.int .i64 l[k].1, .int .i64 l[k].2] := by
    rw [List.take_succ_eq_append_getElem h]
    simp only [flat, List.flatMap_append, List.flatMap_cons, List.flatMap_nil, List.append_nil]
  rw [part, part, ez, ef, List.set_append_right _ _ (by omega), List.set_append_right _ _ (by omega), e]
  rw [Nat.sub_self, show k * 2 + 1 - k * 2 = 1 by omega]
  simp
end Go.Proofs.YtlnekfbhpfhcpaaGreat
namespace Go.Proofs.YtlnekfbhpfhcpaaGreat
open Go.ChangeShapes Go.WideShapes Go.ChangeAt Go.RowKit Go.Joins Go.Deep
set_option linter.unusedSimpArgs false
set_option linter.unusedVariables false
set_option maxRecDepth 100000
set_option maxHeartbeats 400000
theorem flat_inj : ∀ {l m : List (Int × Int)}, flat l = flat m → l = m := by
  intro l
  induction l with
  | nil => intro m h; cases m with
    | nil => rfl
    | cons c m => cases h
  | cons c l ih => intro m h; cases m with
    | nil => cases h
    | cons d m =>
      have h' : Value.int .i64 c.1 :: .int .i64 c.2 :: flat l = .int .i64 d.1 :: .int .i64 d.2 :: flat m := h
      simp only [List.cons.injEq, Value.int.injEq, true_and] at h'
      rw [ih h'.2.2, Prod.ext h'.1 h'.2.1]
theorem take_step {l m : List (Int × Int)} {k : Nat} (h1 : k < l.length) (h2 : k < m.length) (h : l.take k = m.take k) : l[k].1 = m[k].1 → l[k].2 = m[k].2 → l.take (k + 1) = m.take (k + 1) := fun a b => by
  rw [List.take_succ_eq_append_getElem h1, List.take_succ_eq_append_getElem h2, h, Prod.ext a b]
end Go.Proofs.YtlnekfbhpfhcpaaGreat
namespace Go.Proofs.YtlnekfbhpfhcpaaGreat
open Go.ChangeShapes Go.WideShapes Go.ChangeAt Go.RowKit Go.Joins Go.Deep
set_option linter.unusedSimpArgs false
set_option linter.unusedVariables false
set_option maxRecDepth 100000
set_option maxHeartbeats 400000
/-- The numbers k, k + 1, .. as words. -/
def marks (k : Int) : Nat → List Value
  | 0 => []
  | n + 1 => .int .i64 k :: marks (k + 1) n
theorem marks_length (k : Int) (n : Nat) : (marks k n).length = n := by
  induction n generalizing k with
  | zero => rfl
  | succ n ih => simp [marks, ih]
theorem marks_at (k : Int) (n i : Nat) (h : i < n) : (marks k n)[i]? = some (.int .i64 (k + i)) := by
  induction n generalizing k i with
  | zero => omega
  | succ n ih =>
    cases i with
    | zero => simp [marks]
    | succ i => simp only [marks, List.getElem?_cons_succ]; rw [ih (k + 1) i (by omega)]; congr 2; omega
theorem marks_snoc (k : Int) (n : Nat) : marks k (n + 1) = marks k n ++ [.int .i64 (k + n)] := by
  induction n generalizing k with
  | zero => simp [marks]
  | succ n ih =>
    have := ih (k + 1)
    rw [marks, this]
    simp only [marks, List.cons_append, List.cons.injEq, true_and]
    congr 3; omega
/-- A slice of the call's own: nil, or at the head of a block that begins with these words. -/
def Own (w : World) (A : Option Addr) (t : TypeId) (xs : List Value) : Prop :=
  0 < xs.length → ∃ g rest, A = some ⟨g, 0, none⟩ ∧ Whole w g t (xs ++ rest)
/-- Only the block of A, and what is new, has turned. -/
def Only (w w' : World) (A : Option Addr) : Prop := w.grownBy w' (A.map (·.block))
theorem marked_step (k : Int) (xs rest : List Value) (i : Nat) (h : i < xs.length) : ((marks k i ++ xs.drop i) ++ rest).set i (.int .i64 (k + i)) = (marks k (i + 1) ++ xs.drop (i + 1)) ++ rest := by
  rw [marks_snoc, List.append_assoc, List.set_append_right _ _ (by rw [marks_length]; omega), marks_length, Nat.sub_self]
  rw [List.drop_eq_getElem_cons h, List.cons_append, List.set_cons_zero]
  simp only [List.append_assoc, List.singleton_append, List.cons_append, List.nil_append]
theorem marked_at (k : Int) (xs rest : List Value) (i : Nat) (h : i < xs.length) : ∃ u, ((marks k i ++ xs.drop i) ++ rest)[i]? = some u := by
  refine ⟨xs[i], ?_⟩
  rw [List.append_assoc, List.getElem?_append_right (by rw [marks_length]; omega), marks_length, Nat.sub_self, List.getElem?_append_left (by simp; omega)]
  simp
theorem only_setCell {w wr : World} {g : Nat} (h : w.grownBy wr (some g)) (j : Nat) (u : Value) : w.grownBy (wr.setCell ⟨g, j, none⟩ u) (some g) :=
  ⟨h.os, h.tape, h.output, by simpa [World.setCell] using h.size, fun i hi hne => (Below.heap_setCell wr ⟨g, j, none⟩ u i (fun e => hne (by rw [e]))).trans (h.block i hi hne)⟩
theorem marks_two (k : Int) (n : Nat) : marks k (2 * (n + 1)) = .int .i64 k :: .int .i64 (k + 1) :: marks (k + 2) (2 * n) := by
  rw [show 2 * (n + 1) = 2 * n + 1 + 1 by omega]
  simp only [marks]
  rw [show k + 1 + 1 = k + 2 by omega]
/-- A list of numbers, as memory holds it. -/
def ints (l : List Int) : List Value := l.map (.int .i64)
theorem ints_length (l : List Int) : (ints l).length = l.length := by simp [ints]
theorem ints_at (l : List Int) (k : Nat) (h : k < l.length) : (ints l)[k]? = some (.int .i64 l[k]) := by simp [ints, h]
theorem take_step1 {l m : List Int} {k : Nat} (h1 : k < l.length) (h2 : k < m.length) (h : l.take k = m.take k) : l[k] = m[k] → l.take (k + 1) = m.take (k + 1) := fun a => by
  rw [List.take_succ_eq_append_getElem h1, List.take_succ_eq_append_getElem h2, h, a]
end Go.Proofs.YtlnekfbhpfhcpaaGreat
namespace Go.Proofs.YtlnekfbhpfhcpaaGreat
open Go.ChangeShapes Go.WideShapes Go.ChangeAt Go.RowKit Go.Joins Go.Deep
set_option linter.unusedSimpArgs false
set_option linter.unusedVariables false
set_option maxRecDepth 100000
set_option maxHeartbeats 400000
theorem Own.rd {w : World} {A : Option Addr} {t : TypeId} {xs : List Value} (h : Own w A t xs) : Rd w w.heap.size A xs := fun hx => by
  obtain ⟨g, rest, e, hw⟩ := h hx
  refine ⟨g, 0, e, hw.lt, fun j u hu => ?_⟩
  rw [Nat.zero_add, hw.cell, List.getElem?_append_left (by have := (List.getElem?_eq_some_iff.1 hu).1; exact this)]
  exact hu
theorem Own.keep {w w' : World} {A : Option Addr} {t : TypeId} {xs : List Value} (h : Own w A t xs) (hb : Below w.heap.size w w') : Own w' A t xs := fun hx => by
  obtain ⟨g, rest, e, hw⟩ := h hx
  exact ⟨g, rest, e, hw.below hb hw.lt⟩
theorem Own.only {w w' : World} {A A' : Option Addr} {t : TypeId} {xs : List Value} (h : Own w A t xs) (ho : Only w w' A') (hne : 0 < xs.length → ∀ a a', A = some a → A' = some a' → a.block ≠ a'.block) : Own w' A t xs := fun hx => by
  obtain ⟨g, rest, rfl, hw⟩ := h hx
  refine ⟨g, rest, rfl, ?_⟩
  refine (ho.block g hw.lt ?_).trans hw
  cases hA : A' with
  | none => simp
  | some a' => simpa using hne hx _ _ rfl hA
theorem Own.lt {w : World} {A : Option Addr} {t : TypeId} {xs : List Value} (h : Own w A t xs) (hx : 0 < xs.length) {a : Addr} (ha : A = some a) : a.block < w.heap.size := by
  obtain ⟨g, rest, e, hw⟩ := h hx
  rw [e] at ha
  cases ha
  exact hw.lt
theorem Whole.own {w : World} {g : Nat} {t : TypeId} {xs : List Value} (h : Whole w g t xs) : Own w (some ⟨g, 0, none⟩) t xs := fun _ => ⟨g, [], rfl, by rw [List.append_nil]; exact h⟩
theorem Own.none_ {w : World} {A : Option Addr} {t : TypeId} : Own w A t [] := fun h => absurd h (by simp)
theorem Only.below {w w' : World} {A : Option Addr} {B : Nat} (h : Only w w' A) (hB : B ≤ w.heap.size) (hge : ∀ a, A = some a → B ≤ a.block) : Below B w w' :=
  (Below.refl B w).grown h hB (fun k hk => by
    cases hA : A with
    | none => rw [hA] at hk; cases hk
    | some a => rw [hA] at hk; cases hk; exact hge _ hA)
/-- The slice at A is new: it does not lie in the old heap. -/
def New (w : World) (A : Option Addr) : Prop := ∀ a, A = some a → w.heap.size ≤ a.block
theorem New.none_ {w : World} : New w none := fun _ h => by cases h
theorem New.mono {w w' : World} {A : Option Addr} (h : New w' A) (hs : w.heap.size ≤ w'.heap.size) : New w A := fun a ha => Nat.le_trans hs (h a ha)
theorem New.ge {w : World} {A : Option Addr} {B : Nat} (h : New w A) (hB : B ≤ w.heap.size) : ∀ a, A = some a → B ≤ a.block := fun a ha => Nat.le_trans hB (h a ha)
theorem intInfo : (Tryz.prog.info? 3).map (fun i => (i.zero, i.size, i.bytes)) = some (some (.int .i64 0), 1, 8) := by kernel_rfl
theorem made_ints (n : Nat) : madeCells (Value.int .i64 0).cells (n * 1) = (zrow n).toArray := by
  apply Array.ext
  · simp [madeCells, zrow]
  · intro i h1 h2
    simp [madeCells, zrow, Value.cells, Nat.mod_one]
theorem run_make_ints (n : Nat) (hn : n ≤ 1048576) (w : World) :
    (Instr.makeSlice 26 (.int .i64 (n : Int)) (.int .i64 (n : Int))).run Tryz.prog w = .ok (.slice (some ⟨w.heap.size, 0, none⟩) n n) (w.alloc (.cells (zrow n).toArray 3)) := by
  obtain ⟨i0, hi, hz0, hz1, hz2⟩ := info_parts intInfo
  have h := run_make (P := Tryz.prog) w 26 3 i0 _ Tryz.underlying26 hi hz0 .i64 .i64 (n : Int) (n : Int) (by omega) (by omega) (by rw [hz2]; omega) (by omega)
  rw [hz1] at h
  simp only [Int.toNat_natCast] at h
  rw [h, made_ints]
/-- A valid list of cells. -/
def goodL (l : List (Int × Int)) : Bool := decide (l.length ≤ 90) && l.all fun c => good c.1 c.2
theorem all_take {l : List (Int × Int)} {k : Nat} (h : k < l.length) (hk : ((l.take k).all fun c => good c.1 c.2) = true) (hg : good l[k].1 l[k].2 = true) : ((l.take (k + 1)).all fun c => good c.1 c.2) = true := by
  rw [List.take_succ_eq_append_getElem h, List.all_append, hk]
  simp [hg]
theorem all_not {l : List (Int × Int)} {k : Nat} (h : k < l.length) (hg : good l[k].1 l[k].2 = false) : (l.all fun c => good c.1 c.2) = false := by
  rw [List.all_eq_false]
  exact ⟨l[k], List.getElem_mem h, by rw [hg]; simp⟩
theorem impl_areCells (A : Option Addr) (cap : Nat) (l : List (Int × Int)) (w : World) (hn : l.length ≤ 1048576) (hr : Rd w w.heap.size A (flat l)) :
    Calls Tryz.prog 65 #[.slice A l.length cap] w fun e w' => e = .returned (.bool (goodL l)) ∧ Below w.heap.size w w' := by
  by_cases h90 : l.length ≤ 90
  · go_enter Tryz.func65, Tryz.ntmps65
    go_wp2
    go_loopw [10] (fun i wr => ∃ k : Nat, k ≤ l.length ∧ i = .int .i64 k ∧ ((l.take k).all fun c => good c.1 c.2) = true ∧ Below w.heap.size w wr) (fun i _ => l.length - (intOf i).toNat)
    case atStart => exact ⟨0, Nat.zero_le _, rfl, rfl, by (repeat' (first | (with_reducible exact Below.refl _ _) | (with_reducible assumption) | (with_reducible refine Below.alloc ?_ ?_ _) | (with_reducible refine Below.setCell ?_ ?_ _) | (with_reducible refine Below.drew ?_) | (with_reducible refine below_drewN ?_ _) | (with_reducible refine Below.trans ?_ (Below.mono (by assumption) ?_)) | (with_reducible exact Nat.le_refl _) | (simp; done) | omega | (simp at *; omega)))⟩
    case round =>
      obtain ⟨k, hk, rfl, hall, hb⟩ := hrel
      by_cases hlt : k < l.length
      · obtain ⟨b, o, rfl, hbl, hc⟩ := hr (by rw [flat_length]; omega)
        have hc0 : wr.cell? ⟨b, o + k * 2, none⟩ = some (.int .i64 l[k].1) := (hb.cell (p := ⟨b, _, none⟩) hbl).trans (hc _ _ (flat_at l k hlt).1)
        have hc1 : wr.cell? ⟨b, o + k * 2 + 1, none⟩ = some (.int .i64 l[k].2) := (hb.cell (p := ⟨b, _, none⟩) hbl).trans (hc _ _ (flat_at l k hlt).2)
        have HT := Lib.hid (all_take hlt hall)
        have HN := Lib.hid (all_not hlt)
        have hs := hb.size
        clear hr hc hall
        generalize l[k].1 = x at *
        generalize l[k].2 = y at *
        rcases Bool.eq_false_or_eq_true (good x y) with hg | hg
        · have HG := Lib.hid hg
          go_wp2_with fail
          refine (impl_IsCell _ _ _).mono ?_; rintro e w1 ⟨rfl, b1⟩
          rw [hg]
          clear hg hc0 hc1
          go_wp2
          go_roundw
          case rel => exact ⟨k + 1, by omega, by go_num, HT.out HG.out, by (repeat' (first | (with_reducible exact Below.refl _ _) | (with_reducible assumption) | (with_reducible refine Below.alloc ?_ ?_ _) | (with_reducible refine Below.setCell ?_ ?_ _) | (with_reducible refine Below.drew ?_) | (with_reducible refine below_drewN ?_ _) | (with_reducible refine Below.trans ?_ (Below.mono (by assumption) ?_)) | (with_reducible exact Nat.le_refl _) | (simp; done) | omega | (simp at *; omega)))⟩
          case measure => simp [intOf]; omega
        · have HG := Lib.hid hg
          go_wp2_with fail
          refine (impl_IsCell _ _ _).mono ?_; rintro e w1 ⟨rfl, b1⟩
          rw [hg]
          clear hg hc0 hc1
          go_wp2
          go_returns
          exact ⟨ret_bool (by unfold goodL; rw [HN.out HG.out, Bool.and_false]), by (repeat' (first | (with_reducible exact Below.refl _ _) | (with_reducible assumption) | (with_reducible refine Below.alloc ?_ ?_ _) | (with_reducible refine Below.setCell ?_ ?_ _) | (with_reducible refine Below.drew ?_) | (with_reducible refine below_drewN ?_ _) | (with_reducible refine Below.trans ?_ (Below.mono (by assumption) ?_)) | (with_reducible exact Nat.le_refl _) | (simp; done) | omega | (simp at *; omega)))⟩
      · obtain rfl : k = l.length := by omega
        rw [List.take_length] at hall
        have HQ := Lib.hid hall
        clear hall
        go_wp2
        go_returns
        exact ⟨ret_bool (by unfold goodL; rw [HQ.out, Bool.and_true]; (first | rfl | (refine Bool.eq_iff_iff.2 ?_; simp only [Bool.and_eq_true, Bool.or_eq_true, Bool.not_eq_true', decide_eq_true_eq, decide_eq_false_iff_not, beq_iff_eq, bne_iff_ne, ne_eq, true_iff, iff_true, false_iff, iff_false, Bool.false_eq_true, Bool.true_eq_false] <;> omega) | (simp; omega))), hb⟩
  · have hlb : (90 : Int) < (l.length : Int) := by omega
    go_enter Tryz.func65, Tryz.ntmps65
    go_wp2
    go_returns
    exact ⟨ret_bool (by unfold goodL; simp [h90]), by (repeat' (first | (with_reducible exact Below.refl _ _) | (with_reducible assumption) | (with_reducible refine Below.alloc ?_ ?_ _) | (with_reducible refine Below.setCell ?_ ?_ _) | (with_reducible refine Below.drew ?_) | (with_reducible refine below_drewN ?_ _) | (with_reducible refine Below.trans ?_ (Below.mono (by assumption) ?_)) | (with_reducible exact Nat.le_refl _) | (simp; done) | omega | (simp at *; omega)))⟩
end Go.Proofs.YtlnekfbhpfhcpaaGreat
namespace Go.Proofs.YtlnekfbhpfhcpaaGreat
open Go.ChangeShapes Go.WideShapes Go.ChangeAt Go.RowKit Go.Joins Go.Deep
set_option linter.unusedSimpArgs false
set_option linter.unusedVariables false
set_option maxRecDepth 100000
set_option maxHeartbeats 400000
/-- A board by value. -/
def bv (R C : Int) (A : Option Addr) (n cap : Nat) : Value := .agg #[.int .i64 R, .int .i64 C, .slice A n cap]
theorem Whole.set_far {w : World} {g : Nat} {t : TypeId} {xs : List Value} (h : Whole w g t xs) (p : Addr) (u : Value) (hne : p.block ≠ g) : Whole (w.setCell p u) g t xs := (Below.heap_setCell w p u g (fun e => hne e.symm)).trans h
theorem only_alloc {w w' : World} {o : Obj} {A : Option Addr} (h : Only (w.alloc o) w' A) : Only w w' A := by
  have hs := h.size
  rw [World.size_alloc] at hs
  refine ⟨h.os.trans rfl, h.tape.trans rfl, h.output.trans rfl, by omega, fun i hi hne => (h.block i (by rw [World.size_alloc]; omega) hne).trans (Below.heap_alloc _ _ _ hi)⟩
def eqB (R C R' C' : Int) (l m : List (Int × Int)) : Bool := decide (R = R' ∧ C = C' ∧ l = m)
end Go.Proofs.YtlnekfbhpfhcpaaGreat
namespace Go.Proofs.YtlnekfbhpfhcpaaGreat
open Go.ChangeShapes Go.WideShapes Go.ChangeAt Go.RowKit Go.Joins Go.Deep
set_option linter.unusedSimpArgs false
set_option linter.unusedVariables false
set_option maxRecDepth 100000
set_option maxHeartbeats 400000
/-- Only the block of A has turned, if there is anything to turn, and what is new. -/
def Fx (w w' : World) (A : Option Addr) (n : Nat) : Prop := w.grownBy w' (if n = 0 then none else A.map (·.block))
theorem Whole.fx {w w' : World} {g : Nat} {t : TypeId} {xs : List Value} {A : Option Addr} {n : Nat} (h : Whole w g t xs) (ho : Fx w w' A n) (hne : 0 < n → ∀ a, A = some a → a.block ≠ g) : Whole w' g t xs := by
  refine (ho.block g h.lt ?_).trans h
  by_cases hn : n = 0
  · simp [hn]
  · rw [if_neg hn]
    cases hA : A with
    | none => simp
    | some a => simpa using (fun e => hne (by omega) a hA e.symm)
theorem Own.fx {w w' : World} {A A' : Option Addr} {t : TypeId} {xs : List Value} {n : Nat} (h : Own w A t xs) (ho : Fx w w' A' n) (hne : 0 < n → 0 < xs.length → ∀ a a', A = some a → A' = some a' → a.block ≠ a'.block) : Own w' A t xs := fun hx => by
  obtain ⟨g, rest, rfl, hw⟩ := h hx
  exact ⟨g, rest, rfl, hw.fx ho (fun hn a ha => (hne hn hx _ a rfl ha).symm)⟩
theorem Fx.below {w w' : World} {A : Option Addr} {n B : Nat} (h : Fx w w' A n) (hB : B ≤ w.heap.size) (hge : ∀ a, A = some a → B ≤ a.block) : Below B w w' :=
  (Below.refl B w).grown h hB (fun k hk => by
    by_cases hn : n = 0
    · rw [if_pos hn] at hk; cases hk
    · rw [if_neg hn] at hk
      cases hA : A with
      | none => rw [hA] at hk; cases hk
      | some a => rw [hA] at hk; cases hk; exact hge _ hA)
theorem only_fx {w w' : World} {A : Option Addr} {n : Nat} (h : Only w w' A) (hn : 0 < n) : Fx w w' A n := by
  unfold Fx
  rw [if_neg (by omega)]
  exact h
theorem own_apart {w : World} {g : Nat} {t t' : TypeId} {xs ys : List Value} {A : Option Addr} (h : Own w A t xs) (hw : Whole w g t' ys) (hne : t ≠ t') (hx : 0 < xs.length) {a : Addr} (ha : A = some a) : a.block ≠ g := by
  obtain ⟨k, rest, rfl, hk⟩ := h hx
  cases ha
  intro e
  subst e
  unfold Whole at hk hw
  rw [hk] at hw
  injection hw with hw
  injection hw with _ ht
  exact hne ht
theorem same_fx {w : World} {A : Option Addr} : Fx w w A 0 := by
  unfold Fx
  rw [if_pos rfl]
  exact World.grownBy.refl w _
theorem flat_pos {l : List (Int × Int)} (h : 0 < (flat l).length) : 0 < l.length := by rw [flat_length] at h; omega
theorem pos_flat {l : List (Int × Int)} (h : 0 < l.length) : 0 < (flat l).length := by rw [flat_length]; omega
theorem ints_pos {l : List Int} (h : 0 < (ints l).length) : 0 < l.length := by rw [ints_length] at h; exact h
theorem pos_ints {l : List Int} (h : 0 < l.length) : 0 < (ints l).length := by rw [ints_length]; exact h
theorem eqB_same (R C : Int) (l : List (Int × Int)) : eqB R C R C l l = true := decide_eq_true ⟨rfl, rfl, rfl⟩
/-- What a call hands back: a list of numbers of its own, and whether it succeeds. -/
def PostL (w : World) (l : List Int) (ok : Bool) (e : Ending) (w' : World) : Prop :=
  ∃ A' cap', e = .returned (.tuple #[.slice A' l.length cap', .bool ok]) ∧ Own w' A' 3 (ints l) ∧ New w A' ∧ Below w.heap.size w w'
theorem PostL.mk {w w' : World} {l : List Int} {ok : Bool} {A' : Option Addr} {cap' : Nat} (o : Own w' A' 3 (ints l)) (n : New w A') (b : Below w.heap.size w w') : PostL w l ok (.returned (.tuple #[.slice A' l.length cap', .bool ok])) w' :=
  ⟨A', cap', rfl, o, n, b⟩
/-- A list of numbers of the call's own. -/
def PostI (w : World) (l : List Int) (e : Ending) (w' : World) : Prop :=
  ∃ A' cap', e = .returned (.slice A' l.length cap') ∧ Own w' A' 3 (ints l) ∧ New w A' ∧ Below w.heap.size w w'
theorem PostI.mk {w w' : World} {l : List Int} {A' : Option Addr} {cap' : Nat} (o : Own w' A' 3 (ints l)) (n : New w A') (b : Below w.heap.size w w') : PostI w l (.returned (.slice A' l.length cap')) w' :=
  ⟨A', cap', rfl, o, n, b⟩
/-- A list of cells of the call's own. -/
def PostC (w : World) (l : List (Int × Int)) (e : Ending) (w' : World) : Prop :=
  ∃ A' cap', e = .returned (.slice A' l.length cap') ∧ Own w' A' 86 (flat l) ∧ New w A' ∧ Below w.heap.size w w'
theorem PostC.mk {w w' : World} {l : List (Int × Int)} {A' : Option Addr} {cap' : Nat} (o : Own w' A' 86 (flat l)) (n : New w A') (b : Below w.heap.size w w') : PostC w l (.returned (.slice A' l.length cap')) w' :=
  ⟨A', cap', rfl, o, n, b⟩
/-- A board whose cells are the call's own, and whether it succeeds. -/
def PostB (w : World) (R C : Int) (l : List (Int × Int)) (ok : Bool) (e : Ending) (w' : World) : Prop :=
  ∃ A' cap', e = .returned (.tuple #[.agg #[.int .i64 R, .int .i64 C, .slice A' l.length cap'], .bool ok]) ∧ Own w' A' 86 (flat l) ∧ New w A' ∧ Below w.heap.size w w'
theorem PostB.mk {w w' : World} {R C : Int} {l : List (Int × Int)} {ok : Bool} {A' : Option Addr} {cap' : Nat} (o : Own w' A' 86 (flat l)) (n : New w A') (b : Below w.heap.size w w') : PostB w R C l ok (.returned (.tuple #[.agg #[.int .i64 R, .int .i64 C, .slice A' l.length cap'], .bool ok])) w' :=
  ⟨A', cap', rfl, o, n, b⟩
theorem PostB.none_ {w w' : World} (b : Below w.heap.size w w') : PostB w 0 0 [] false (.returned (.tuple #[.agg #[.int .i64 0, .int .i64 0, .slice none 0 0], .bool false])) w' :=
  PostB.mk (l := []) Own.none_ New.none_ b
theorem PostL.none_ {w w' : World} (b : Below w.heap.size w w') : PostL w [] false (.returned (.tuple #[.slice none 0 0, .bool false])) w' :=
  PostL.mk (l := []) Own.none_ New.none_ b
/-- A board whose cells are the call's own. -/
def PostD (w : World) (R C : Int) (l : List (Int × Int)) (e : Ending) (w' : World) : Prop :=
  ∃ A' cap', e = .returned (.agg #[.int .i64 R, .int .i64 C, .slice A' l.length cap']) ∧ Own w' A' 86 (flat l) ∧ New w A' ∧ Below w.heap.size w w'
theorem PostD.mk {w w' : World} {R C : Int} {l : List (Int × Int)} {A' : Option Addr} {cap' : Nat} (o : Own w' A' 86 (flat l)) (n : New w A') (b : Below w.heap.size w w') : PostD w R C l (.returned (.agg #[.int .i64 R, .int .i64 C, .slice A' l.length cap'])) w' :=
  ⟨A', cap', rfl, o, n, b⟩
theorem fx_alloc {w w' : World} {o : Obj} {A : Option Addr} {n : Nat} (h : Fx (w.alloc o) w' A n) : Fx w w' A n := by
  have hs := h.size
  rw [World.size_alloc] at hs
  refine ⟨h.os.trans rfl, h.tape.trans rfl, h.output.trans rfl, by omega, fun i hi hne => (h.block i (by rw [World.size_alloc]; omega) hne).trans (Below.heap_alloc _ _ _ hi)⟩
end Go.Proofs.YtlnekfbhpfhcpaaGreat
namespace Go.Proofs.YtlnekfbhpfhcpaaGreat
open Go.ChangeShapes Go.WideShapes Go.ChangeAt Go.RowKit Go.Joins Go.Deep
set_option linter.unusedSimpArgs false
set_option linter.unusedVariables false
set_option maxRecDepth 100000
theorem Own.set_far2 {w : World} {A : Option Addr} {t : TypeId} {xs : List Value} (h : Own w A t xs) (p : Addr) (u : Value) (hne : 0 < xs.length → ∀ a, A = some a → p.block ≠ a.block) : Own (w.setCell p u) A t xs := fun hx => by
  obtain ⟨g, rest, rfl, hw⟩ := h hx
  exact ⟨g, rest, rfl, hw.set_far p u (hne hx _ rfl)⟩
theorem whole_three {w : World} {g : Nat} {t : TypeId} {x y z a b c : Value} (h : Whole w g t [x, y, z]) : Whole (((w.setCell ⟨g, 0, none⟩ a).setCell ⟨g, 1, none⟩ b).setCell ⟨g, 2, none⟩ c) g t [a, b, c] := ((h.set 0 a).set 1 b).set 2 c
end Go.Proofs.YtlnekfbhpfhcpaaGreat
namespace Go.Proofs.YtlnekfbhpfhcpaaGreat
open Go.ChangeShapes Go.WideShapes Go.ChangeAt Go.RowKit Go.Joins Go.Deep
set_option linter.unusedSimpArgs false
set_option linter.unusedVariables false
set_option maxRecDepth 100000
set_option maxHeartbeats 400000
def goN (k s d : Int) : Int := if k = 1 then -1 else if k = 2 then 1 else if k = 3 ∨ k = 6 then 2 * s - 1 else if k = 4 then -d else 0
def goB (k s d : Int) : Bool := good k s && decide (-1 ≤ d ∧ d ≤ 1 ∧ k ≠ 5)
theorem spec_paGoes (a b d : Int) (h : good a b = true) (h1 : -1 ≤ d) (h2 : d ≤ 1) (w : World) :
    Calls Tryz.prog 72 #[.agg #[.int .i64 a, .int .i64 b], .int .i64 d] w fun e w' => e = .returned (.int .i64 (goN a b d)) ∧ Below w.heap.size w w' := by
  have h3 : 0 ≤ b := by unfold good at h; simp at h; omega
  have h4 : b ≤ 1 := by unfold good at h; simp at h; omega
  clear h
  go_enter Tryz.func72, Tryz.ntmps72
  go_wp2
  all_goals go_returns
  all_goals refine ⟨ret_int (by unfold goN; (simp only [beq_iff_eq, beq_eq_false_iff_ne, ne_eq] at *; (repeat' split) <;> first | rfl | omega)), by (repeat' (first | (with_reducible exact Below.refl _ _) | (with_reducible assumption) | (with_reducible refine Below.alloc ?_ ?_ _) | (with_reducible refine Below.setCell ?_ ?_ _) | (with_reducible refine Below.drew ?_) | (with_reducible refine below_drewN ?_ _) | (with_reducible refine Below.trans ?_ (Below.mono (by assumption) ?_)) | (with_reducible exact Nat.le_refl _) | (simp; done) | omega | (simp at *; omega)))⟩
theorem ret_intb {a c : Int} {x y : Bool} (h : x = y) (h1 : y = true → a = c) (h3 : y = false → a = 0) :
    Ending.returned (.tuple #[.int .i64 a, .bool x]) = .returned (.tuple #[.int .i64 (selI y c), .bool y]) := by
  subst h
  cases x
  · rw [h3 rfl]; rfl
  · rw [h1 rfl]; rfl
theorem impl_GoesTo (a b d : Int) (w : World) :
    Calls Tryz.prog 58 #[.agg #[.int .i64 a, .int .i64 b], .int .i64 d] w fun e w' => e = .returned (.tuple #[.int .i64 (selI (goB a b d) (goN a b d)), .bool (goB a b d)]) ∧ Below w.heap.size w w' := by
  go_enter Tryz.func58, Tryz.ntmps58
  go_wp2_with (first | (go_at_call 77; refine (impl_IsCell _ _ _).mono ?_; rintro e w1 ⟨rfl, bw1⟩; obtain ⟨cw1, fw1⟩ := bcell bw1; have zw10 : w.heap.size < w1.heap.size := (by have := bw1.size; first | omega | (simp at this; omega))) | (go_at_call 78; go_in) | (go_at_call 97; go_in) | (go_at_call 98; go_in) | (go_at_call 99; go_in) | (go_at_call 100; go_in))
  all_goals go_returns
  all_goals (have hg := (show good a b = true → (b = 0 ∨ b = 1) from (by unfold good; simp; omega)))
  all_goals refine ⟨by (refine ret_intb ?_ ?_ ?_ <;> first | rfl | (intros; rfl) | (unfold goB; simp_all; done) | (unfold goB; simp_all; omega) | (intro _; unfold goN; simp_all; done) | (intro _; unfold goN; simp_all; omega)), by (repeat' (first | (with_reducible exact Below.refl _ _) | (with_reducible assumption) | (with_reducible refine Below.alloc ?_ ?_ _) | (with_reducible refine Below.setCell ?_ ?_ _) | (with_reducible refine Below.drew ?_) | (with_reducible refine below_drewN ?_ _) | (with_reducible refine Below.trans ?_ (Below.mono (by assumption) ?_)) | (with_reducible exact Nat.le_refl _) | (simp; done) | omega | (simp at *; omega)))⟩
end Go.Proofs.YtlnekfbhpfhcpaaGreat
namespace Go.Proofs.YtlnekfbhpfhcpaaGreat
open Go.ChangeShapes Go.WideShapes Go.ChangeAt Go.RowKit Go.Joins Go.Deep
set_option linter.unusedSimpArgs false
set_option linter.unusedVariables false
set_option maxRecDepth 100000
theorem own_of_row {w : World} {base : Nat} {e : TypeId} {size n cap : Nat} {A : Option Addr} {xs : List Value} (h : w.ownsRow base e size (.slice A n cap) n xs) : Own w A e xs ∧ ∀ a, A = some a → base ≤ a.block := by
  rcases h.2 with ⟨h1, h2⟩ | ⟨g, cap', cur, h1, h2, h3, h4, h5, h6, h7⟩
  · cases h1
    exact ⟨fun hx => by have := h.1; omega, fun a ha => by cases ha⟩
  · cases h1
    refine ⟨fun _ => ⟨g, cur.toList.drop (n * size), rfl, ?_⟩, fun a ha => by cases ha; exact h2⟩
    unfold Whole
    rw [h3, ← h7, List.take_append_drop]
theorem flat_append (l m : List (Int × Int)) : flat (l ++ m) = flat l ++ flat m := by simp [flat]
theorem two_cells {w : World} {x y : Value} {t : TypeId} : ∀ j u, [x, y][j]? = some u → (w.alloc (.cells #[x, y] t)).cell? ((⟨w.heap.size, 0, none⟩ : Addr).add j) = some u := by
  intro j u h
  rw [add_plain, Nat.zero_add]
  have hw : (w.alloc (.cells #[x, y] t)).heap[w.heap.size]? = some (.cells #[x, y] t (0, 0)) := heap_alloc_new w _
  rw [cell_of_row _ _ _ _ _ _ hw]
  simpa using h
theorem two_one {a b : Int} : ∀ u ∈ [Value.int .i64 a, Value.int .i64 b], u.oneCell' = true := by
  intro u hu
  simp only [List.mem_cons, List.not_mem_nil, or_false] at hu
  rcases hu with rfl | rfl <;> rfl
theorem row_keep {w w' : World} {base : Nat} {e : TypeId} {size n : Nat} {v : Value} {xs : List Value} (h : w.ownsRow base e size v n xs) (hb : Below w.heap.size w w') : w'.ownsRow base e size v n xs :=
  h.kept (row := none) ⟨hb.os, hb.tape, hb.output, hb.size, fun i hi _ => hb.block i hi⟩ (by cases hv : v.ownBlock <;> simp)
theorem row_below {a w w' : World} {B : Nat} {e : TypeId} {size n : Nat} {v : Value} {xs : List Value} (h : w.ownsRow B e size v n xs) (hb : Below B a w) (hB : B ≤ w.heap.size) (hg : w.grownBy w' v.ownBlock) : Below B a w' :=
  hb.grown hg hB (fun k hk => (h.lt k hk).1)
theorem one_cellI {w : World} {x : Value} {t : TypeId} : ∀ j u, [x][j]? = some u → (w.alloc (.cells #[x] t)).cell? ((⟨w.heap.size, 0, none⟩ : Addr).add j) = some u := by
  intro j u h
  rw [add_plain, Nat.zero_add]
  have hw : (w.alloc (.cells #[x] t)).heap[w.heap.size]? = some (.cells #[x] t (0, 0)) := heap_alloc_new w _
  rw [cell_of_row _ _ _ _ _ _ hw]
  simpa using h
theorem one_oneI {k : IntKind} {a : Int} : ∀ u ∈ [Value.int k a], u.oneCell' = true := by
  intro u hu
  simp only [List.mem_cons, List.not_mem_nil, or_false] at hu
  rw [hu]; rfl
theorem flat_one (l : List (Int × Int)) : ∀ u ∈ flat l, u.oneCell' = true := by
  intro u hu
  unfold flat at hu
  rw [List.mem_flatMap] at hu
  obtain ⟨c, _, hc⟩ := hu
  simp only [List.mem_cons, List.not_mem_nil, or_false] at hc
  rcases hc with rfl | rfl <;> rfl
/-- An append of a slice that reads as these words, nil let in. -/
theorem wpList_append_rd {P : Program} {w : World} {ops : Array Oper} {rest : List Oper} {o : Oper} {a : Act} {Q : Exit → Act → World → Prop} (hgd : o.guard = none) (s x : Operand) (t : TypeId)
    (ho : o.op = .call { callee := .builtin .append, args := #[s, x], argTypes := #[t, t] })
    (base : Nat) (e : TypeId) (i : TypeInfo) (z : Value) (size bytes : Nat) (ht : P.underlying t = some (.slice e)) (hi : P.info? e = some i) (hz : i.zero = some z)
    (hsize : i.size = size) (hby : i.bytes = bytes) (hzs : z.cells.size = size) (hsz : 0 < size)
    (v : Value) (n : Nat) (xs : List Value) (hs : a.eval s = v) (hown : w.ownsRow base e size v n xs)
    (A : Option Addr) (m c B : Nat) (news : List Value) (hx : a.eval x = .slice A m c) (hl : news.length = m * size) (hc0 : A = none → c = 0) (hr : Rd w B A news) (h1 : ∀ u ∈ news, u.oneCell' = true)
    (h63 : n + m ≤ maxLen) (hbytes : (n + m) * bytes ≤ 140737488355328) (hbase : base ≤ w.heap.size)
    (h : ∀ v' w', w'.ownsRow base e size v' (n + m) (xs ++ news) → w.grownBy w' v.ownBlock → wpList P ops Q rest (a.put o.dst v') w') : wpList P ops Q (o :: rest) a w := by
  cases A with
  | none =>
    have hm : news = [] := by
      rcases Nat.eq_zero_or_pos news.length with h0 | h0
      · exact List.eq_nil_of_length_eq_zero h0
      · obtain ⟨b, q, e, _⟩ := hr h0
        cases e
    subst hm
    have hm0 : m = 0 := by
      rcases Nat.eq_zero_or_pos m with h0 | h0
      · exact h0
      · have := Nat.mul_pos h0 hsz
        simp at hl
        omega
    subst hm0
    rw [hc0 rfl] at hx
    refine wpList_append_own_none hgd s x t ho base e i size ht hi v n xs hs hown hx (h v w ?_ (World.grownBy.refl w _))
    rw [List.append_nil]
    exact hown
  | some ad =>
    refine wpList_append_own (w := w) hgd s x t ho base e i z size bytes ht hi hz hsize hby hzs hsz v n xs hs hown ad m c news hx hl ?_ h1 h63 hbytes hbase (fun v' w' a b _ => h v' w' a b)
    intro j u hj
    obtain ⟨b, q, e, _, hc⟩ := hr (by have := (List.getElem?_eq_some_iff.1 hj).1; omega)
    cases e
    rw [add_plain]
    exact hc j u hj
end Go.Proofs.YtlnekfbhpfhcpaaGreat
namespace Go.Proofs.YtlnekfbhpfhcpaaGreat
open Go.ChangeShapes Go.WideShapes Go.ChangeAt Go.RowKit Go.Joins Go.Deep
set_option linter.unusedSimpArgs false
set_option linter.unusedVariables false
set_option maxRecDepth 100000
set_option maxHeartbeats 400000
def sizeB (R C : Int) : Bool := decide (1 ≤ R ∧ R ≤ 10 ∧ 1 ≤ C ∧ C ≤ 9)
def goodB (R C : Int) (l : List (Int × Int)) : Bool := sizeB R C && decide ((l.length : Int) = R * C) && l.all fun c => good c.1 c.2
theorem sizeB_iff {R C : Int} : sizeB R C = true ↔ 1 ≤ R ∧ R ≤ 10 ∧ 1 ≤ C ∧ C ≤ 9 := by unfold sizeB; simp
theorem mul_bound {R C : Int} (h : sizeB R C = true) : 1 ≤ R * C ∧ R * C ≤ 90 := by
  rw [sizeB_iff] at h
  obtain ⟨a, b, c, d⟩ := h
  have h1 : 1 * 1 ≤ R * C := Int.mul_le_mul a c (by omega) (by omega)
  have h2 : R * C ≤ 10 * 9 := Int.mul_le_mul b d (by omega) (by omega)
  omega
theorem impl_isBoardSize (R C : Int) (w : World) :
    Calls Tryz.prog 64 #[.int .i64 R, .int .i64 C] w fun e w' => e = .returned (.bool (sizeB R C)) ∧ w = w' := by
  go_enter Tryz.func64, Tryz.ntmps64
  go_wp2
  all_goals go_returns
  all_goals refine ⟨ret_bool (by unfold sizeB; first | (first | rfl | (refine Bool.eq_iff_iff.2 ?_; simp only [Bool.and_eq_true, Bool.or_eq_true, Bool.not_eq_true', decide_eq_true_eq, decide_eq_false_iff_not, beq_iff_eq, bne_iff_ne, ne_eq, true_iff, iff_true, false_iff, iff_false, Bool.false_eq_true, Bool.true_eq_false] <;> omega) | (simp; omega)) | (refine Bool.eq_iff_iff.2 ?_; simp only [Bool.and_eq_true, Bool.or_eq_true, Bool.not_eq_true', decide_eq_true_eq, decide_eq_false_iff_not, beq_iff_eq, bne_iff_ne, ne_eq, true_iff, iff_true, false_iff, iff_false, Bool.false_eq_true, Bool.true_eq_false, beq_eq_false_iff_ne, bne_eq_false_iff_eq, Bool.not_eq_false, Bool.not_eq_true, Bool.not_eq_eq_eq_not, Bool.not_true, Bool.not_false, Bool.and_eq_false_imp, Bool.or_eq_false_iff] at * <;> omega)), rfl⟩
theorem wrapRC {R C : Int} (h : sizeB R C = true) : IntKind.i64.wrap (R * C) = R * C := by
  have := mul_bound h
  exact IntWalk.i64_in (R * C) (by omega)
theorem goodB_eq {R C : Int} {l : List (Int × Int)} (hs : sizeB R C = true) (hl : (l.length : Int) = R * C) : goodB R C l = goodL l := by
  have := mul_bound hs
  unfold goodB goodL
  rw [hs, decide_eq_true hl, decide_eq_true (by omega : l.length ≤ 90)]
  rfl
theorem goodB_all {R C : Int} {l : List (Int × Int)} (hs : sizeB R C = true) (hl : (l.length : Int) = R * C) : goodB R C l = l.all fun c => good c.1 c.2 := by
  unfold goodB
  rw [hs, decide_eq_true hl]
  rfl
theorem goodB_size {R C : Int} {l : List (Int × Int)} (hs : sizeB R C = false) : goodB R C l = false := by unfold goodB; rw [hs]; rfl
theorem goodB_len {R C : Int} {l : List (Int × Int)} (hl : ¬ (l.length : Int) = R * C) : goodB R C l = false := by
  unfold goodB
  rw [decide_eq_false hl, Bool.and_false]
  rfl
theorem impl_IsBoard (R C : Int) (A : Option Addr) (cap : Nat) (l : List (Int × Int)) (w : World) (hn : l.length ≤ 1048576) (hr : Rd w w.heap.size A (flat l)) :
    Calls Tryz.prog 41 #[.agg #[.int .i64 R, .int .i64 C, .slice A l.length cap]] w fun e w' => e = .returned (.bool (goodB R C l)) ∧ Below w.heap.size w w' := by
  rcases Bool.eq_false_or_eq_true (sizeB R C) with hs | hs
  · have hm := wrapRC hs
    by_cases hl : (l.length : Int) = R * C
    · have hlb : ((l.length : Int) == R * C) = true := by simpa using hl
      rw [goodB_eq hs hl]
      clear hl
      go_enter Tryz.func41, Tryz.ntmps41
      go_wp2_with fail
      refine (impl_isBoardSize _ _ _).mono ?_; rintro e w1 ⟨rfl, rfl⟩
      rw [hs]
      clear hs
      go_wp2_with fail
      refine (impl_areCells _ _ l _ hn ((hr.below (by (repeat' (first | (with_reducible exact Below.refl _ _) | (with_reducible assumption) | (with_reducible refine Below.alloc ?_ ?_ _) | (with_reducible refine Below.setCell ?_ ?_ _) | (with_reducible refine Below.drew ?_) | (with_reducible refine below_drewN ?_ _) | (with_reducible refine Below.trans ?_ (Below.mono (by assumption) ?_)) | (with_reducible exact Nat.le_refl _) | (simp; done) | omega | (simp at *; omega))) : Below w.heap.size w _)).mono (by go_size))).mono ?_; rintro e w1 ⟨rfl, b1⟩
      go_wp2
      go_returns
      exact ⟨rfl, by (repeat' (first | (with_reducible exact Below.refl _ _) | (with_reducible assumption) | (with_reducible refine Below.alloc ?_ ?_ _) | (with_reducible refine Below.setCell ?_ ?_ _) | (with_reducible refine Below.drew ?_) | (with_reducible refine below_drewN ?_ _) | (with_reducible refine Below.trans ?_ (Below.mono (by assumption) ?_)) | (with_reducible exact Nat.le_refl _) | (simp; done) | omega | (simp at *; omega)))⟩
    · have hlb : ((l.length : Int) == R * C) = false := by simpa using hl
      rw [goodB_len hl]
      clear hl
      go_enter Tryz.func41, Tryz.ntmps41
      go_wp2_with fail
      refine (impl_isBoardSize _ _ _).mono ?_; rintro e w1 ⟨rfl, rfl⟩
      rw [hs]
      clear hs
      go_wp2
      go_returns
      exact ⟨rfl, by (repeat' (first | (with_reducible exact Below.refl _ _) | (with_reducible assumption) | (with_reducible refine Below.alloc ?_ ?_ _) | (with_reducible refine Below.setCell ?_ ?_ _) | (with_reducible refine Below.drew ?_) | (with_reducible refine below_drewN ?_ _) | (with_reducible refine Below.trans ?_ (Below.mono (by assumption) ?_)) | (with_reducible exact Nat.le_refl _) | (simp; done) | omega | (simp at *; omega)))⟩
  · rw [goodB_size hs]
    go_enter Tryz.func41, Tryz.ntmps41
    go_wp2_with fail
    refine (impl_isBoardSize _ _ _).mono ?_; rintro e w1 ⟨rfl, rfl⟩
    rw [hs]
    clear hs
    go_wp2
    go_returns
    exact ⟨rfl, by (repeat' (first | (with_reducible exact Below.refl _ _) | (with_reducible assumption) | (with_reducible refine Below.alloc ?_ ?_ _) | (with_reducible refine Below.setCell ?_ ?_ _) | (with_reducible refine Below.drew ?_) | (with_reducible refine below_drewN ?_ _) | (with_reducible refine Below.trans ?_ (Below.mono (by assumption) ?_)) | (with_reducible exact Nat.le_refl _) | (simp; done) | omega | (simp at *; omega)))⟩
theorem spec_boGood (R C : Int) (A : Option Addr) (cap : Nat) (l : List (Int × Int)) (w : World) (hn : l.length ≤ 1048576) (hr : Rd w w.heap.size A (flat l)) :
    Calls Tryz.prog 45 #[.agg #[.int .i64 R, .int .i64 C, .slice A l.length cap]] w fun e w' => e = .returned (.bool (goodB R C l)) ∧ Below w.heap.size w w' := by
  rcases Bool.eq_false_or_eq_true (sizeB R C) with hs | hs
  · have hm := wrapRC hs
    obtain ⟨g1, g2, g3, g4⟩ := sizeB_iff.1 hs
    have l1 : (decide (1 ≤ R) && decide (R ≤ 10)) = true := by simp; omega
    have l2 : (decide (1 ≤ C) && decide (C ≤ 9)) = true := by simp; omega
    have L1 := Lib.hid l1
    have L2 := Lib.hid l2
    clear l1 l2
    by_cases hl : (l.length : Int) = R * C
    · have hlb : ((l.length : Int) != R * C) = false := by simpa using hl
      rw [goodB_all hs hl]
      clear hl hs
      go_enter Tryz.func45, Tryz.ntmps45
      go_wp2_with fail
      refine (spec_l1In _ _ _ _).mono ?_; rintro e w1 ⟨rfl, rfl⟩
      rw [L1.out]
      go_wp2_with fail
      refine (spec_l1In _ _ _ _).mono ?_; rintro e w1 ⟨rfl, rfl⟩
      rw [L2.out]
      go_wp2
      go_loopw [29] (fun i wr => ∃ k : Nat, k ≤ l.length ∧ i = .int .i64 k ∧ ((l.take k).all fun c => good c.1 c.2) = true ∧ Below w.heap.size w wr) (fun i _ => l.length - (intOf i).toNat)
      case atStart => exact ⟨0, Nat.zero_le _, rfl, rfl, by (repeat' (first | (with_reducible exact Below.refl _ _) | (with_reducible assumption) | (with_reducible refine Below.alloc ?_ ?_ _) | (with_reducible refine Below.setCell ?_ ?_ _) | (with_reducible refine Below.drew ?_) | (with_reducible refine below_drewN ?_ _) | (with_reducible refine Below.trans ?_ (Below.mono (by assumption) ?_)) | (with_reducible exact Nat.le_refl _) | (simp; done) | omega | (simp at *; omega)))⟩
      case round =>
        obtain ⟨k, hk, rfl, hall, hb⟩ := hrel
        by_cases hlt : k < l.length
        · obtain ⟨b, o, rfl, hbl, hc⟩ := hr (by rw [flat_length]; omega)
          have hc0 : wr.cell? ⟨b, o + k * 2, none⟩ = some (.int .i64 l[k].1) := (hb.cell (p := ⟨b, _, none⟩) hbl).trans (hc _ _ (flat_at l k hlt).1)
          have hc1 : wr.cell? ⟨b, o + k * 2 + 1, none⟩ = some (.int .i64 l[k].2) := (hb.cell (p := ⟨b, _, none⟩) hbl).trans (hc _ _ (flat_at l k hlt).2)
          have HT := Lib.hid (all_take hlt hall)
          have HN := Lib.hid (all_not hlt)
          have hs := hb.size
          clear hr hc hall
          generalize l[k].1 = x at *
          generalize l[k].2 = y at *
          rcases Bool.eq_false_or_eq_true (good x y) with hg | hg
          · have HG := Lib.hid hg
            go_wp2_with fail
            refine (spec_paGood _ _ _).mono ?_; rintro e w1 ⟨rfl, b1⟩
            rw [hg]
            clear hg hc0 hc1
            go_wp2
            go_roundw
            case rel => exact ⟨k + 1, by omega, by go_num, HT.out HG.out, by (repeat' (first | (with_reducible exact Below.refl _ _) | (with_reducible assumption) | (with_reducible refine Below.alloc ?_ ?_ _) | (with_reducible refine Below.setCell ?_ ?_ _) | (with_reducible refine Below.drew ?_) | (with_reducible refine below_drewN ?_ _) | (with_reducible refine Below.trans ?_ (Below.mono (by assumption) ?_)) | (with_reducible exact Nat.le_refl _) | (simp; done) | omega | (simp at *; omega)))⟩
            case measure => simp [intOf]; omega
          · have HG := Lib.hid hg
            go_wp2_with fail
            refine (spec_paGood _ _ _).mono ?_; rintro e w1 ⟨rfl, b1⟩
            rw [hg]
            clear hg hc0 hc1
            go_wp2
            go_returns
            exact ⟨ret_bool (by rw [HN.out HG.out]), by (repeat' (first | (with_reducible exact Below.refl _ _) | (with_reducible assumption) | (with_reducible refine Below.alloc ?_ ?_ _) | (with_reducible refine Below.setCell ?_ ?_ _) | (with_reducible refine Below.drew ?_) | (with_reducible refine below_drewN ?_ _) | (with_reducible refine Below.trans ?_ (Below.mono (by assumption) ?_)) | (with_reducible exact Nat.le_refl _) | (simp; done) | omega | (simp at *; omega)))⟩
        · obtain rfl : k = l.length := by omega
          rw [List.take_length] at hall
          have HQ := Lib.hid hall
          clear hall
          go_wp2
          go_returns
          exact ⟨ret_bool HQ.out.symm, hb⟩
    · have hlb : ((l.length : Int) != R * C) = true := by simpa using hl
      rw [goodB_len hl]
      clear hl hs
      go_enter Tryz.func45, Tryz.ntmps45
      go_wp2_with fail
      refine (spec_l1In _ _ _ _).mono ?_; rintro e w1 ⟨rfl, rfl⟩
      rw [L1.out]
      go_wp2_with fail
      refine (spec_l1In _ _ _ _).mono ?_; rintro e w1 ⟨rfl, rfl⟩
      rw [L2.out]
      go_wp2
      go_returns
      exact ⟨rfl, by (repeat' (first | (with_reducible exact Below.refl _ _) | (with_reducible assumption) | (with_reducible refine Below.alloc ?_ ?_ _) | (with_reducible refine Below.setCell ?_ ?_ _) | (with_reducible refine Below.drew ?_) | (with_reducible refine below_drewN ?_ _) | (with_reducible refine Below.trans ?_ (Below.mono (by assumption) ?_)) | (with_reducible exact Nat.le_refl _) | (simp; done) | omega | (simp at *; omega)))⟩
  · rw [goodB_size hs]
    rcases Bool.eq_false_or_eq_true (decide (1 ≤ R) && decide (R ≤ 10)) with l1 | l1
    · have l2 : (decide (1 ≤ C) && decide (C ≤ 9)) = false := by
        unfold sizeB at hs
        simp at hs l1 ⊢
        omega
      have L1 := Lib.hid l1
      have L2 := Lib.hid l2
      clear l1 l2 hs
      go_enter Tryz.func45, Tryz.ntmps45
      go_wp2_with fail
      refine (spec_l1In _ _ _ _).mono ?_; rintro e w1 ⟨rfl, rfl⟩
      rw [L1.out]
      go_wp2_with fail
      refine (spec_l1In _ _ _ _).mono ?_; rintro e w1 ⟨rfl, rfl⟩
      rw [L2.out]
      go_wp2
      go_returns
      exact ⟨rfl, by (repeat' (first | (with_reducible exact Below.refl _ _) | (with_reducible assumption) | (with_reducible refine Below.alloc ?_ ?_ _) | (with_reducible refine Below.setCell ?_ ?_ _) | (with_reducible refine Below.drew ?_) | (with_reducible refine below_drewN ?_ _) | (with_reducible refine Below.trans ?_ (Below.mono (by assumption) ?_)) | (with_reducible exact Nat.le_refl _) | (simp; done) | omega | (simp at *; omega)))⟩
    · have L1 := Lib.hid l1
      clear l1 hs
      go_enter Tryz.func45, Tryz.ntmps45
      go_wp2_with fail
      refine (spec_l1In _ _ _ _).mono ?_; rintro e w1 ⟨rfl, rfl⟩
      rw [L1.out]
      go_wp2
      go_returns
      exact ⟨rfl, by (repeat' (first | (with_reducible exact Below.refl _ _) | (with_reducible assumption) | (with_reducible refine Below.alloc ?_ ?_ _) | (with_reducible refine Below.setCell ?_ ?_ _) | (with_reducible refine Below.drew ?_) | (with_reducible refine below_drewN ?_ _) | (with_reducible refine Below.trans ?_ (Below.mono (by assumption) ?_)) | (with_reducible exact Nat.le_refl _) | (simp; done) | omega | (simp at *; omega)))⟩
end Go.Proofs.YtlnekfbhpfhcpaaGreat
namespace Go.Proofs.YtlnekfbhpfhcpaaGreat
open Go.ChangeShapes Go.WideShapes Go.ChangeAt Go.RowKit Go.Joins Go.Deep
set_option linter.unusedSimpArgs false
set_option linter.unusedVariables false
set_option maxRecDepth 100000
theorem cell_at2 {w w' : World} {b o : Nat} {l : List (Int × Int)} (hb : Below w.heap.size w w') (hbl : b < w.heap.size) (hc : ∀ j u, (flat l)[j]? = some u → w.cell? ⟨b, o + j, none⟩ = some u) {k : Nat} (h : k < l.length) :
    w'.cell? ⟨b, o + k * 2, none⟩ = some (.int .i64 l[k].1) ∧ w'.cell? ⟨b, o + k * 2 + 1, none⟩ = some (.int .i64 l[k].2) :=
  ⟨(hb.cell (p := ⟨b, _, none⟩) hbl).trans (hc _ _ (flat_at l k h).1), (hb.cell (p := ⟨b, _, none⟩) hbl).trans (hc _ _ (flat_at l k h).2)⟩
theorem row_keep2 {w v w' : World} {base : Nat} {e : TypeId} {size n : Nat} {u : Value} {xs : List Value} (h : w.ownsRow base e size u n xs) (ha : Below w.heap.size w v) (hb : Below v.heap.size v w') : w'.ownsRow base e size u n xs := row_keep (row_keep h ha) hb
theorem slice_of_row {w : World} {base : Nat} {e : TypeId} {size n : Nat} {v : Value} {xs : List Value} (h : w.ownsRow base e size v n xs) : ∃ A cap, v = .slice A n cap := by
  rcases h.2 with ⟨rfl, h0⟩ | ⟨g, cap, _, rfl, _⟩
  · exact ⟨none, 0, by rw [h0]⟩
  · exact ⟨_, _, rfl⟩
theorem good_turn {l : List (Int × Int)} (h : goodL l = true) {k : Nat} (hk : k < l.length) : good l[k].1 l[k].2 = true := by
  unfold goodL at h
  rw [Bool.and_eq_true, List.all_eq_true] at h
  exact h.2 _ (List.getElem_mem hk)
theorem goodB_parts {R C : Int} {l : List (Int × Int)} (h : goodB R C l = true) : goodL l = true ∧ l.length ≤ 90 ∧ 0 < l.length := by
  unfold goodB at h
  simp only [Bool.and_eq_true, decide_eq_true_eq] at h
  have hm := mul_bound h.1.1
  have hl := h.1.2
  refine ⟨?_, by omega, by omega⟩
  unfold goodL
  rw [decide_eq_true (by omega : l.length ≤ 90), Bool.true_and]
  exact h.2
theorem goodB_iff {R C : Int} {l : List (Int × Int)} : goodB R C l = true ↔ sizeB R C = true ∧ (l.length : Int) = R * C ∧ ∀ c ∈ l, good c.1 c.2 = true := by
  unfold goodB
  rw [Bool.and_eq_true, Bool.and_eq_true, decide_eq_true_eq, List.all_eq_true, and_assoc]
/-- A row of one type and a block of another are apart. -/
theorem row_apart {w : World} {base : Nat} {e t : TypeId} {size n g : Nat} {v : Value} {xs ys : List Value} (h : w.ownsRow base e size v n xs) (hw : Whole w g t ys) (hne : e ≠ t) : some g ≠ v.ownBlock := by
  rcases h.2 with ⟨rfl, _⟩ | ⟨k, cap, cur, rfl, _, hh, _⟩
  · intro h; cases h
  · intro h
    obtain rfl : g = k := by simpa [Value.ownBlock] using h
    unfold Whole at hw
    rw [hw] at hh
    cases hh
    exact hne rfl
theorem Whole.grown {w w' : World} {g : Nat} {t : TypeId} {xs : List Value} {row : Option Nat} (h : Whole w g t xs) (hg : w.grownBy w' row) (hne : some g ≠ row) : Whole w' g t xs := (hg.block g h.lt hne).trans h
theorem two_boxes (w : World) (a : List Value) (ta : TypeId) (b : List Value) (tb : TypeId) : ∃ v, (w.alloc (.cells a.toArray ta)).alloc (.cells b.toArray tb) = v ∧
    Whole v w.heap.size ta a ∧ Whole v (w.heap.size + 1) tb b ∧ Below w.heap.size w v ∧ v.heap.size = w.heap.size + 2 := by
  refine ⟨_, rfl, Whole.alloc (heap_alloc_new w _) _, ?_, ((Below.refl _ _).alloc (Nat.le_refl _) _).alloc (by rw [World.size_alloc]; omega) _, by rw [World.size_alloc, World.size_alloc]⟩
  have h := heap_alloc_new (w.alloc (.cells a.toArray ta)) (.cells b.toArray tb)
  rw [World.size_alloc] at h
  exact h
theorem three_boxes (w : World) (a : List Value) (ta : TypeId) (b : List Value) (tb : TypeId) (c : List Value) (tc : TypeId) : ∃ v, ((w.alloc (.cells a.toArray ta)).alloc (.cells b.toArray tb)).alloc (.cells c.toArray tc) = v ∧
    Whole v w.heap.size ta a ∧ Whole v (w.heap.size + 1) tb b ∧ Whole v (w.heap.size + 1 + 1) tc c ∧ Below w.heap.size w v ∧ v.heap.size = w.heap.size + 3 := by
  obtain ⟨v, hv, x0, x1, b0, hz⟩ := two_boxes w a ta b tb
  rw [hv]
  refine ⟨_, rfl, x0.alloc _, x1.alloc _, ?_, b0.alloc (by omega) _, by rw [World.size_alloc]; omega⟩
  have h := heap_alloc_new v (.cells c.toArray tc)
  rw [hz] at h
  exact h
end Go.Proofs.YtlnekfbhpfhcpaaGreat
namespace Go.Proofs.YtlnekfbhpfhcpaaGreat
open Go.ChangeShapes Go.WideShapes Go.ChangeAt Go.RowKit Go.Joins Go.Deep
set_option linter.unusedSimpArgs false
set_option linter.unusedVariables false
set_option maxRecDepth 100000
set_option maxHeartbeats 400000
/-- A cell that may still be found: it joins, is in no group yet, and not found. -/
def opn (J : Nat → Bool) (v q : List Nat) (i : Nat) : Bool := J i && !v.contains i && !q.contains i
def bst (J : Nat → Bool) (v q : List Nat) (i : Nat) : List Nat := if opn J v q i then q ++ [i] else q
def brn (J : Nat → Bool) (v q : List Nat) (l : List Nat) : List Nat := l.foldl (bst J v) q
def bro (J : Nat → Bool) (near : Nat → List Nat) (v q : List Nat) (k : Nat) : List Nat :=
  match q[k]? with
  | some x => brn J v q (near x)
  | none => q
def brs (J : Nat → Bool) (near : Nat → List Nat) (v q : List Nat) : Nat → List Nat
  | 0 => q
  | k + 1 => bro J near v (brs J near v q k) k
theorem brn_snoc (J : Nat → Bool) (v q l : List Nat) (x : Nat) : brn J v q (l ++ [x]) = bst J v (brn J v q l) x := by
  unfold brn; rw [List.foldl_append]; rfl
theorem brn_take (J : Nat → Bool) (v q l : List Nat) (k : Nat) (h : k < l.length) : brn J v q (l.take (k + 1)) = bst J v (brn J v q (l.take k)) l[k] := by
  rw [List.take_succ_eq_append_getElem h, brn_snoc]
theorem brs_at (J : Nat → Bool) (near : Nat → List Nat) (v q : List Nat) (k : Nat) (h : k < (brs J near v q k).length) : brs J near v q (k + 1) = brn J v (brs J near v q k) (near (brs J near v q k)[k]) := by
  show bro J near v (brs J near v q k) k = _
  unfold bro
  rw [List.getElem?_eq_getElem h]
theorem brs_stop (J : Nat → Bool) (near : Nat → List Nat) (v q : List Nat) (k : Nat) (h : (brs J near v q k).length ≤ k) : ∀ m, k ≤ m → brs J near v q m = brs J near v q k := by
  intro m hm
  induction m with
  | zero => rw [show k = 0 by omega]
  | succ m ih =>
    rcases Nat.eq_or_lt_of_le hm with e | e
    · rw [e]
    · have e1 := ih (by omega)
      show bro J near v (brs J near v q m) m = _
      rw [e1]
      unfold bro
      rw [List.getElem?_eq_none (by omega)]
/-! ### how many -/
def cntp (p : Nat → Bool) : Nat → Nat
  | 0 => 0
  | n + 1 => cntp p n + (if p n then 1 else 0)
theorem cntp_le (p : Nat → Bool) (n : Nat) : cntp p n ≤ n := by
  induction n with
  | zero => exact Nat.le_refl _
  | succ n ih =>
    show cntp p n + (if p n then 1 else 0) ≤ n + 1
    split <;> omega
theorem cntp_congr {p r : Nat → Bool} {n : Nat} (h : ∀ j, j < n → p j = r j) : cntp p n = cntp r n := by
  induction n with
  | zero => rfl
  | succ n ih =>
    show cntp p n + (if p n then 1 else 0) = cntp r n + (if r n then 1 else 0)
    rw [ih (fun j hj => h j (by omega)), h n (by omega)]
theorem cntp_drop {p r : Nat → Bool} {i n : Nat} (hi : i < n) (hp : p i = true) (hr : r i = false) (h : ∀ j, j ≠ i → r j = p j) : cntp p n = cntp r n + 1 := by
  induction n with
  | zero => omega
  | succ n ih =>
    show cntp p n + (if p n then 1 else 0) = cntp r n + (if r n then 1 else 0) + 1
    by_cases e : n = i
    · subst e
      rw [hp, hr, cntp_congr (fun j hj => (h j (by omega)).symm)]
      simp
    · rw [ih (by omega), h n e]
      omega
theorem opn_snoc (J : Nat → Bool) (v q : List Nat) (x j : Nat) : opn J v (q ++ [x]) j = (opn J v q j && !(j == x)) := by
  unfold opn
  rw [List.contains_eq_any_beq, List.contains_eq_any_beq, List.contains_eq_any_beq, List.any_append, Bool.not_or]
  simp [Bool.and_assoc]
/-- What has been found and what may still be found are no more than n together. -/
def Few (J : Nat → Bool) (v : List Nat) (n : Nat) (q : List Nat) : Prop := q.length + cntp (opn J v q) n ≤ n
theorem few_bst {J : Nat → Bool} {v q : List Nat} {n i : Nat} (h : Few J v n q) (hi : i < n) : Few J v n (bst J v q i) := by
  unfold bst
  split
  · rename_i ho
    unfold Few at h ⊢
    have := cntp_drop (p := opn J v q) (r := opn J v (q ++ [i])) hi ho (by rw [opn_snoc]; simp) (fun j hj => by rw [opn_snoc]; simp [hj])
    rw [List.length_append, List.length_singleton]
    omega
  · exact h
theorem few_brn {J : Nat → Bool} {v : List Nat} {n : Nat} : ∀ (l : List Nat) (q : List Nat), (∀ x ∈ l, x < n) → Few J v n q → Few J v n (brn J v q l)
  | [], q, _, h => h
  | x :: l, q, hl, h => few_brn l (bst J v q x) (fun y hy => hl y (List.mem_cons_of_mem _ hy)) (few_bst h (hl x (List.mem_cons_self ..)))
theorem mem_bst {J : Nat → Bool} {v q : List Nat} {i x : Nat} : x ∈ bst J v q i ↔ x ∈ q ∨ (x = i ∧ opn J v q i = true) := by
  unfold bst
  split
  · rename_i h; rw [List.mem_append, List.mem_singleton, h]; simp
  · rename_i h; simp [h]
theorem mem_brn_le {J : Nat → Bool} {v : List Nat} {x : Nat} : ∀ (l q : List Nat), x ∈ q → x ∈ brn J v q l
  | [], q, h => h
  | y :: l, q, h => mem_brn_le l (bst J v q y) (mem_bst.2 (.inl h))
theorem opn_iff {J : Nat → Bool} {v q : List Nat} {i : Nat} : opn J v q i = true ↔ J i = true ∧ i ∉ v ∧ i ∉ q := by
  unfold opn
  simp [and_assoc]
theorem mem_brn_open {J : Nat → Bool} {v : List Nat} {x : Nat} (hJ : J x = true) (hv : x ∉ v) : ∀ (l q : List Nat), x ∈ l → x ∈ brn J v q l
  | [], q, h => absurd h (List.not_mem_nil)
  | y :: l, q, h => by
    show x ∈ brn J v (bst J v q y) l
    by_cases hq : x ∈ bst J v q y
    · exact mem_brn_le l _ hq
    · rcases List.mem_cons.1 h with e | e
      · subst e
        exact absurd (mem_bst.2 (by
          by_cases hx : x ∈ q
          · exact .inl hx
          · exact .inr ⟨rfl, opn_iff.2 ⟨hJ, hv, hx⟩⟩)) hq
      · exact mem_brn_open hJ hv l _ e
theorem brn_prefix {J : Nat → Bool} {v : List Nat} : ∀ (l q : List Nat), q <+: brn J v q l
  | [], q => List.prefix_refl q
  | y :: l, q => by
    refine List.IsPrefix.trans ?_ (brn_prefix l (bst J v q y))
    unfold bst
    split
    · exact List.prefix_append _ _
    · exact List.prefix_refl _
/-- A property of lists that a step keeps is one of the whole search. -/
theorem brn_keeps {J : Nat → Bool} {v : List Nat} {M : List Nat → Prop} {D : Nat → Prop} (hM : ∀ q i, D i → M q → M (bst J v q i)) : ∀ (l q : List Nat), (∀ x ∈ l, D x) → M q → M (brn J v q l)
  | [], q, _, h => h
  | x :: l, q, hl, h => brn_keeps hM l (bst J v q x) (fun y hy => hl y (List.mem_cons_of_mem _ hy)) (hM q x (hl x (List.mem_cons_self ..)) h)
theorem brs_succ_or (J : Nat → Bool) (near : Nat → List Nat) (v q : List Nat) (k : Nat) : ((brs J near v q k).length ≤ k ∧ brs J near v q (k + 1) = brs J near v q k) ∨ ∃ h : k < (brs J near v q k).length, brs J near v q (k + 1) = brn J v (brs J near v q k) (near (brs J near v q k)[k]) := by
  rcases Nat.lt_or_ge k (brs J near v q k).length with h | h
  · exact .inr ⟨h, brs_at J near v q k h⟩
  · exact .inl ⟨h, brs_stop J near v q k h (k + 1) (by omega)⟩
theorem brs_few {J : Nat → Bool} {near : Nat → List Nat} {v q : List Nat} {n : Nat} (hn : ∀ x, x < n → ∀ y ∈ near x, y < n) (hq : ∀ x ∈ q, x < n) (h : Few J v n q) : ∀ k, Few J v n (brs J near v q k) ∧ ∀ x ∈ brs J near v q k, x < n := by
  intro k
  induction k with
  | zero => exact ⟨h, hq⟩
  | succ k ih =>
    rcases brs_succ_or J near v q k with ⟨hz, e⟩ | ⟨hk, e⟩
    · rw [e]; exact ih
    · rw [e]
      have hx := ih.2 _ (List.getElem_mem hk)
      refine ⟨few_brn _ _ (hn _ hx) ih.1, brn_keeps (M := fun q => ∀ x ∈ q, x < n) (D := fun i => i < n) ?_ _ _ (hn _ hx) ih.2⟩
      intro q i hi hM x hx
      rcases mem_bst.1 hx with h1 | ⟨rfl, _⟩
      · exact hM x h1
      · exact hi
theorem few_len {J : Nat → Bool} {v q : List Nat} {n : Nat} (h : Few J v n q) : q.length ≤ n := by unfold Few at h; omega
theorem few_one {J : Nat → Bool} {v : List Nat} {n i : Nat} (hi : i < n) (ho : opn J v [] i = true) : Few J v n [i] := by
  have h := few_bst (J := J) (v := v) (q := []) (n := n) (i := i) (by unfold Few; have := cntp_le (opn J v []) n; simpa using this) hi
  unfold bst at h
  rw [ho] at h
  exact h
/-- The search has come to its end when its next cell is none: no further round turns it. -/
theorem brs_end {J : Nat → Bool} {near : Nat → List Nat} {v q : List Nat} {k n : Nat} (h : (brs J near v q k).length ≤ k) (hk : k ≤ n) : brs J near v q k = brs J near v q n := (brs_stop J near v q k h n hk).symm
theorem brs_le {J : Nat → Bool} {near : Nat → List Nat} {v q : List Nat} {x : Nat} (h : x ∈ q) : ∀ k, x ∈ brs J near v q k := by
  intro k
  induction k with
  | zero => exact h
  | succ k ih =>
    rcases brs_succ_or J near v q k with ⟨hz, e⟩ | ⟨hk, e⟩
    · rw [e]; exact ih
    · rw [e]; exact mem_brn_le _ _ ih
/-- Whatever is found joins and was in no group. -/
theorem brs_joins {J : Nat → Bool} {near : Nat → List Nat} {v q : List Nat} (h : ∀ x ∈ q, J x = true ∧ x ∉ v) : ∀ k, ∀ x ∈ brs J near v q k, J x = true ∧ x ∉ v := by
  intro k
  induction k with
  | zero => exact h
  | succ k ih =>
    rcases brs_succ_or J near v q k with ⟨hz, e⟩ | ⟨hk, e⟩
    · rw [e]; exact ih
    · rw [e]
      refine brn_keeps (M := fun q => ∀ x ∈ q, J x = true ∧ x ∉ v) (D := fun _ => True) ?_ _ _ (fun _ _ => trivial) ih
      intro q i _ hM x hx
      rcases mem_bst.1 hx with h1 | ⟨rfl, h1⟩
      · exact hM x h1
      · exact ⟨(opn_iff.1 h1).1, (opn_iff.1 h1).2.1⟩
theorem brs_nodup {J : Nat → Bool} {near : Nat → List Nat} {v q : List Nat} (h : q.Nodup) : ∀ k, (brs J near v q k).Nodup := by
  intro k
  induction k with
  | zero => exact h
  | succ k ih =>
    rcases brs_succ_or J near v q k with ⟨hz, e⟩ | ⟨hk, e⟩
    · rw [e]; exact ih
    · rw [e]
      refine brn_keeps (M := List.Nodup) (D := fun _ => True) ?_ _ _ (fun _ _ => trivial) ih
      intro q i _ hM
      unfold bst
      split
      · rename_i ho
        rw [List.nodup_append]
        refine ⟨hM, by simp, ?_⟩
        intro a ha b hb e
        rw [List.mem_singleton] at hb
        subst hb; subst e
        exact (opn_iff.1 ho).2.2 ha
      · exact hM
/-- It stays in what is closed. -/
theorem brs_inside {J : Nat → Bool} {near : Nat → List Nat} {v q : List Nat} {S : Nat → Prop} (hS : ∀ x, S x → ∀ y ∈ near x, J y = true → y ∉ v → S y) (h : ∀ x ∈ q, S x) : ∀ k, ∀ x ∈ brs J near v q k, S x := by
  intro k
  induction k with
  | zero => exact h
  | succ k ih =>
    rcases brs_succ_or J near v q k with ⟨hz, e⟩ | ⟨hk, e⟩
    · rw [e]; exact ih
    · rw [e]
      have hx := ih _ (List.getElem_mem hk)
      refine brn_keeps (M := fun q => ∀ x ∈ q, S x) (D := fun y => y ∈ near (brs J near v q k)[k]) ?_ _ _ (fun _ h => h) ih
      intro q i hi hM x hx'
      rcases mem_bst.1 hx' with h1 | ⟨rfl, h1⟩
      · exact hM x h1
      · exact hS _ hx x hi (opn_iff.1 h1).1 (opn_iff.1 h1).2.1
theorem brs_prefix (J : Nat → Bool) (near : Nat → List Nat) (v q : List Nat) (k : Nat) : brs J near v q k <+: brs J near v q (k + 1) := by
  rcases brs_succ_or J near v q k with ⟨hz, e⟩ | ⟨hk, e⟩
  · rw [e]; exact List.prefix_refl _
  · rw [e]; exact brn_prefix _ _
theorem brs_done {J : Nat → Bool} {near : Nat → List Nat} {v q : List Nat} : ∀ k m, m < k → ∀ hm : m < (brs J near v q k).length, ∀ y ∈ near (brs J near v q k)[m], J y = true → y ∉ v → y ∈ brs J near v q k := by
  intro k
  induction k with
  | zero => intro m hm; omega
  | succ k ih =>
    intro m hmk hm y hy hJ hv
    have hp := brs_prefix J near v q k
    rcases brs_succ_or J near v q k with ⟨hz, e⟩ | ⟨hk, e⟩
    · rcases Nat.lt_or_ge m k with h1 | h1
      · have hm' : m < (brs J near v q k).length := by rw [← e]; exact hm
        have e2 : (brs J near v q (k + 1))[m] = (brs J near v q k)[m] := by simp [e]
        rw [e2] at hy
        rw [e]
        exact ih m h1 hm' y hy hJ hv
      · have : m < (brs J near v q k).length := by rw [← e]; exact hm
        omega
    · rcases Nat.lt_or_ge m k with h1 | h1
      · have hm' : m < (brs J near v q k).length := by omega
        have e2 : (brs J near v q (k + 1))[m] = (brs J near v q k)[m] := (List.IsPrefix.getElem hp hm').symm
        rw [e2] at hy
        have := ih m h1 hm' y hy hJ hv
        rw [e]
        exact mem_brn_le _ _ this
      · have e3 : m = k := by omega
        subst e3
        have e2 : (brs J near v q (m + 1))[m] = (brs J near v q m)[m] := (List.IsPrefix.getElem hp hk).symm
        rw [e2] at hy
        rw [e]
        exact mem_brn_open hJ hv _ _ hy
/-- Behind the whole search: a neighbour that joins has been found too, or is in a group. -/
theorem brs_closed {J : Nat → Bool} {near : Nat → List Nat} {v q : List Nat} {n : Nat} (hl : (brs J near v q n).length ≤ n) : ∀ x ∈ brs J near v q n, ∀ y ∈ near x, J y = true → y ∉ v → y ∈ brs J near v q n := by
  intro x hx y hy hJ hv
  obtain ⟨m, hm, rfl⟩ := List.getElem_of_mem hx
  exact brs_done n m (by omega) hm y hy hJ hv
/-! ### the groups -/
def grp (J : Nat → Bool) (near : Nat → List Nat) (n : Nat) (G : List (List Nat)) (i : Nat) : List Nat := brs J near G.flatten [i] n
def gst (J : Nat → Bool) (near : Nat → List Nat) (n : Nat) (G : List (List Nat)) (i : Nat) : List (List Nat) := if opn J G.flatten [] i then G ++ [grp J near n G i] else G
def gat (J : Nat → Bool) (near : Nat → List Nat) (n : Nat) : Nat → List (List Nat)
  | 0 => []
  | k + 1 => gst J near n (gat J near n k) k
/-- The number of the group of a cell, or -1. -/
def num : List (List Nat) → Nat → Nat → Int
  | [], _, _ => -1
  | g :: G, c, j => if g.contains j then (c : Int) else num G (c + 1) j
theorem num_neg {j : Nat} : ∀ (G : List (List Nat)) (c : Nat), num G c j < 0 ↔ j ∉ G.flatten
  | [], c => by simp [num]
  | g :: G, c => by
    unfold num
    have ih := num_neg (j := j) G (c + 1)
    by_cases h : j ∈ g
    · simp [h]
    · simp only [List.contains_iff_mem, h, if_false, List.flatten_cons, List.mem_append, false_or]
      exact ih
theorem num_ge {j : Nat} : ∀ (G : List (List Nat)) (c : Nat), -1 ≤ num G c j ∧ num G c j < c + G.length
  | [], c => by constructor <;> (simp [num]; try omega)
  | g :: G, c => by
    unfold num
    have ih := num_ge (j := j) G (c + 1)
    rw [List.length_cons]
    split
    · constructor <;> omega
    · constructor <;> omega
theorem num_lone {j : Nat} (G : List (List Nat)) (c : Nat) (h : num G c j < 0) : num G c j = -1 := by have := (num_ge (j := j) G c).1; omega
theorem num_snoc {j : Nat} (q : List Nat) : ∀ (G : List (List Nat)) (c : Nat), num (G ++ [q]) c j = if j ∈ G.flatten then num G c j else if j ∈ q then ((c + G.length : Nat) : Int) else -1
  | [], c => by simp [num]
  | g :: G, c => by
    have ih := num_snoc (j := j) q G (c + 1)
    show (if g.contains j then (c : Int) else num (G ++ [q]) (c + 1) j) = _
    rw [ih]
    by_cases h : j ∈ g
    · simp [h, num]
    · simp only [List.contains_iff_mem, h, if_false, List.flatten_cons, List.mem_append, false_or, num, List.length_cons]
      rw [show c + 1 + G.length = c + (G.length + 1) by omega]
theorem num_from {j : Nat} : ∀ (G : List (List Nat)) (c : Nat), num G c j = -1 ∨ (c : Int) ≤ num G c j
  | [], c => .inl rfl
  | g :: G, c => by
    unfold num
    split
    · exact .inr (Int.le_refl _)
    · rcases num_from (j := j) G (c + 1) with h | h
      · exact .inl h
      · exact .inr (by omega)
theorem num_mem {j : Nat} : ∀ (G : List (List Nat)) (c k : Nat), num G c j = ((c + k : Nat) : Int) → ∃ g, G[k]? = some g ∧ j ∈ g
  | [], c, k, h => by simp [num] at h; omega
  | g :: G, c, k, h => by
    unfold num at h
    split at h
    · rename_i hg
      have : k = 0 := by omega
      subst this
      exact ⟨g, rfl, by simpa using hg⟩
    · cases k with
      | zero =>
        have := (num_ge (j := j) G (c + 1))
        rcases Int.lt_or_le (num G (c + 1) j) 0 with h1 | h1
        · omega
        · exfalso
          have h2 := num_from (j := j) G (c + 1)
          omega
      | succ k =>
        obtain ⟨g', h1, h2⟩ := num_mem G (c + 1) k (by rw [h]; omega)
        exact ⟨g', by simpa using h1, h2⟩
end Go.Proofs.YtlnekfbhpfhcpaaGreat
namespace Go.Proofs.YtlnekfbhpfhcpaaGreat
open Go.ChangeShapes Go.WideShapes Go.ChangeAt Go.RowKit Go.Joins Go.Deep
set_option linter.unusedSimpArgs false
set_option linter.unusedVariables false
set_option maxRecDepth 100000
set_option maxHeartbeats 400000
open Go.Maps
theorem keysLaw : Maps.Keyed Tryz.prog 3 := Maps.int_keyed Tryz.underlying3
theorem zeroBool (w : World) : (zeroValue 4).run Tryz.prog w = .ok (.bool false) w := by kernel_rfl
theorem plain_bool_inv {v : Value} {x : Bool} {ps : List MemPlace} (h : plainElem (H := Unit) Tryz.prog 4 v = some (.lit (.bool x), ps)) : v = .bool x := by
  unfold plainElem at h
  rw [Tryz.underlying4] at h
  cases v <;> simp at h
  rw [h.1]
def kyAt (i : Nat) : Lit := .int .i64 (i : Int)
theorem kyAt_of {i : Nat} (h : i ≤ 1048576) : keyOf Tryz.prog 3 (.int .i64 (i : Int)) = some (kyAt i) := Maps.keyOf_int_mk Tryz.underlying3 (WalkArith.wf_i64 (by omega))
theorem kyAt_key (i : Nat) : WideAt.IsKeyLit (kyAt i) := trivial
theorem kyAt_ne {i j : Nat} (h : j ≠ i) : kyAt j ≠ kyAt i := by
  intro e
  unfold kyAt at e
  injection e with _ e
  omega
/-- Block B is such a map: at most n entries; true just at the numbers of o. -/
def Keys (w : World) (B n : Nat) (o : Nat → Bool) : Prop :=
  ∃ D : DataW Unit, w.ownsMap Tryz.prog 3 (plainElem Tryz.prog 4) B n D ∧ ∀ i, i ≤ 1048576 → D.atKey (kyAt i) (.lit (.bool false)) = .lit (.bool (o i))
theorem Keys.lt {w : World} {B n : Nat} {o : Nat → Bool} (h : Keys w B n o) : B < w.heap.size := by
  obtain ⟨D, h, _⟩ := h
  exact h.lt
theorem Keys.congr {w : World} {B n : Nat} {o o' : Nat → Bool} (h : Keys w B n o) (he : ∀ i, i ≤ 1048576 → o i = o' i) : Keys w B n o' := by
  obtain ⟨D, h, ha⟩ := h
  exact ⟨D, h, fun i hi => by rw [ha i hi, he i hi]⟩
theorem Keys.mono {w : World} {B n m : Nat} {o : Nat → Bool} (h : Keys w B n o) (hm : n ≤ m) : Keys w B m o := by
  obtain ⟨D, h, ha⟩ := h
  exact ⟨D, h.mono hm, ha⟩
theorem Keys.kept {w w' : World} {B n : Nat} {o : Nat → Bool} {row : Option Nat} (h : Keys w B n o) (hg : w.grownBy w' row) (hne : some B ≠ row) : Keys w' B n o := by
  obtain ⟨D, h, ha⟩ := h
  exact ⟨D, h.kept hg hne, ha⟩
theorem Keys.below {w w' : World} {B n : Nat} {o : Nat → Bool} (h : Keys w B n o) (hb : Below w.heap.size w w') : Keys w' B n o :=
  h.kept (row := none) ⟨hb.os, hb.tape, hb.output, hb.size, fun i hi _ => hb.block i hi⟩ (by simp)
theorem Keys.alloc {w : World} {B n : Nat} {o : Nat → Bool} (h : Keys w B n o) (x : Obj) : Keys (w.alloc x) B n o := h.kept (World.grownBy_alloc w x none) (by simp)
theorem Keys.setCell {w : World} {B n : Nat} {o : Nat → Bool} (h : Keys w B n o) {a : Addr} (ha : B ≠ a.block) (u : Value) : Keys (w.setCell a u) B n o := by
  obtain ⟨D, h, hd⟩ := h
  exact ⟨D, h.setCell ha u, hd⟩
theorem Keys.row {w : World} {B n : Nat} {o : Nat → Bool} (h : Keys w B n o) {base : Nat} {e : TypeId} {size m : Nat} {v : Value} {xs : List Value} (hr : w.ownsRow base e size v m xs) : some B ≠ v.ownBlock := by
  obtain ⟨D, ⟨es, clock, hb, _⟩, _⟩ := h
  rcases hr.2 with ⟨rfl, _⟩ | ⟨g, cap, cur, rfl, _, hg, _⟩
  · simp [Value.ownBlock]
  · intro e1
    have : B = g := by simpa [Value.ownBlock] using e1
    subst this
    rw [hb] at hg
    cases hg
theorem Keys.whole {w : World} {B n : Nat} {o : Nat → Bool} (h : Keys w B n o) {g : Nat} {t : TypeId} {xs : List Value} (hw : Whole w g t xs) : B ≠ g := by
  obtain ⟨D, ⟨es, clock, hb, _⟩, _⟩ := h
  intro e
  subst e
  unfold Whole at hw
  rw [hb] at hw
  cases hw
theorem Keys.made (w : World) : Keys (w.alloc (.map #[] 0)) w.heap.size 0 (fun _ => false) :=
  ⟨.map [], World.ownsMap_made _ _ _ _, fun _ _ => rfl⟩
theorem Keys.look {w : World} {B n : Nat} {o : Nat → Bool} (h : Keys w B n o) {i : Nat} (hi : i ≤ 1048576) :
    (Instr.lookup 131 (.map (some B)) (.int .i64 (i : Int)) false).run Tryz.prog w = .ok (.bool (o i)) w := by
  obtain ⟨D, h, ha⟩ := h
  obtain ⟨v, ps, hrun, hv⟩ := h.lookup keysLaw Tryz.underlying131 (zeroBool w) (plainElem_bool Tryz.underlying4 false) (kyAt_of hi)
  rw [ha i hi] at hv
  rw [hrun, plain_bool_inv hv]
theorem wpList_look_keys {w : World} {ops : Array Oper} {rest : List Oper} {o : Oper} {a : Act} {Q : Exit → Act → World → Prop} (hg : o.guard = none) (m x : Operand) (hop : o.op = Op.lookup 131 m x false)
    (B n : Nat) (p : Nat → Bool) (hm : a.eval m = .map (some B)) (hk : Keys w B n p) (i : Nat) (hx : a.eval x = .int .i64 (i : Int)) (hi : i ≤ 1048576)
    (hK : wpList Tryz.prog ops Q rest (a.put o.dst (.bool (p i))) w) : wpList Tryz.prog ops Q (o :: rest) a w := by
  refine wpList_plain hg fun K' hK' => ?_
  unfold Oper.wp
  simp [execOp, hop, hm, hx, hk.look hi, Result.andThen]
  exact hK' _ _ hK
theorem wpList_del_keys {w : World} {ops : Array Oper} {rest : List Oper} {o : Oper} {a : Act} {Q : Exit → Act → World → Prop} (hg : o.guard = none) (m x : Operand)
    (hop : o.op = Op.call { callee := Callee.builtin Builtin.delete, args := #[m, x], argTypes := #[131, 3] })
    (B n : Nat) (p : Nat → Bool) (hm : a.eval m = .map (some B)) (hk : Keys w B n p) (i : Nat) (hx : a.eval x = .int .i64 (i : Int)) (hi : i ≤ 1048576)
    (hK : ∀ w', Keys w' B n (fun j => p j && !(j == i)) → w.grownBy w' (some B) → wpList Tryz.prog ops Q rest (a.put o.dst (.tuple #[])) w') : wpList Tryz.prog ops Q (o :: rest) a w := by
  obtain ⟨D, hown, ha⟩ := hk
  refine wpList_delete_own w hg m x _ _ hop _ keysLaw Tryz.underlying131 _ B n D hm hown _ _ hx (kyAt_of hi) (fun w' h1 h2 => hK w' ⟨_, h1, fun j hj => ?_⟩ h2.grown)
  by_cases e : j = i
  · subst e
    rw [atKey_del_same]
    simp
  · rw [atKey_del_other (kyAt_ne e), ha j hj]
    simp [e]
theorem wpList_put_keys {w : World} {ops : Array Oper} {rest : List Oper} {o : Oper} {a : Act} {Q : Exit → Act → World → Prop} (hg : o.guard = none) (m x v : Operand) (hop : o.op = Op.mapUpdate 131 m x v)
    (B n : Nat) (p : Nat → Bool) (hm : a.eval m = .map (some B)) (hk : Keys w B n p) (hn : n < maxLen) (i : Nat) (hx : a.eval x = .int .i64 (i : Int)) (hv : a.eval v = .bool true) (hi : i ≤ 1048576)
    (hK : ∀ w', Keys w' B (n + 1) (fun j => p j || j == i) → w.grownBy w' (some B) → wpList Tryz.prog ops Q rest (a.put o.dst undef) w') : wpList Tryz.prog ops Q (o :: rest) a w := by
  obtain ⟨D, hown, ha⟩ := hk
  refine wpList_mapUpdate_own w hg m x v _ hop _ _ keysLaw Tryz.underlying131 _ B n D hm hown hn _ _ _ hx hv (kyAt_of hi) _ _ (plainElem_bool Tryz.underlying4 true) (fun w' h1 h2 => hK w' ⟨_, h1, fun j hj => ?_⟩ h2)
  by_cases e : j = i
  · subst e
    rw [atKey_put_same hown.isMap (kyAt_key j)]
    simp
  · rw [atKey_put_other (kyAt_ne e), ha j hj]
    simp [e]
end Go.Proofs.YtlnekfbhpfhcpaaGreat
namespace Go.Proofs.YtlnekfbhpfhcpaaGreat
open Go.ChangeShapes Go.WideShapes Go.ChangeAt Go.RowKit Go.Joins Go.Deep
set_option linter.unusedSimpArgs false
set_option linter.unusedVariables false
set_option maxRecDepth 100000
set_option maxHeartbeats 400000
theorem cell_two {w : World} {b o : Nat} {l : List (Int × Int)} (hc : ∀ j u, (flat l)[j]? = some u → w.cell? ⟨b, o + j, none⟩ = some u) {k : Nat} (h : k < l.length) :
    w.cell? ⟨b, o + k * 2, none⟩ = some (.int .i64 l[k].1) ∧ w.cell? ⟨b, o + k * 2 + 1, none⟩ = some (.int .i64 l[k].2) :=
  ⟨hc _ _ (flat_at l k h).1, hc _ _ (flat_at l k h).2⟩
def inB (R C i j : Int) : Bool := decide (0 ≤ i ∧ i < R ∧ 0 ≤ j ∧ j < C)
def hasB (R C : Int) (l : List (Int × Int)) (i j : Int) : Bool := goodB R C l && inB R C i j
theorem inB_iff {R C i j : Int} : inB R C i j = true ↔ 0 ≤ i ∧ i < R ∧ 0 ≤ j ∧ j < C := by unfold inB; simp
def atI (C i j : Int) : Nat := (i * C + j).toNat
theorem at_bound {R C : Int} {l : List (Int × Int)} {i j : Int} (hg : goodB R C l = true) (hi : inB R C i j = true) :
    (0 ≤ i * C ∧ i * C ≤ 90) ∧ i * C + j = (atI C i j : Int) ∧ atI C i j < l.length ∧ l.length ≤ 90 := by
  obtain ⟨hs, hl, _⟩ := goodB_iff.1 hg
  obtain ⟨a, b, c, d⟩ := inB_iff.1 hi
  have hm := mul_bound hs
  obtain ⟨s1, s2, s3, s4⟩ := sizeB_iff.1 hs
  have h1 : i * C ≤ (R - 1) * C := Int.mul_le_mul_of_nonneg_right (by omega) (by omega)
  have h2 : (R - 1) * C = R * C - C := by rw [Int.sub_mul, Int.one_mul]
  have h3 : 0 ≤ i * C := Int.mul_nonneg a (by omega)
  unfold atI
  omega
theorem wrap_at {R C : Int} {l : List (Int × Int)} {i j : Int} (hg : goodB R C l = true) (hi : inB R C i j = true) :
    IntKind.i64.wrap (i * C) = i * C ∧ IntKind.i64.wrap (i * C + j) = (atI C i j : Int) := by
  obtain ⟨h1, h2, h3, h4⟩ := at_bound hg hi
  refine ⟨IntWalk.i64_in (i * C) (by omega), ?_⟩
  rw [IntWalk.i64_in (i * C + j) (by omega), h2]
theorem spec_boAt (R C : Int) (A : Option Addr) (cap : Nat) (l : List (Int × Int)) (i j : Int) (w : World) (hg : goodB R C l = true) (hi : inB R C i j = true) (hr : Rd w w.heap.size A (flat l)) :
    Calls Tryz.prog 71 #[.agg #[.int .i64 R, .int .i64 C, .slice A l.length cap], .int .i64 i, .int .i64 j] w fun e w' => e = .returned (.agg #[.int .i64 (l.getD (atI C i j) (0, 0)).1, .int .i64 (l.getD (atI C i j) (0, 0)).2]) ∧ Below w.heap.size w w' := by
  obtain ⟨_, _, hlt, h90⟩ := at_bound hg hi
  obtain ⟨m1, m2⟩ := wrap_at hg hi
  have e : l.getD (atI C i j) (0, 0) = l[atI C i j] := by rw [List.getD_eq_getElem?_getD, List.getElem?_eq_getElem hlt]; rfl
  rw [e]
  obtain ⟨b, o, rfl, hbl, hc⟩ := hr (by rw [flat_length]; omega)
  obtain ⟨hc0, hc1⟩ := cell_two hc hlt
  clear e hr hc hg hi
  generalize l[atI C i j].1 = x at *
  generalize l[atI C i j].2 = y at *
  generalize atI C i j = n at *
  go_enter Tryz.func71, Tryz.ntmps71
  go_wp2
  refine bodyPost_ret (v := .agg #[.int .i64 x, .int .i64 y]) ?_ rfl ?_; (focus (simp [results, Tryz.results71, go_sem, *]; done))
  exact ⟨rfl, by (repeat' (first | (with_reducible exact Below.refl _ _) | (with_reducible assumption) | (with_reducible refine Below.alloc ?_ ?_ _) | (with_reducible refine Below.setCell ?_ ?_ _) | (with_reducible refine Below.drew ?_) | (with_reducible refine below_drewN ?_ _) | (with_reducible refine Below.trans ?_ (Below.mono (by assumption) ?_)) | (with_reducible exact Nat.le_refl _) | (simp; done) | omega | (simp at *; omega)))⟩
def cellK (R C : Int) (l : List (Int × Int)) (i j : Int) : Int := selI (hasB R C l i j) (l.getD (atI C i j) (0, 0)).1
def cellS (R C : Int) (l : List (Int × Int)) (i j : Int) : Int := selI (hasB R C l i j) (l.getD (atI C i j) (0, 0)).2
theorem hasB_and {R C : Int} {l : List (Int × Int)} {i j : Int} (h : hasB R C l i j = true) : goodB R C l = true ∧ inB R C i j = true := by
  unfold hasB at h; simpa using h
end Go.Proofs.YtlnekfbhpfhcpaaGreat
namespace Go.Proofs.YtlnekfbhpfhcpaaGreat
open Go.ChangeShapes Go.WideShapes Go.ChangeAt Go.RowKit Go.Joins Go.Deep
set_option linter.unusedSimpArgs false
set_option linter.unusedVariables false
set_option maxRecDepth 100000
set_option maxHeartbeats 1000000
theorem row_empty (w : World) (e : TypeId) (size : Nat) : (w.alloc (.cells #[] e)).ownsRow w.heap.size e size (.slice (some ⟨w.heap.size, 0, none⟩) 0 0) 0 [] :=
  ⟨by simp, .inr ⟨w.heap.size, 0, #[], rfl, Nat.le_refl _, heap_alloc_new w _, Nat.le_refl _, Nat.zero_le _, by simp, by simp⟩⟩
theorem rd_news {w w' : World} {B b o : Nat} {xs : List Value} (hr : Rd w B (some ⟨b, o, none⟩) xs) (hb : Below B w w') : ∀ j u, xs[j]? = some u → w'.cell? ((⟨b, o, none⟩ : Addr).add j) = some u := by
  intro j u hj
  obtain ⟨b', o', e, hlt, hc⟩ := hr (by have := (List.getElem?_eq_some_iff.1 hj).1; omega)
  cases e
  rw [add_plain]
  exact (hb.cell (p := ⟨b, o + j, none⟩) hlt).trans (hc j u hj)
theorem Own.set_far {w : World} {A : Option Addr} {t : TypeId} {xs : List Value} (h : Own w A t xs) (p : Addr) (u : Value) (hne : ∀ a, A = some a → p.block ≠ a.block) : Own (w.setCell p u) A t xs := fun hx => by
  obtain ⟨g, rest, rfl, hw⟩ := h hx
  exact ⟨g, rest, rfl, hw.set_far p u (hne _ rfl)⟩
theorem Clone_any (b o cap : Nat) (l : List (Int × Int)) (w : World) (hn : l.length ≤ 1048576) (hr : Rd w w.heap.size (some ⟨b, o, none⟩) (flat l)) :
    Calls Tryz.prog 57 #[.slice (some ⟨b, o, none⟩) l.length cap] w (PostC w l) := by
  obtain ⟨i0, hi, hz0, hz1, hz2⟩ := info_parts cellInfo
  have hnil := fun (w : World) => Lib.run_eql_slice_some_nil (P := Tryz.prog) w (⟨b, o, none⟩ : Addr) l.length cap Tryz.underlying23
  go_enter Tryz.func57, Tryz.ntmps57
  go_wp2_with (first | (at_builtin; refine wpList_append_own _ rfl (.tmp 5) (.tmp 6) 23 rfl w.heap.size 86 i0 _ 2 16 Tryz.underlying23 hi hz0 hz1 hz2 rfl (by omega) _ 0 [] rfl (row_empty w _ _) ⟨b, o, none⟩ l.length cap (flat l) rfl (by rw [flat_length]; omega) (rd_news hr ((Below.refl _ _).alloc (Nat.le_refl _) _)) (flat_one l) (by unfold maxLen; omega) (by omega) (by simp) ?_; intro v1 w1 hown1 hg1 _) | fail)
  have hb1 : Below w.heap.size w w1 := row_below (row_empty w _ 2) ((Below.refl _ _).alloc (Nat.le_refl _) _) (by simp) hg1
  rw [Nat.zero_add, List.nil_append] at hown1
  obtain ⟨A', cap', rfl⟩ := slice_of_row hown1
  have ho := own_of_row hown1
  clear hg1 hown1
  go_wp2
  go_returns
  exact PostC.mk ho.1 ho.2 hb1
theorem spec_boOwn (R C : Int) (b o cap : Nat) (l : List (Int × Int)) (w : World) (hpos : 0 < l.length) (hn : l.length ≤ 1048576) (hr : Rd w w.heap.size (some ⟨b, o, none⟩) (flat l)) :
    Calls Tryz.prog 61 #[.agg #[.int .i64 R, .int .i64 C, .slice (some ⟨b, o, none⟩) l.length cap]] w (PostD w R C l) := by
  obtain ⟨i0, hi, hz0, hz1, hz2⟩ := info_parts cellInfo
  go_enter Tryz.func61, Tryz.ntmps61
  go_wp2_with fail
  have b0 : Below w.heap.size w ((w.alloc (.cells #[.int .i64 R, .int .i64 C, .slice (some ⟨b, o, none⟩) l.length cap] 25)).alloc (.cells #[.int .i64 0, .int .i64 0, .slice none 0 0] 25)) := by (repeat' (first | (with_reducible exact Below.refl _ _) | (with_reducible assumption) | (with_reducible refine Below.alloc ?_ ?_ _) | (with_reducible refine Below.setCell ?_ ?_ _) | (with_reducible refine Below.drew ?_) | (with_reducible refine below_drewN ?_ _) | (with_reducible refine Below.trans ?_ (Below.mono (by assumption) ?_)) | (with_reducible exact Nat.le_refl _) | (simp; done) | omega | (simp at *; omega)))
  have x0 : Whole ((w.alloc (.cells #[.int .i64 R, .int .i64 C, .slice (some ⟨b, o, none⟩) l.length cap] 25)).alloc (.cells #[.int .i64 0, .int .i64 0, .slice none 0 0] 25)) w.heap.size 25 [.int .i64 R, .int .i64 C, .slice (some ⟨b, o, none⟩) l.length cap] := Whole.alloc (heap_alloc_new w _) _
  have x1 : Whole ((w.alloc (.cells #[.int .i64 R, .int .i64 C, .slice (some ⟨b, o, none⟩) l.length cap] 25)).alloc (.cells #[.int .i64 0, .int .i64 0, .slice none 0 0] 25)) (w.heap.size + 1) 25 [.int .i64 0, .int .i64 0, .slice none 0 0] := by
    have h := heap_alloc_new (w.alloc (.cells #[.int .i64 R, .int .i64 C, .slice (some ⟨b, o, none⟩) l.length cap] 25)) (.cells #[.int .i64 0, .int .i64 0, .slice none 0 0] 25)
    rw [World.size_alloc] at h
    exact h
  have hz : w.heap.size + 1 < ((w.alloc (.cells #[.int .i64 R, .int .i64 C, .slice (some ⟨b, o, none⟩) l.length cap] 25)).alloc (.cells #[.int .i64 0, .int .i64 0, .slice none 0 0] 25)).heap.size := x1.lt
  have hb0 := b0.size
  generalize (w.alloc (.cells #[.int .i64 R, .int .i64 C, .slice (some ⟨b, o, none⟩) l.length cap] 25)).alloc (.cells #[.int .i64 0, .int .i64 0, .slice none 0 0] 25) = v0 at *
  have hz0' : w.heap.size < v0.heap.size := by omega
  have k0 : v0.cell? ⟨w.heap.size, 0, none⟩ = some (.int .i64 R) := (x0.cell 0).trans rfl
  have k1 : v0.cell? ⟨w.heap.size, 1, none⟩ = some (.int .i64 C) := (x0.cell 1).trans rfl
  have k2 : v0.cell? ⟨w.heap.size, 2, none⟩ = some (.slice (some ⟨b, o, none⟩) l.length cap) := (x0.cell 2).trans rfl
  have KS := Lib.hid (fun (w' : World) (h : Below (w.heap.size + 1) v0 w') => (⟨(h.cell (p := ⟨w.heap.size, 0, none⟩) (Nat.lt_succ_self _)).trans k0, (h.cell (p := ⟨w.heap.size, 1, none⟩) (Nat.lt_succ_self _)).trans k1, (h.cell (p := ⟨w.heap.size, 2, none⟩) (Nat.lt_succ_self _)).trans k2⟩ : w'.cell? ⟨w.heap.size, 0, none⟩ = some (.int .i64 R) ∧ w'.cell? ⟨w.heap.size, 1, none⟩ = some (.int .i64 C) ∧ w'.cell? ⟨w.heap.size, 2, none⟩ = some (.slice (some ⟨b, o, none⟩) l.length cap)))
  go_region_held3 (fun w' => w'.cell? ⟨w.heap.size, 0, none⟩ = some (.int .i64 R) ∧ w'.cell? ⟨w.heap.size, 1, none⟩ = some (.int .i64 C) ∧ w'.cell? ⟨w.heap.size, 2, none⟩ = some (.slice (some ⟨b, o, none⟩) l.length cap))
    (first | exact KS.out _ (by (repeat' (first | (with_reducible exact Below.refl _ _) | (with_reducible assumption) | (with_reducible refine Below.alloc ?_ ?_ _) | (with_reducible refine Below.setCell ?_ ?_ _) | (with_reducible refine Below.drew ?_) | (with_reducible refine below_drewN ?_ _) | (with_reducible refine Below.trans ?_ (Below.mono (by assumption) ?_)) | (with_reducible exact Nat.le_refl _) | (simp; done) | omega | (simp at *; omega)))))
    ((first | (refine step_append_lies _ (by rfl) _ _ _ (by rfl) v0.heap.size 86 i0 _ 2 16 Tryz.underlying23 hi hz0 hz1 hz2 rfl (by omega) _ 0 [] (by rfl) (row_empty v0.drew _ _) ⟨b, o, none⟩ l.length cap (flat l) (by rfl) (by rw [flat_length]; omega) (rd_news hr (by (repeat' (first | (with_reducible exact Below.refl _ _) | (with_reducible assumption) | (with_reducible refine Below.alloc ?_ ?_ _) | (with_reducible refine Below.setCell ?_ ?_ _) | (with_reducible refine Below.drew ?_) | (with_reducible refine below_drewN ?_ _) | (with_reducible refine Below.trans ?_ (Below.mono (by assumption) ?_)) | (with_reducible exact Nat.le_refl _) | (simp; done) | omega | (simp at *; omega))))) (flat_one l) hpos (by unfold maxLen; omega) (by omega) (by simp) (v0.heap.size + 1) (by simp) ?_; intro gg cap1 w1 hown1 hg1 hat1 hlt1; have hb1 : Below v0.heap.size v0 w1 := row_below (row_empty v0.drew _ 2) (((Below.refl _ _).drew).alloc (Nat.le_refl _) _) (by simp) hg1; have x2 := x1.below hb1 hz; have q0 : w1.cell? ⟨w.heap.size + 1, 0, none⟩ = some (.int .i64 0) := (x2.cell 0).trans rfl; have q1 : w1.cell? ⟨w.heap.size + 1, 1, none⟩ = some (.int .i64 0) := (x2.cell 1).trans rfl; have q2 : w1.cell? ⟨w.heap.size + 1, 2, none⟩ = some (.slice none 0 0) := (x2.cell 2).trans rfl; have qf0 := x2.frozen 0; have qf1 := x2.frozen 1; have qf2 := x2.frozen 2)))
  rw [Nat.zero_add, List.nil_append] at hown1
  have ho := own_of_row hown1
  have B1 : Below w.heap.size w w1 := b0.trans (hb1.mono hb0)
  clear hat1 hg1 hown1 hb1 x2 x1 x0 k0 k1 k2 KS
  go_wp2
  refine bodyPost_ret (v := .agg #[.int .i64 R, .int .i64 C, .slice (some ⟨gg, 0, none⟩) l.length cap1]) ?_ rfl ?_; (focus (simp [results, Tryz.results61, go_sem, *]; done))
  refine PostD.mk (((ho.1.set_far _ _ ?_).set_far _ _ ?_).set_far _ _ ?_) (fun a ha => by have := ho.2 a ha; omega) (by (repeat' (first | (with_reducible exact Below.refl _ _) | (with_reducible assumption) | (with_reducible refine Below.alloc ?_ ?_ _) | (with_reducible refine Below.setCell ?_ ?_ _) | (with_reducible refine Below.drew ?_) | (with_reducible refine below_drewN ?_ _) | (with_reducible refine Below.trans ?_ (Below.mono (by assumption) ?_)) | (with_reducible exact Nat.le_refl _) | (simp; done) | omega | (simp at *; omega))))
  all_goals (intro a ha; have h1 := ho.2 a ha; show w.heap.size + 1 ≠ a.block; omega)
theorem flat_set (l : List (Int × Int)) (n : Nat) (x y : Int) (h : n < l.length) (rest : List Value) : ((flat l ++ rest).set (n * 2) (.int .i64 x)).set (n * 2 + 1) (.int .i64 y) = flat (l.set n (x, y)) ++ rest := by
  have hl := flat_length l
  rw [List.set_append_left _ _ (by omega), List.set_append_left _ _ (by rw [List.length_set]; omega)]
  congr 1
  clear hl
  induction l generalizing n with
  | nil => simp at h
  | cons c l ih =>
    cases n with
    | zero => rfl
    | succ n =>
      have := ih n (by simpa using h)
      rw [show (n + 1) * 2 = n * 2 + 1 + 1 by omega]
      show ((Value.int .i64 c.1 :: Value.int .i64 c.2 :: flat l).set (n * 2 + 1 + 1) (Value.int .i64 x)).set (n * 2 + 1 + 1 + 1) (Value.int .i64 y) = Value.int .i64 c.1 :: Value.int .i64 c.2 :: flat (l.set n (x, y))
      rw [← this]
      rfl
def okPut (R C : Int) (l : List (Int × Int)) (i j x y : Int) : Bool := hasB R C l i j && good x y
def putL (R C : Int) (l : List (Int × Int)) (i j x y : Int) : List (Int × Int) := if okPut R C l i j x y then l.set (atI C i j) (x, y) else []
theorem putL_len (R C : Int) (l : List (Int × Int)) (i j x y : Int) (h : l.length ≤ 1048576) : (putL R C l i j x y).length ≤ 1048576 := by
  unfold putL
  split
  · rw [List.length_set]; exact h
  · simp
theorem putB_post {w w' : World} {R C : Int} {l : List (Int × Int)} {i j x y : Int} {e : Ending} {ok : Bool} (h : okPut R C l i j x y = ok) (hp : if ok then PostB w R C (l.set (atI C i j) (x, y)) true e w' else PostB w 0 0 [] false e w') :
    PostB w (selI (okPut R C l i j x y) R) (selI (okPut R C l i j x y) C) (putL R C l i j x y) (okPut R C l i j x y) e w' := by
  unfold putL
  rw [h]
  cases ok
  · exact hp
  · exact hp
end Go.Proofs.YtlnekfbhpfhcpaaGreat
