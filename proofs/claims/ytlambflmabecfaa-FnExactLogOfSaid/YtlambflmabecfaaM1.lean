/- Contracts of the program and of the model, walked, part 1 of 8. No condition but what each says. -/
import Derived.Test.YtlambflmabecfaaRows
import Derived.WalkKit
import Derived.ProofKit
import Derived.Handy
import Derived.Lib.Hide
import Derived.WalkSpells
import Derived.WalkLawsBesides
import Derived.BigQuiet
import Derived.Deep.QuietTactic
import Derived.ChangeCalls
import Derived.Deep.Fields
import Derived.Lib.SmallJoins
import Derived.StillTailTactics
import Derived.Deep.SlicePairs
import Derived.Laws.AppendOwnNone
import Derived.IntWalk
namespace Go.Proofs.Ytlambflmabecfaa
open Go.ChangeShapes Go.WideShapes Go.ChangeAt Go.RowKit Go.Joins Go.Deep
set_option linter.unusedSimpArgs false
set_option linter.unusedVariables false
/-- Every argument reads, in a world in which nothing old has turned, as it read before. -/
theorem args_back {H : Type} {enc : TypeId × Value → H} {P : Program} {W W' : World} (hl : laidOutB P = true) (hb : Below W.heap.size W W') :
    ∀ {ts : List TypeId} {vs : List Value} {ds : List (DataW H)} {ps : List MemPlace}, (∀ t ∈ ts, P.readableRec t = true ∧ t < P.types.size) →
      DataW.TrodAll enc P W 0 (fun _ => true) true ts vs ds ps → (∀ x ∈ ps, x.block < W.heap.size) →
      DataW.TrodAll enc P W' 0 (fun b => decide (b < W.heap.size)) true ts vs ds ps := by
  intro ts
  induction ts with
  | nil =>
    intro vs ds ps _ h _
    obtain ⟨rfl, rfl, rfl⟩ := trodAll_nil h
    exact trodAll_mk0
  | cons t ts ih =>
    intro vs ds ps hts h hlt
    obtain ⟨v0, vs0, d0, ds0, p0, q0, rfl, rfl, rfl, h0, r0⟩ := trodAll_cons h
    obtain ⟨h1, h2⟩ := hts t (List.mem_cons_self ..)
    exact trodAll_cons_mk (Below.trod hl h1 h2 h0 hb (fun x hx => hlt x (List.mem_append_left _ hx))) (ih (fun t' ht' => hts t' (List.mem_cons_of_mem _ ht')) r0 (fun x hx => hlt x (List.mem_append_right _ hx)))
/-- What a law's walk must give, whatever the arguments' shape. -/
def Walk (P : Program) (K : FuncId) (fn : Func) : Prop :=
  ∀ (H : Type) (enc : TypeId × Value → H) (W : World) (base : Nat) (args : Array Value) (ds : List (DataW H)) (ps : List MemPlace),
    DataW.TrodAll enc P W 0 (fun _ => true) true fn.params.toList args.toList ds ps →
    (∀ (j : Nat) t v, fn.params[j]? = some t → args[j]? = some v → Value.okWide P W .any base t v) →
    Calls P K args W fun e W' => e = .returned (.bool true) ∧ Below W.heap.size W W'
theorem lifted {C : Checked} {os : Os} {K : FuncId} {fn : Func} {s : ChangeSpec} (started : os.Started) {H : Type} {enc : TypeId × Value → H} {bt : TypeId}
    (own : ownKnob C.prog.godebug = none) (noInit : C.prog.inits.idxOf? K = none) (hfn : C.prog.funcs[K]? = some fn)
    (i : Input) (fuel : Nat)
    (hv : (World.plainHolding C.prog os i).variablesB C.prog = true)
    (hr : ((World.plainHolding C.prog os i).heap.toList.drop C.prog.globals.size).take ((begin C.prog (fun _ _ => 0) default).world.heap.size - C.prog.globals.size) =
      (begin C.prog (fun _ _ => 0) default).world.heap.toList.drop C.prog.globals.size)
    (hok : Input.okWideB C.prog (World.plainHolding C.prog os i) K ⟨#[], i.args, []⟩ = true)
    (hpre : s.preB enc C.prog fn [] false (World.plainHolding C.prog os i).memory i.args fuel = true)
    (hsz : s.sizedB enc C.prog fn false (World.plainHolding C.prog os i).memory i.args fuel = true)
    (hl : laidOutB C.prog = true) (hts : (fn.params.toList.all fun t => C.prog.readableRec t && decide (t < C.prog.types.size)) = true)
    (hvars : s.vars = []) (hbt : fn.resultTypes = #[bt]) (hub : C.prog.underlying bt = some .bool)
    (hspec : ∀ ds : List (DataW H), ds.length = fn.params.size → (s.fn H ds).results = [.lit (.bool true)] ∧ (s.fn H ds).args = ds ∧ (s.fn H ds).vars = [])
    (hwalk : Walk C.prog K fn) :
    ReturnsInHanded {} C os K .any (s.pre6 enc C.prog fn [] false) (s.post enc C.prog fn false true false false) := by
  refine returnsInHanded_of_change own started noInit hfn (ChangeSpec.witness6 (modest := false) i fuel hv hr hok hpre hsz) ?_
  intro W base args ds gs before hval hW _ _
  have hW' := hW
  obtain ⟨p, q, hA, hV, rfl, _, _⟩ := hW
  rw [hvars] at hV
  obtain ⟨rfl, rfl⟩ := trodVars_none hV
  simp only [List.append_nil] at hW'
  have hlen : ds.length = fn.params.size := by
    have := (trodAll_length hA).2
    simpa using this
  have hlt : ∀ x ∈ p, x.block < W.heap.size := fun x hx => hW'.lt x hx
  refine (hwalk H enc W base args ds p hA hval).mono fun e W' ⟨he, hb⟩ => ⟨_, he, ?_⟩
  obtain ⟨s1, s2, s3⟩ := hspec ds hlen
  have hts' : ∀ t ∈ fn.params.toList, C.prog.readableRec t = true ∧ t < C.prog.types.size := fun t ht => by
    have := List.all_eq_true.1 hts t ht
    simpa using this
  refine ⟨ds, [], p, [], p, [], hW', ?_, ?_, ?_, ?_, ?_⟩
  · rw [List.append_nil, s1, hbt]
    exact trodAll_mk1 (shut_bool hub _)
  · rw [List.append_nil, s2]
    exact args_back hl hb hts' hA hlt
  · rw [List.append_nil, s3, hvars]
    rfl
  · exact World.keptBut_mono (fun x hx => ⟨hx, .inr (.inl hx)⟩) (hb.frame (· ∈ p))
  · intro h; cases h

/-- A struct of two integers, by value. -/
theorem open_ints2 {H : Type} {enc : TypeId × Value → H} {P : Program} {w : World} {base : Nat} {spare : Nat → Bool} {held : Bool} {r : Reach} {b0 : Nat} {t : TypeId} {f0 f1 : Field} {v : Value} {d : DataW H} {p : List MemPlace}
    (hs : P.underlying t = some (.struct #[f0, f1])) (hone : oneCellFields P #[f0, f1] = true) (hC : P.cellsOf t = 2) (k0 : P.underlying f0.type = some (.int .i64)) (k1 : P.underlying f1.type = some (.int .i64))
    (hv : Value.okWide P w r b0 t v) (h : DataW.Trod enc P w base spare held t v d p) :
    ∃ a b : Int, v = .agg #[.int .i64 a, .int .i64 b] ∧ (Lit.int .i64 a).wf = true ∧ (Lit.int .i64 b).wf = true := by
  obtain ⟨c0, c1, y0, y1, m, rfl, _, _, hy0, hy1⟩ := Go.Joins.open_agg2 hs hone hC hv h
  obtain ⟨a, e0, _, wa⟩ := DataW.trod_int k0 hy0
  obtain ⟨b, e1, _, wb⟩ := DataW.trod_int k1 hy1
  simp at e0 e1
  subst e0 e1
  exact ⟨a, b, rfl, wa, wb⟩
theorem own : ownKnob Try.prog.godebug = none := by kernel_rfl
theorem laidOut : laidOutB Try.prog = true := by kernel_rfl
theorem ret_bool {a b : Bool} (h : a = b) : Ending.returned (.bool a) = .returned (.bool b) := by rw [h]
theorem ret_int {a b : Int} (h : a = b) : Ending.returned (.int .i64 a) = .returned (.int .i64 b) := by rw [h]
/-- What a callee that only grows the world leaves: old cells and old marks read as before. -/
theorem bcell {W w1 : World} (hb : Below W.heap.size W w1) : (∀ b o, b < W.heap.size → w1.cell? ⟨b, o, none⟩ = W.cell? ⟨b, o, none⟩) ∧ (∀ b o, b < W.heap.size → w1.frozen? ⟨b, o, none⟩ = W.frozen? ⟨b, o, none⟩) :=
  ⟨fun b o h => hb.cell (p := ⟨b, o, none⟩) h, fun b o h => hb.frozen (p := ⟨b, o, none⟩) h⟩
/-- A block that holds a cell is there. -/
theorem lt_of_cell {w : World} {a : Addr} {v : Value} (h : w.cell? a = some v) : a.block < w.heap.size := by
  rcases Nat.lt_or_ge a.block w.heap.size with hlt | hge
  · exact hlt
  · simp [World.cell?, Array.getElem?_eq_none hge] at h
end Go.Proofs.Ytlambflmabecfaa
namespace Go.Proofs.Ytlambflmabecfaa
open Go.ChangeShapes Go.WideShapes Go.ChangeAt Go.RowKit Go.Joins Go.Deep
set_option linter.unusedSimpArgs false
set_option linter.unusedVariables false
def turning (k : Int) : Bool := decide (k = 3 ∨ k = 6)
def good (k s : Int) : Bool := decide (0 ≤ k ∧ k ≤ 7 ∧ (s = 0 ∨ s = 1 ∧ (k = 3 ∨ k = 6)))
set_option maxHeartbeats 400000
theorem toCell_any (a b : Int) (w : World) :
    Calls Try.prog 66 #[.agg #[.int .i64 a, .int .i64 b]] w fun e w' => e = .returned (.agg #[.int .i64 a, .int .i64 b]) ∧ Below w.heap.size w w' := by
  go_enter Try.func66, Try.ntmps66
  go_wp2
  all_goals go_returns
  all_goals exact ⟨rfl, by go_grown⟩
theorem spec_l1In (a b c : Int) (w : World) :
    Calls Try.prog 54 #[.int .i64 a, .int .i64 b, .int .i64 c] w fun e w' => e = .returned (.bool (decide (b ≤ a) && decide (a ≤ c))) ∧ w = w' := by
  by_cases h1 : b ≤ a
  all_goals go_enter Try.func54, Try.ntmps54
  all_goals go_wp2
  all_goals go_returns
  all_goals exact ⟨ret_bool (by (first | rfl | (refine Bool.eq_iff_iff.2 ?_; simp only [Bool.and_eq_true, Bool.or_eq_true, Bool.not_eq_true', decide_eq_true_eq, decide_eq_false_iff_not, beq_iff_eq, bne_iff_ne, ne_eq, true_iff, iff_true, false_iff, iff_false, Bool.false_eq_true, Bool.true_eq_false] <;> omega) | (simp; omega))), rfl⟩
theorem spec_paTurning (a b : Int) (w : World) :
    Calls Try.prog 80 #[.agg #[.int .i64 a, .int .i64 b]] w fun e w' => e = .returned (.bool (turning a)) ∧ Below w.heap.size w w' := by
  go_enter Try.func80, Try.ntmps80
  go_wp2
  all_goals go_returns
  all_goals refine ⟨ret_bool (by unfold turning; (first | rfl | (refine Bool.eq_iff_iff.2 ?_; simp only [Bool.and_eq_true, Bool.or_eq_true, Bool.not_eq_true', decide_eq_true_eq, decide_eq_false_iff_not, beq_iff_eq, bne_iff_ne, ne_eq, true_iff, iff_true, false_iff, iff_false, Bool.false_eq_true, Bool.true_eq_false] <;> omega) | (simp; omega))), by go_grown⟩
theorem impl_isKind (a : Int) (w : World) :
    Calls Try.prog 97 #[.int .i64 a] w fun e w' => e = .returned (.bool (decide (0 ≤ a) && decide (a ≤ 7))) ∧ w = w' := by
  go_enter Try.func97, Try.ntmps97
  go_wp2
  all_goals go_returns
  all_goals refine ⟨ret_bool (by (first | rfl | (refine Bool.eq_iff_iff.2 ?_; simp only [Bool.and_eq_true, Bool.or_eq_true, Bool.not_eq_true', decide_eq_true_eq, decide_eq_false_iff_not, beq_iff_eq, bne_iff_ne, ne_eq, true_iff, iff_true, false_iff, iff_false, Bool.false_eq_true, Bool.true_eq_false] <;> omega) | (simp; omega))), rfl⟩
theorem impl_IsTurning (a b : Int) (w : World) :
    Calls Try.prog 98 #[.agg #[.int .i64 a, .int .i64 b]] w fun e w' => e = .returned (.bool (good a b && turning a)) ∧ Below w.heap.size w w' := by
  go_enter Try.func98, Try.ntmps98
  go_wp2
  all_goals go_returns
  all_goals refine ⟨ret_bool (by unfold turning good; (first | rfl | (refine Bool.eq_iff_iff.2 ?_; simp only [Bool.and_eq_true, Bool.or_eq_true, Bool.not_eq_true', decide_eq_true_eq, decide_eq_false_iff_not, beq_iff_eq, bne_iff_ne, ne_eq, true_iff, iff_true, false_iff, iff_false, Bool.false_eq_true, Bool.true_eq_false] <;> omega) | (simp; omega))), by go_grown⟩
theorem spec_paGood (a b : Int) (w : World) :
    Calls Try.prog 73 #[.agg #[.int .i64 a, .int .i64 b]] w fun e w' => e = .returned (.bool (good a b)) ∧ Below w.heap.size w w' := by
  go_enter Try.func73, Try.ntmps73
  go_wp2_with (first | (go_at_call 54; refine (spec_l1In _ _ _ _).mono ?_; rintro e w1 ⟨rfl, rfl⟩) | (go_at_call 80; refine (spec_paTurning _ _ _).mono ?_; rintro e w1 ⟨rfl, bw1⟩; obtain ⟨cw1, fw1⟩ := bcell bw1; have zw10 : w.heap.size < w1.heap.size := (by have := bw1.size; first | omega | (simp at this; omega))))
  all_goals go_returns
  all_goals refine ⟨ret_bool (by unfold good; first | (unfold turning; (first | rfl | (refine Bool.eq_iff_iff.2 ?_; simp only [Bool.and_eq_true, Bool.or_eq_true, Bool.not_eq_true', decide_eq_true_eq, decide_eq_false_iff_not, beq_iff_eq, bne_iff_ne, ne_eq, true_iff, iff_true, false_iff, iff_false, Bool.false_eq_true, Bool.true_eq_false] <;> omega) | (simp; omega))) | (first | rfl | (refine Bool.eq_iff_iff.2 ?_; simp only [Bool.and_eq_true, Bool.or_eq_true, Bool.not_eq_true', decide_eq_true_eq, decide_eq_false_iff_not, beq_iff_eq, bne_iff_ne, ne_eq, true_iff, iff_true, false_iff, iff_false, Bool.false_eq_true, Bool.true_eq_false] <;> omega) | (simp; omega))), by (repeat' (first | (with_reducible exact Below.refl _ _) | (with_reducible assumption) | (with_reducible refine Below.alloc ?_ ?_ _) | (with_reducible refine Below.setCell ?_ ?_ _) | (with_reducible refine Below.drew ?_) | (with_reducible refine below_drewN ?_ _) | (with_reducible refine Below.trans ?_ (Below.mono (by assumption) ?_)) | (with_reducible exact Nat.le_refl _) | (simp; done) | omega | (simp at *; omega)))⟩
theorem impl_IsCell (a b : Int) (w : World) :
    Calls Try.prog 92 #[.agg #[.int .i64 a, .int .i64 b]] w fun e w' => e = .returned (.bool (good a b)) ∧ Below w.heap.size w w' := by
  go_enter Try.func92, Try.ntmps92
  go_wp2_with (first | (go_at_call 97; refine (impl_isKind _ _).mono ?_; rintro e w1 ⟨rfl, rfl⟩) | (go_at_call 98; refine (impl_IsTurning _ _ _).mono ?_; rintro e w1 ⟨rfl, bw1⟩; obtain ⟨cw1, fw1⟩ := bcell bw1; have zw10 : w.heap.size < w1.heap.size := (by have := bw1.size; first | omega | (simp at this; omega))))
  all_goals go_returns
  all_goals refine ⟨ret_bool (by unfold good; first | (unfold turning; (first | rfl | (refine Bool.eq_iff_iff.2 ?_; simp only [Bool.and_eq_true, Bool.or_eq_true, Bool.not_eq_true', decide_eq_true_eq, decide_eq_false_iff_not, beq_iff_eq, bne_iff_ne, ne_eq, true_iff, iff_true, false_iff, iff_false, Bool.false_eq_true, Bool.true_eq_false] <;> omega) | (simp; omega))) | (first | rfl | (refine Bool.eq_iff_iff.2 ?_; simp only [Bool.and_eq_true, Bool.or_eq_true, Bool.not_eq_true', decide_eq_true_eq, decide_eq_false_iff_not, beq_iff_eq, bne_iff_ne, ne_eq, true_iff, iff_true, false_iff, iff_false, Bool.false_eq_true, Bool.true_eq_false] <;> omega) | (simp; omega))), by (repeat' (first | (with_reducible exact Below.refl _ _) | (with_reducible assumption) | (with_reducible refine Below.alloc ?_ ?_ _) | (with_reducible refine Below.setCell ?_ ?_ _) | (with_reducible refine Below.drew ?_) | (with_reducible refine below_drewN ?_ _) | (with_reducible refine Below.trans ?_ (Below.mono (by assumption) ?_)) | (with_reducible exact Nat.le_refl _) | (simp; done) | omega | (simp at *; omega)))⟩
/-- A field of a result that is zero where the call fails. -/
def selI (ok : Bool) (x : Int) : Int := if ok then x else 0
theorem ret_cellb {a b c d : Int} {x y : Bool} (h : x = y) (h1 : y = true → a = c) (h2 : y = true → b = d) (h3 : y = false → a = 0) (h4 : y = false → b = 0) :
    Ending.returned (.tuple #[.agg #[.int .i64 a, .int .i64 b], .bool x]) = .returned (.tuple #[.agg #[.int .i64 (selI y c), .int .i64 (selI y d)], .bool y]) := by
  subst h
  cases x
  · rw [h3 rfl, h4 rfl]; rfl
  · rw [h1 rfl, h2 rfl]; rfl
theorem ret_eq {v u : Value} (h : v = u) : Ending.returned v = .returned u := by rw [h]
theorem spec_paTurn (a b : Int) (h : good a b = true) (w : World) :
    Calls Try.prog 96 #[.agg #[.int .i64 a, .int .i64 b]] w fun e w' => e = .returned (.agg #[.int .i64 a, .int .i64 (1 - b)]) ∧ Below w.heap.size w w' := by
  have h0 : 0 ≤ b := by unfold good at h; simp at h; omega
  have h1 : b ≤ 1 := by unfold good at h; simp at h; omega
  clear h
  go_enter Try.func96, Try.ntmps96
  go_wp2
  all_goals go_returns
  all_goals exact ⟨rfl, by (repeat' (first | (with_reducible exact Below.refl _ _) | (with_reducible assumption) | (with_reducible refine Below.alloc ?_ ?_ _) | (with_reducible refine Below.setCell ?_ ?_ _) | (with_reducible refine Below.drew ?_) | (with_reducible refine below_drewN ?_ _) | (with_reducible refine Below.trans ?_ (Below.mono (by assumption) ?_)) | (with_reducible exact Nat.le_refl _) | (simp; done) | omega | (simp at *; omega)))⟩
theorem impl_TurnCell (a b : Int) (w : World) :
    Calls Try.prog 94 #[.agg #[.int .i64 a, .int .i64 b]] w fun e w' => e = .returned (.tuple #[.agg #[.int .i64 (selI (good a b && turning a) a), .int .i64 (selI (good a b && turning a) (1 - b))], .bool (good a b && turning a)]) ∧ Below w.heap.size w w' := by
  by_cases hg : (good a b && turning a) = true
  · have h0 : 0 ≤ b := by unfold good at hg; simp at hg; omega
    have h1 : b ≤ 1 := by unfold good at hg; simp at hg; omega
    go_enter Try.func94, Try.ntmps94
    go_wp2_with (first | (go_at_call 98; refine (impl_IsTurning _ _ _).mono ?_; rintro e w1 ⟨rfl, bw1⟩; obtain ⟨cw1, fw1⟩ := bcell bw1; have zw10 : w.heap.size < w1.heap.size := (by have := bw1.size; first | omega | (simp at this; omega)); have zw11 : w.heap.size + 1 < w1.heap.size := (by have := bw1.size; first | omega | (simp at this; omega))))
    all_goals first | (refine bodyPost_ret (v := .tuple #[.agg #[.int .i64 0, .int .i64 0], .bool false]) ?_ rfl ?_; (focus (simp [results, Try.results94, go_sem, *]; done))) | (refine bodyPost_ret (v := .tuple #[.agg #[.int .i64 a, .int .i64 (1 - b)], .bool true]) ?_ rfl ?_; (focus (simp [results, Try.results94, go_sem, *]; done)))
    all_goals refine ⟨by refine ret_cellb ?_ ?_ ?_ ?_ ?_ <;> first | rfl | (simp_all; done) | (intros; rfl), by (repeat' (first | (with_reducible exact Below.refl _ _) | (with_reducible assumption) | (with_reducible refine Below.alloc ?_ ?_ _) | (with_reducible refine Below.setCell ?_ ?_ _) | (with_reducible refine Below.drew ?_) | (with_reducible refine below_drewN ?_ _) | (with_reducible refine Below.trans ?_ (Below.mono (by assumption) ?_)) | (with_reducible exact Nat.le_refl _) | (simp; done) | omega | (simp at *; omega)))⟩
  · have hg' : (good a b && turning a) = false := by simpa using hg
    clear hg
    go_enter Try.func94, Try.ntmps94
    go_wp2_with (first | (go_at_call 98; refine (impl_IsTurning _ _ _).mono ?_; rintro e w1 ⟨rfl, bw1⟩; obtain ⟨cw1, fw1⟩ := bcell bw1; have zw10 : w.heap.size < w1.heap.size := (by have := bw1.size; first | omega | (simp at this; omega)); have zw11 : w.heap.size + 1 < w1.heap.size := (by have := bw1.size; first | omega | (simp at this; omega))))
    all_goals first | (refine bodyPost_ret (v := .tuple #[.agg #[.int .i64 0, .int .i64 0], .bool false]) ?_ rfl ?_; (focus (simp [results, Try.results94, go_sem, *]; done))) | (refine bodyPost_ret (v := .tuple #[.agg #[.int .i64 a, .int .i64 (1 - b)], .bool true]) ?_ rfl ?_; (focus (simp [results, Try.results94, go_sem, *]; done)))
    all_goals refine ⟨by refine ret_cellb ?_ ?_ ?_ ?_ ?_ <;> first | rfl | (simp_all; done) | (intros; rfl), by (repeat' (first | (with_reducible exact Below.refl _ _) | (with_reducible assumption) | (with_reducible refine Below.alloc ?_ ?_ _) | (with_reducible refine Below.setCell ?_ ?_ _) | (with_reducible refine Below.drew ?_) | (with_reducible refine below_drewN ?_ _) | (with_reducible refine Below.trans ?_ (Below.mono (by assumption) ?_)) | (with_reducible exact Nat.le_refl _) | (simp; done) | omega | (simp at *; omega)))⟩
theorem eqCell_any (a b c d : Int) (w : World) :
    Calls Try.prog 72 #[.agg #[.int .i64 a, .int .i64 b], .agg #[.int .i64 c, .int .i64 d]] w fun e w' => e = .returned (.bool (decide (a = c ∧ b = d))) ∧ Below w.heap.size w w' := by
  go_enter Try.func72, Try.ntmps72
  go_wp2
  all_goals go_returns
  all_goals refine ⟨ret_bool (by first | (first | rfl | (refine Bool.eq_iff_iff.2 ?_; simp only [Bool.and_eq_true, Bool.or_eq_true, Bool.not_eq_true', decide_eq_true_eq, decide_eq_false_iff_not, beq_iff_eq, bne_iff_ne, ne_eq, true_iff, iff_true, false_iff, iff_false, Bool.false_eq_true, Bool.true_eq_false] <;> omega) | (simp; omega)) | (refine Bool.eq_iff_iff.2 ?_; simp only [Bool.and_eq_true, Bool.or_eq_true, Bool.not_eq_true', decide_eq_true_eq, decide_eq_false_iff_not, beq_iff_eq, bne_iff_ne, ne_eq, true_iff, iff_true, false_iff, iff_false, Bool.false_eq_true, Bool.true_eq_false, beq_eq_false_iff_ne, bne_eq_false_iff_eq, Bool.not_eq_false, Bool.not_eq_true, Bool.not_eq_eq_eq_not, Bool.not_true, Bool.not_false, Bool.and_eq_false_imp, Bool.or_eq_false_iff] at * <;> omega) | trace_state), by (repeat' (first | (with_reducible exact Below.refl _ _) | (with_reducible assumption) | (with_reducible refine Below.alloc ?_ ?_ _) | (with_reducible refine Below.setCell ?_ ?_ _) | (with_reducible refine Below.drew ?_) | (with_reducible refine below_drewN ?_ _) | (with_reducible refine Below.trans ?_ (Below.mono (by assumption) ?_)) | (with_reducible exact Nat.le_refl _) | (simp; done) | omega | (simp at *; omega)))⟩
end Go.Proofs.Ytlambflmabecfaa
namespace Go.Proofs.Ytlambflmabecfaa
open Go.ChangeShapes Go.WideShapes Go.ChangeAt Go.RowKit Go.Joins Go.Deep
set_option linter.unusedSimpArgs false
set_option linter.unusedVariables false
set_option maxRecDepth 100000
set_option maxHeartbeats 400000
/-- The cells of a list, as memory holds them: two words each. -/
def flat (l : List (Int × Int)) : List Value := l.flatMap fun c => [.int .i64 c.1, .int .i64 c.2]
/-- The slice that begins at A reads as these words; it lies below block B. -/
def Rd (w : World) (B : Nat) (A : Option Addr) (xs : List Value) : Prop :=
  0 < xs.length → ∃ b o, A = some ⟨b, o, none⟩ ∧ b < B ∧ ∀ j u, xs[j]? = some u → w.cell? ⟨b, o + j, none⟩ = some u
theorem Rd.below {w w' : World} {B : Nat} {A : Option Addr} {xs : List Value} (h : Rd w B A xs) (hb : Below B w w') : Rd w' B A xs := fun hx => by
  obtain ⟨b, o, e, hlt, hc⟩ := h hx
  exact ⟨b, o, e, hlt, fun j u hu => (hb.cell (p := ⟨b, o + j, none⟩) hlt).trans (hc j u hu)⟩
theorem Rd.mono {w : World} {B B' : Nat} {A : Option Addr} {xs : List Value} (h : Rd w B A xs) (hB : B ≤ B') : Rd w B' A xs := fun hx => by
  obtain ⟨b, o, e, hlt, hc⟩ := h hx
  exact ⟨b, o, e, Nat.lt_of_lt_of_le hlt hB, hc⟩
/-- Block g holds just these words, of element type t, none of them frozen. -/
def Whole (w : World) (g : Nat) (t : TypeId) (xs : List Value) : Prop := w.heap[g]? = some (.cells xs.toArray t (0, 0))
theorem Whole.lt {w : World} {g : Nat} {t : TypeId} {xs : List Value} (h : Whole w g t xs) : g < w.heap.size := by
  rcases Nat.lt_or_ge g w.heap.size with hlt | hge
  · exact hlt
  · unfold Whole at h
    rw [Array.getElem?_eq_none hge] at h
    cases h
theorem Whole.cell {w : World} {g : Nat} {t : TypeId} {xs : List Value} (h : Whole w g t xs) (j : Nat) : w.cell? ⟨g, j, none⟩ = xs[j]? := by
  have := cell_of_row w g j xs.toArray t (0, 0) h
  simpa using this
theorem Whole.frozen {w : World} {g : Nat} {t : TypeId} {xs : List Value} (h : Whole w g t xs) (j : Nat) : w.frozen? ⟨g, j, none⟩ = false := by
  unfold Whole at h
  simp [World.frozen?, h]
theorem Whole.below {w w' : World} {B g : Nat} {t : TypeId} {xs : List Value} (h : Whole w g t xs) (hb : Below B w w') (hg : g < B) : Whole w' g t xs := (hb.block g hg).trans h
theorem Whole.alloc {w : World} {g : Nat} {t : TypeId} {xs : List Value} (h : Whole w g t xs) (o : Obj) : Whole (w.alloc o) g t xs := (Below.heap_alloc w o g h.lt).trans h
theorem Whole.set {w : World} {g : Nat} {t : TypeId} {xs : List Value} (h : Whole w g t xs) (j : Nat) (u : Value) : Whole (w.setCell ⟨g, j, none⟩ u) g t (xs.set j u) := by
  unfold Whole at h ⊢
  simp [World.setCell, Array.getElem?_modify, h]
theorem Whole.rd {w : World} {g : Nat} {t : TypeId} {xs : List Value} (h : Whole w g t xs) {B : Nat} (hB : g < B) : Rd w B (some ⟨g, 0, none⟩) xs := fun _ =>
  ⟨g, 0, rfl, hB, fun j u hu => by rw [Nat.zero_add, h.cell]; exact hu⟩
theorem flat_length (l : List (Int × Int)) : (flat l).length = 2 * l.length := by
  induction l with
  | nil => rfl
  | cons c l ih => simp [flat] at ih ⊢; omega
theorem flat_at (l : List (Int × Int)) (k : Nat) (h : k < l.length) : (flat l)[k * 2]? = some (.int .i64 l[k].1) ∧ (flat l)[k * 2 + 1]? = some (.int .i64 l[k].2) := by
  induction l generalizing k with
  | nil => simp at h
  | cons c l ih =>
    cases k with
    | zero => exact ⟨rfl, rfl⟩
    | succ k =>
      have := ih k (by simpa using h)
      have e1 : (flat (c :: l))[(k + 1) * 2]? = (flat l)[k * 2]? := by rw [show (k + 1) * 2 = k * 2 + 1 + 1 by omega]; rfl
      have e2 : (flat (c :: l))[(k + 1) * 2 + 1]? = (flat l)[k * 2 + 1]? := by rw [show (k + 1) * 2 = k * 2 + 1 + 1 by omega]; rfl
      rw [e1, e2]
      exact this
theorem cellInfo : (Try.prog.info? 104).map (fun i => (i.zero, i.size, i.bytes)) = some (some (.agg #[.int .i64 0, .int .i64 0]), 2, 16) := by kernel_rfl
/-- n zero words. -/
def zrow (n : Nat) : List Value := List.replicate n (.int .i64 0)
theorem made_cells (n : Nat) : madeCells (Value.agg #[.int .i64 0, .int .i64 0]).cells (n * 2) = (zrow (2 * n)).toArray := by
  apply Array.ext
  · simp [madeCells, zrow]; omega
  · intro i h1 h2
    have h3 : i % 2 = 0 ∨ i % 2 = 1 := by omega
    rcases h3 with h3 | h3 <;> simp [madeCells, zrow, Value.cells, h3]
theorem run_make_cells (n : Nat) (hn : n ≤ 1048576) (w : World) :
    (Instr.makeSlice 37 (.int .i64 (n : Int)) (.int .i64 (n : Int))).run Try.prog w = .ok (.slice (some ⟨w.heap.size, 0, none⟩) n n) (w.alloc (.cells (zrow (2 * n)).toArray 104)) := by
  obtain ⟨i0, hi, hz0, hz1, hz2⟩ := info_parts cellInfo
  have h := run_make (P := Try.prog) w 37 104 i0 _ Try.underlying37 hi hz0 .i64 .i64 (n : Int) (n : Int) (by omega) (by omega) (by rw [hz2]; omega) (by omega)
  rw [hz1] at h
  simp only [Int.toNat_natCast] at h
  rw [h, made_cells]
/-- What the copy holds after k rounds. -/
def part (l : List (Int × Int)) (k : Nat) : List Value := flat (l.take k) ++ zrow (2 * (l.length - k))
theorem part_zero (l : List (Int × Int)) : part l 0 = zrow (2 * l.length) := by simp [part, flat]
theorem part_all (l : List (Int × Int)) : part l l.length = flat l := by simp [part, zrow]
theorem part_at (l : List (Int × Int)) (k : Nat) (h : k < l.length) : (part l k)[k * 2]? = some (.int .i64 0) ∧ (part l k)[k * 2 + 1]? = some (.int .i64 0) := by
  have e : (flat (l.take k)).length = k * 2 := by rw [flat_length, List.length_take]; omega
  constructor
  · rw [part, List.getElem?_append_right (by omega), e]
    rw [zrow, List.getElem?_replicate, if_pos (by omega)]
  · rw [part, List.getElem?_append_right (by omega), e]
    rw [zrow, List.getElem?_replicate, if_pos (by omega)]
theorem part_step (l : List (Int × Int)) (k : Nat) (h : k < l.length) : ((part l k).set (k * 2) (.int .i64 l[k].1)).set (k * 2 + 1) (.int .i64 l[k].2) = part l (k + 1) := by
  have e : (flat (l.take k)).length = k * 2 := by rw [flat_length, List.length_take]; omega
  have ez : zrow (2 * (l.length - k)) = .int .i64 0 :: .int .i64 0 :: zrow (2 * (l.length - (k + 1))) := by
    rw [show 2 * (l.length - k) = 2 * (l.length - (k + 1)) + 1 + 1 by omega]
    rfl
  have ef : flat (l.take (k + 1)) = flat (l.take k) ++ [.int .i64 l[k].1, .int .i64 l[k].2] := by
    rw [List.take_succ_eq_append_getElem h]
    simp only [flat, List.flatMap_append, List.flatMap_cons, List.flatMap_nil, List.append_nil]
  rw [part, part, ez, ef, List.set_append_right _ _ (by omega), List.set_append_right _ _ (by omega), e]
  rw [Nat.sub_self, show k * 2 + 1 - k * 2 = 1 by omega]
  simp
theorem toCellS_any (A : Option Addr) (cap : Nat) (l : List (Int × Int)) (w : World) (hn : l.length ≤ 1048576) (hr : Rd w w.heap.size A (flat l)) :
    Calls Try.prog 56 #[.slice A l.length cap] w fun e w' => e = .returned (.slice (some ⟨w.heap.size, 0, none⟩) l.length l.length) ∧ Whole w' w.heap.size 104 (flat l) ∧ Below w.heap.size w w' := by
  have hmk := run_make_cells l.length hn
  go_enter Try.func56, Try.ntmps56
  go_wp2_with (fail)
  go_loopw [4] (fun i wr => ∃ k : Nat, k ≤ l.length ∧ i = .int .i64 k ∧ Whole wr w.heap.size 104 (part l k) ∧ Below w.heap.size w wr) (fun i _ => l.length - (intOf i).toNat)
  case atStart => exact ⟨0, Nat.zero_le _, rfl, by rw [part_zero]; exact heap_alloc_new w _, by (repeat' (first | (with_reducible exact Below.refl _ _) | (with_reducible assumption) | (with_reducible refine Below.alloc ?_ ?_ _) | (with_reducible refine Below.setCell ?_ ?_ _) | (with_reducible refine Below.drew ?_) | (with_reducible refine below_drewN ?_ _) | (with_reducible refine Below.trans ?_ (Below.mono (by assumption) ?_)) | (with_reducible exact Nat.le_refl _) | (simp; done) | omega | (simp at *; omega)))⟩
  case round =>
    obtain ⟨k, hk, rfl, hw, hb⟩ := hrel
    by_cases hlt : k < l.length
    · obtain ⟨b, o, rfl, hbl, hc⟩ := hr (by rw [flat_length]; omega)
      have hc0 : wr.cell? ⟨b, o + k * 2, none⟩ = some (.int .i64 l[k].1) := (hb.cell (p := ⟨b, _, none⟩) hbl).trans (hc _ _ (flat_at l k hlt).1)
      have hc1 : wr.cell? ⟨b, o + k * 2 + 1, none⟩ = some (.int .i64 l[k].2) := (hb.cell (p := ⟨b, _, none⟩) hbl).trans (hc _ _ (flat_at l k hlt).2)
      have hs : w.heap.size < wr.heap.size := hw.lt
      have HP := Lib.hid (part_step l k hlt)
      obtain ⟨pa, pb⟩ := part_at l k hlt
      generalize l[k].1 = x at *
      generalize l[k].2 = y at *
      clear hr hc
      go_wp2_with fail
      refine (toCell_any _ _ _).mono ?_; rintro e w1 ⟨rfl, b1⟩
      have hw1 := hw.below b1 hs
      have q0 : w1.cell? ⟨w.heap.size, k * 2, none⟩ = some (.int .i64 0) := by rw [hw1.cell]; exact pa
      have q1 : w1.cell? ⟨w.heap.size, k * 2 + 1, none⟩ = some (.int .i64 0) := by rw [hw1.cell]; exact pb
      have f0 : w1.frozen? ⟨w.heap.size, k * 2, none⟩ = false := hw1.frozen _
      have f1 : w1.frozen? ⟨w.heap.size, k * 2 + 1, none⟩ = false := hw1.frozen _
      clear pa pb hc0 hc1
      go_wp2
      go_roundw
      case rel => exact ⟨k + 1, by omega, by go_num, by rw [← HP.out]; exact (hw1.set _ _).set _ _, by (repeat' (first | (with_reducible exact Below.refl _ _) | (with_reducible assumption) | (with_reducible refine Below.alloc ?_ ?_ _) | (with_reducible refine Below.setCell ?_ ?_ _) | (with_reducible refine Below.drew ?_) | (with_reducible refine below_drewN ?_ _) | (with_reducible refine Below.trans ?_ (Below.mono (by assumption) ?_)) | (with_reducible exact Nat.le_refl _) | (simp; done) | omega | (simp at *; omega)))⟩
      case measure => simp [intOf]; omega
    · obtain rfl : k = l.length := by omega
      rw [part_all] at hw
      go_wp2
      go_returns
      exact ⟨rfl, hw, hb⟩
end Go.Proofs.Ytlambflmabecfaa
namespace Go.Proofs.Ytlambflmabecfaa
open Go.ChangeShapes Go.WideShapes Go.ChangeAt Go.RowKit Go.Joins Go.Deep
set_option linter.unusedSimpArgs false
set_option linter.unusedVariables false
set_option maxRecDepth 100000
set_option maxHeartbeats 400000
theorem szCellS_any (A : Option Addr) (n cap : Nat) (left : Int) (w : World) (hn : n ≤ maxLen) (h0 : 0 ≤ left) (h1 : left ≤ 1048576) :
    Calls Try.prog 52 #[.slice A n cap, .int .i64 left] w fun e w' => e = .returned (.int .i64 (if left < n then -1 else left - n)) ∧ w = w' := by
  unfold maxLen at hn
  go_enter Try.func52, Try.ntmps52
  go_wp2
  all_goals go_returns
  all_goals refine ⟨ret_int (by (repeat' split) <;> omega), rfl⟩
theorem flat_inj : ∀ {l m : List (Int × Int)}, flat l = flat m → l = m := by
  intro l
  induction l with
  | nil => intro m h; cases m with
    | nil => rfl
    | cons c m => cases h
  | cons c l ih => intro m h; cases m with
    | nil => cases h
    | cons d m =>
      have h' : Value.int .i64 c.1 :: .int .i64 c.2 :: flat l = .int .i64 d.1 :: .int .i64 d.2 :: flat m := h
      simp only [List.cons.injEq, Value.int.injEq, true_and] at h'
      rw [ih h'.2.2, Prod.ext h'.1 h'.2.1]
theorem take_step {l m : List (Int × Int)} {k : Nat} (h1 : k < l.length) (h2 : k < m.length) (h : l.take k = m.take k) : l[k].1 = m[k].1 → l[k].2 = m[k].2 → l.take (k + 1) = m.take (k + 1) := fun a b => by
  rw [List.take_succ_eq_append_getElem h1, List.take_succ_eq_append_getElem h2, h, Prod.ext a b]
set_option maxRecDepth 100000 in
theorem eqCellS_any (A A' : Option Addr) (cap cap' : Nat) (l m : List (Int × Int)) (w : World) (hn : l.length ≤ 1048576) (hm : m.length ≤ 1048576) (hr : Rd w w.heap.size A (flat l)) (hr' : Rd w w.heap.size A' (flat m)) :
    Calls Try.prog 60 #[.slice A l.length cap, .slice A' m.length cap'] w fun e w' => e = .returned (.bool (decide (l = m))) ∧ Below w.heap.size w w' := by
  by_cases hlm : l.length = m.length
  · have hlb : ((l.length : Int) != (m.length : Int)) = false := by simp [hlm]
    rw [← hlm] at hlb ⊢
    have HL := Lib.hid hlm
    clear hlm
    go_enter Try.func60, Try.ntmps60
    go_wp2
    go_loopw [5] (fun i wr => ∃ k : Nat, k ≤ l.length ∧ i = .int .i64 k ∧ l.take k = m.take k ∧ Below w.heap.size w wr) (fun i _ => l.length - (intOf i).toNat)
    case atStart => exact ⟨0, Nat.zero_le _, rfl, rfl, by (repeat' (first | (with_reducible exact Below.refl _ _) | (with_reducible assumption) | (with_reducible refine Below.alloc ?_ ?_ _) | (with_reducible refine Below.setCell ?_ ?_ _) | (with_reducible refine Below.drew ?_) | (with_reducible refine below_drewN ?_ _) | (with_reducible refine Below.trans ?_ (Below.mono (by assumption) ?_)) | (with_reducible exact Nat.le_refl _) | (simp; done) | omega | (simp at *; omega)))⟩
    case round =>
      obtain ⟨k, hk, rfl, heq, hb⟩ := hrel
      by_cases hlt : k < l.length
      · obtain ⟨b, o, rfl, hbl, hc⟩ := hr (by rw [flat_length]; omega)
        obtain ⟨b', o', rfl, hbl', hc'⟩ := hr' (by have := HL.out; rw [flat_length]; omega)
        have hltm : k < m.length := by have := HL.out; omega
        have hc0 : wr.cell? ⟨b, o + k * 2, none⟩ = some (.int .i64 l[k].1) := (hb.cell (p := ⟨b, _, none⟩) hbl).trans (hc _ _ (flat_at l k hlt).1)
        have hc1 : wr.cell? ⟨b, o + k * 2 + 1, none⟩ = some (.int .i64 l[k].2) := (hb.cell (p := ⟨b, _, none⟩) hbl).trans (hc _ _ (flat_at l k hlt).2)
        have hd0 : wr.cell? ⟨b', o' + k * 2, none⟩ = some (.int .i64 m[k].1) := (hb.cell (p := ⟨b', _, none⟩) hbl').trans (hc' _ _ (flat_at m k hltm).1)
        have hd1 : wr.cell? ⟨b', o' + k * 2 + 1, none⟩ = some (.int .i64 m[k].2) := (hb.cell (p := ⟨b', _, none⟩) hbl').trans (hc' _ _ (flat_at m k hltm).2)
        have hs : w.heap.size ≤ wr.heap.size := hb.size
        clear hr hr' hc hc'
        have HT := Lib.hid (take_step hlt hltm heq)
        have HN := Lib.hid (fun (h : l = m) => (show l[k].1 = m[k].1 ∧ l[k].2 = m[k].2 by subst h; exact ⟨rfl, rfl⟩))
        clear heq
        generalize l[k].1 = x at *
        generalize l[k].2 = y at *
        generalize m[k].1 = x' at *
        generalize m[k].2 = y' at *
        go_wp2_with fail
        go_still_tail 8, (by kernel_rfl)
        change wpList _ _ _ _ _ wr.drew
        have hb2 : Below w.heap.size w wr.drew := hb.drew
        have hs2 : w.heap.size ≤ wr.drew.heap.size := hs
        generalize wr.drew = w2 at *
        clear hc0 hc1 hd0 hd1 hb
        go_wp2_with fail
        by_cases hxy : x = x' ∧ y = y'
        · refine (eqCell_any _ _ _ _ _).mono ?_; rintro e w3 ⟨rfl, b3⟩
          rw [show decide (x = x' ∧ y = y') = true by simpa using hxy]
          have HX := Lib.hid hxy
          clear hxy
          go_wp2
          go_roundw
          case rel => exact ⟨k + 1, by omega, by go_num, HT.out HX.out.1 HX.out.2, by (repeat' (first | (with_reducible exact Below.refl _ _) | (with_reducible assumption) | (with_reducible refine Below.alloc ?_ ?_ _) | (with_reducible refine Below.setCell ?_ ?_ _) | (with_reducible refine Below.drew ?_) | (with_reducible refine below_drewN ?_ _) | (with_reducible refine Below.trans ?_ (Below.mono (by assumption) ?_)) | (with_reducible exact Nat.le_refl _) | (simp; done) | omega | (simp at *; omega)))⟩
          case measure => simp [intOf]; omega
        · refine (eqCell_any _ _ _ _ _).mono ?_; rintro e w3 ⟨rfl, b3⟩
          rw [show decide (x = x' ∧ y = y') = false by simpa using hxy]
          have HX := Lib.hid hxy
          clear hxy
          go_wp2
          go_returns
          exact ⟨ret_bool (decide_eq_false (fun h => HX.out (HN.out h))).symm, by (repeat' (first | (with_reducible exact Below.refl _ _) | (with_reducible assumption) | (with_reducible refine Below.alloc ?_ ?_ _) | (with_reducible refine Below.setCell ?_ ?_ _) | (with_reducible refine Below.drew ?_) | (with_reducible refine below_drewN ?_ _) | (with_reducible refine Below.trans ?_ (Below.mono (by assumption) ?_)) | (with_reducible exact Nat.le_refl _) | (simp; done) | omega | (simp at *; omega)))⟩
      · obtain rfl : k = l.length := by omega
        rw [List.take_length, HL.out, List.take_length] at heq
        have HQ := Lib.hid heq
        clear heq
        go_wp2
        go_returns
        exact ⟨ret_bool (decide_eq_true HQ.out).symm, hb⟩
  · have hlb : ((l.length : Int) != (m.length : Int)) = true := by simp; omega
    go_enter Try.func60, Try.ntmps60
    go_wp2
    go_returns
    exact ⟨ret_bool (by simp; intro h; exact hlm (by rw [h])), by (repeat' (first | (with_reducible exact Below.refl _ _) | (with_reducible assumption) | (with_reducible refine Below.alloc ?_ ?_ _) | (with_reducible refine Below.setCell ?_ ?_ _) | (with_reducible refine Below.drew ?_) | (with_reducible refine below_drewN ?_ _) | (with_reducible refine Below.trans ?_ (Below.mono (by assumption) ?_)) | (with_reducible exact Nat.le_refl _) | (simp; done) | omega | (simp at *; omega)))⟩
end Go.Proofs.Ytlambflmabecfaa
namespace Go.Proofs.Ytlambflmabecfaa
open Go.ChangeShapes Go.WideShapes Go.ChangeAt Go.RowKit Go.Joins Go.Deep
set_option linter.unusedSimpArgs false
set_option linter.unusedVariables false
set_option maxRecDepth 100000
set_option maxHeartbeats 400000
/-- The numbers k, k + 1, .. as words. -/
def marks (k : Int) : Nat → List Value
  | 0 => []
  | n + 1 => .int .i64 k :: marks (k + 1) n
theorem marks_length (k : Int) (n : Nat) : (marks k n).length = n := by
  induction n generalizing k with
  | zero => rfl
  | succ n ih => simp [marks, ih]
theorem marks_at (k : Int) (n i : Nat) (h : i < n) : (marks k n)[i]? = some (.int .i64 (k + i)) := by
  induction n generalizing k i with
  | zero => omega
  | succ n ih =>
    cases i with
    | zero => simp [marks]
    | succ i => simp only [marks, List.getElem?_cons_succ]; rw [ih (k + 1) i (by omega)]; congr 2; omega
theorem marks_snoc (k : Int) (n : Nat) : marks k (n + 1) = marks k n ++ [.int .i64 (k + n)] := by
  induction n generalizing k with
  | zero => simp [marks]
  | succ n ih =>
    have := ih (k + 1)
    rw [marks, this]
    simp only [marks, List.cons_append, List.cons.injEq, true_and]
    congr 3; omega
/-- A slice of the call's own: nil, or at the head of a block that begins with these words. -/
def Own (w : World) (A : Option Addr) (t : TypeId) (xs : List Value) : Prop :=
  0 < xs.length → ∃ g rest, A = some ⟨g, 0, none⟩ ∧ Whole w g t (xs ++ rest)
/-- Only the block of A, and what is new, has turned. -/
def Only (w w' : World) (A : Option Addr) : Prop := w.grownBy w' (A.map (·.block))
theorem marked_step (k : Int) (xs rest : List Value) (i : Nat) (h : i < xs.length) : ((marks k i ++ xs.drop i) ++ rest).set i (.int .i64 (k + i)) = (marks k (i + 1) ++ xs.drop (i + 1)) ++ rest := by
  rw [marks_snoc, List.append_assoc, List.set_append_right _ _ (by rw [marks_length]; omega), marks_length, Nat.sub_self]
  rw [List.drop_eq_getElem_cons h, List.cons_append, List.set_cons_zero]
  simp only [List.append_assoc, List.singleton_append, List.cons_append, List.nil_append]
theorem marked_at (k : Int) (xs rest : List Value) (i : Nat) (h : i < xs.length) : ∃ u, ((marks k i ++ xs.drop i) ++ rest)[i]? = some u := by
  refine ⟨xs[i], ?_⟩
  rw [List.append_assoc, List.getElem?_append_right (by rw [marks_length]; omega), marks_length, Nat.sub_self, List.getElem?_append_left (by simp; omega)]
  simp
theorem only_setCell {w wr : World} {g : Nat} (h : w.grownBy wr (some g)) (j : Nat) (u : Value) : w.grownBy (wr.setCell ⟨g, j, none⟩ u) (some g) :=
  ⟨h.os, h.tape, h.output, by simpa [World.setCell] using h.size, fun i hi hne => (Below.heap_setCell wr ⟨g, j, none⟩ u i (fun e => hne (by rw [e]))).trans (h.block i hi hne)⟩
theorem markIntS_any (A : Option Addr) (cap n : Nat) (xs : List Value) (k : Int) (w : World) (hx : xs.length = n) (hn : n ≤ 1048576) (h0 : 0 ≤ k) (h1 : k ≤ 16777216) (ho : Own w A 3 xs) :
    Calls Try.prog 26 #[.slice A n cap, .int .i64 k] w fun e w' => e = .returned (.int .i64 (k + n)) ∧ Own w' A 3 (marks k n) ∧ Only w w' A := by
  subst hx
  rcases Nat.eq_zero_or_pos xs.length with hz | hp
  · rw [hz]
    go_enter Try.func26, Try.ntmps26
    go_wp2
    go_rounds 1
    go_returns
    refine ⟨ret_int (by simp), fun h => absurd h (by rw [marks_length]; omega), World.grownBy.refl w _⟩
  · obtain ⟨g, rest, rfl, hw⟩ := ho hp
    go_enter Try.func26, Try.ntmps26
    go_wp2
    go_loopw [1, 5] (fun q i wr => ∃ j : Nat, j ≤ xs.length ∧ i = .int .i64 j ∧ q = .int .i64 (k + j) ∧ Whole wr g 3 ((marks k j ++ xs.drop j) ++ rest) ∧ w.grownBy wr (some g)) (fun _ i _ => xs.length - (intOf i).toNat)
    case atStart => exact ⟨0, Nat.zero_le _, rfl, by go_num, by simpa [marks] using hw, World.grownBy.refl w _⟩
    case round =>
      obtain ⟨j, hj, rfl, rfl, hwr, hg⟩ := hrel
      by_cases hlt : j < xs.length
      · obtain ⟨u, hu⟩ := marked_at k xs rest j hlt
        have hc := (hwr.cell j).trans hu
        have hf := hwr.frozen j
        have HS := Lib.hid (marked_step k xs rest j hlt)
        clear hu
        go_wp2
        go_roundw
        case rel => exact ⟨j + 1, by omega, by go_num, by go_num, by rw [← HS.out]; exact hwr.set _ _, only_setCell hg _ _⟩
        case measure => simp [intOf]; omega
      · obtain rfl : j = xs.length := by omega
        go_wp2
        go_returns
        refine ⟨rfl, fun _ => ⟨g, rest, rfl, by simpa using hwr⟩, hg⟩
theorem heldIntS_any (A : Option Addr) (cap n : Nat) (k : Int) (w : World) (hn : n ≤ 1048576) (h0 : 0 ≤ k) (h1 : k ≤ 16777216) (ho : Own w A 3 (marks k n)) :
    Calls Try.prog 27 #[.slice A n cap, .int .i64 k] w fun e w' => e = .returned (.int .i64 (k + n)) ∧ w = w' := by
  rcases Nat.eq_zero_or_pos n with hz | hp
  · rw [hz]
    clear ho
    go_enter Try.func27, Try.ntmps27
    go_wp2
    go_rounds 1
    go_returns
    refine ⟨ret_int (by simp), rfl⟩
  · obtain ⟨g, rest, rfl, hw⟩ := ho (by rw [marks_length]; exact hp)
    go_enter Try.func27, Try.ntmps27
    go_wp2
    go_loop [1, 5] (fun q i => ∃ j : Nat, j ≤ n ∧ i = .int .i64 j ∧ q = .int .i64 (k + j)) (fun _ i => n - (intOf i).toNat)
    case atStart => exact ⟨0, Nat.zero_le _, rfl, by go_num⟩
    case round =>
      obtain ⟨j, hj, rfl, rfl⟩ := hrel
      by_cases hlt : j < n
      · have hc : w.cell? ⟨g, j, none⟩ = some (.int .i64 (k + j)) := by
          rw [hw.cell, List.getElem?_append_left (by rw [marks_length]; exact hlt)]
          exact marks_at k n j hlt
        go_wp2
        go_round
        case rel => exact ⟨j + 1, by omega, by go_num, by go_num⟩
        case measure => simp [intOf]; omega
      · obtain rfl : j = n := by omega
        go_wp2
        go_returns
        exact ⟨rfl, rfl⟩
theorem marks_two (k : Int) (n : Nat) : marks k (2 * (n + 1)) = .int .i64 k :: .int .i64 (k + 1) :: marks (k + 2) (2 * n) := by
  rw [show 2 * (n + 1) = 2 * n + 1 + 1 by omega]
  simp only [marks]
  rw [show k + 1 + 1 = k + 2 by omega]
theorem markCellS_any (A : Option Addr) (cap n : Nat) (xs : List Value) (k : Int) (w : World) (hx : xs.length = 2 * n) (hn : n ≤ 1048576) (h0 : 0 ≤ k) (h1 : k ≤ 16777216) (ho : Own w A 104 xs) :
    Calls Try.prog 61 #[.slice A n cap, .int .i64 k] w fun e w' => e = .returned (.int .i64 (k + 2 * n)) ∧ Own w' A 104 (marks k (2 * n)) ∧ Only w w' A := by
  rcases Nat.eq_zero_or_pos n with hz | hp
  · subst hz
    clear ho
    go_enter Try.func61, Try.ntmps61
    go_wp2
    go_rounds 1
    go_returns
    refine ⟨ret_int (by simp), fun h => absurd h (by rw [marks_length]; omega), World.grownBy.refl w _⟩
  · obtain ⟨g, rest, rfl, hw⟩ := ho (by omega)
    have HX := Lib.hid hx
    clear hx
    go_enter Try.func61, Try.ntmps61
    go_wp2
    go_loopw [1, 5] (fun q i wr => ∃ j : Nat, j ≤ n ∧ i = .int .i64 j ∧ q = .int .i64 (k + 2 * j) ∧ Whole wr g 104 ((marks k (2 * j) ++ xs.drop (2 * j)) ++ rest) ∧ w.grownBy wr (some g)) (fun _ i _ => n - (intOf i).toNat)
    case atStart => exact ⟨0, Nat.zero_le _, rfl, by go_num, by simpa [marks] using hw, World.grownBy.refl w _⟩
    case round =>
      obtain ⟨j, hj, rfl, rfl, hwr, hg⟩ := hrel
      by_cases hlt : j < n
      · have hx2 : 2 * j + 1 < xs.length := by have := HX.out; omega
        obtain ⟨u, hu⟩ := marked_at k xs rest (2 * j) (by omega)
        obtain ⟨u', hu'⟩ := marked_at k xs rest (2 * j + 1) hx2
        have s1 := marked_step k xs rest (2 * j) (by omega)
        have s2 := marked_step k xs rest (2 * j + 1) hx2
        have hc : wr.cell? ⟨g, j * 2, none⟩ = some u := by rw [hwr.cell, show j * 2 = 2 * j by omega]; exact hu
        have hw2 := hwr.set (2 * j) (.int .i64 (k + (2 * j : Nat)))
        rw [s1] at hw2
        have HW := Lib.hid hw2
        have hc' : (wr.setCell ⟨g, j * 2, none⟩ (.int .i64 (k + 2 * j))).cell? ⟨g, j * 2 + 1, none⟩ = some u' := by
          have e : (k + 2 * (j : Int)) = k + ((2 * j : Nat) : Int) := by omega
          rw [e, show j * 2 = 2 * j by omega, hw2.cell]; exact hu'
        have hf := hwr.frozen (j * 2)
        have hf' := hwr.frozen (j * 2 + 1)
        have HS := Lib.hid s2
        clear hu hu' s1 s2 hw2
        go_wp2
        go_roundw
        case rel =>
          refine ⟨j + 1, by omega, by go_num, by go_num, ?_, only_setCell (only_setCell hg _ _) _ _⟩
          have h := HW.out.set (2 * j + 1) (.int .i64 (k + (2 * j + 1 : Nat)))
          rw [HS.out] at h
          have e1 : (k + 2 * (j : Int)) = k + ((2 * j : Nat) : Int) := by omega
          have e2 : k + ((2 * j : Nat) : Int) + 1 = k + ((2 * j + 1 : Nat) : Int) := by omega
          rw [e1, e2, show j * 2 = 2 * j by omega, show 2 * (j + 1) = 2 * j + 1 + 1 by omega]
          exact h
        case measure => simp [intOf]; omega
      · obtain rfl : j = n := by omega
        have HY := HX.out
        have hd : xs.drop (2 * j) = [] := List.drop_eq_nil_of_le (by omega)
        rw [hd] at hwr
        clear HY hd
        go_wp2
        go_returns
        refine ⟨rfl, fun _ => ⟨g, rest, rfl, by simpa using hwr⟩, hg⟩
/-- A list of numbers, as memory holds it. -/
def ints (l : List Int) : List Value := l.map (.int .i64)
theorem ints_length (l : List Int) : (ints l).length = l.length := by simp [ints]
theorem ints_at (l : List Int) (k : Nat) (h : k < l.length) : (ints l)[k]? = some (.int .i64 l[k]) := by simp [ints, h]
theorem take_step1 {l m : List Int} {k : Nat} (h1 : k < l.length) (h2 : k < m.length) (h : l.take k = m.take k) : l[k] = m[k] → l.take (k + 1) = m.take (k + 1) := fun a => by
  rw [List.take_succ_eq_append_getElem h1, List.take_succ_eq_append_getElem h2, h, a]
theorem eqIntS_any (A A' : Option Addr) (cap cap' : Nat) (l m : List Int) (w : World) (hn : l.length ≤ 1048576) (hm : m.length ≤ 1048576) (hr : Rd w w.heap.size A (ints l)) (hr' : Rd w w.heap.size A' (ints m)) :
    Calls Try.prog 25 #[.slice A l.length cap, .slice A' m.length cap'] w fun e w' => e = .returned (.bool (decide (l = m))) ∧ Below w.heap.size w w' := by
  by_cases hlm : l.length = m.length
  · have hlb : ((l.length : Int) != (m.length : Int)) = false := by simp [hlm]
    rw [← hlm] at hlb ⊢
    have HL := Lib.hid hlm
    clear hlm
    go_enter Try.func25, Try.ntmps25
    go_wp2
    go_loopw [5] (fun i wr => ∃ k : Nat, k ≤ l.length ∧ i = .int .i64 k ∧ l.take k = m.take k ∧ Below w.heap.size w wr) (fun i _ => l.length - (intOf i).toNat)
    case atStart => exact ⟨0, Nat.zero_le _, rfl, rfl, by (repeat' (first | (with_reducible exact Below.refl _ _) | (with_reducible assumption) | (with_reducible refine Below.alloc ?_ ?_ _) | (with_reducible refine Below.setCell ?_ ?_ _) | (with_reducible refine Below.drew ?_) | (with_reducible refine below_drewN ?_ _) | (with_reducible refine Below.trans ?_ (Below.mono (by assumption) ?_)) | (with_reducible exact Nat.le_refl _) | (simp; done) | omega | (simp at *; omega)))⟩
    case round =>
      obtain ⟨k, hk, rfl, heq, hb⟩ := hrel
      by_cases hlt : k < l.length
      · obtain ⟨b, o, rfl, hbl, hc⟩ := hr (by rw [ints_length]; omega)
        obtain ⟨b', o', rfl, hbl', hc'⟩ := hr' (by have := HL.out; rw [ints_length]; omega)
        have hltm : k < m.length := by have := HL.out; omega
        have hc0 : wr.cell? ⟨b, o + k, none⟩ = some (.int .i64 l[k]) := (hb.cell (p := ⟨b, _, none⟩) hbl).trans (hc _ _ (ints_at l k hlt))
        have hd0 : wr.cell? ⟨b', o' + k, none⟩ = some (.int .i64 m[k]) := (hb.cell (p := ⟨b', _, none⟩) hbl').trans (hc' _ _ (ints_at m k hltm))
        clear hr hr' hc hc'
        have HT := Lib.hid (take_step1 hlt hltm heq)
        have HN := Lib.hid (fun (h : l = m) => (show l[k] = m[k] by subst h; rfl))
        clear heq
        generalize l[k] = x at *
        generalize m[k] = x' at *
        by_cases hxy : x = x'
        · subst hxy
          go_wp2
          go_quiet (fail)
          go_wp2
          go_roundw
          case rel => exact ⟨k + 1, by omega, by go_num, HT.out trivial, by (repeat' (first | (with_reducible exact Below.refl _ _) | (with_reducible assumption) | (with_reducible refine Below.alloc ?_ ?_ _) | (with_reducible refine Below.setCell ?_ ?_ _) | (with_reducible refine Below.drew ?_) | (with_reducible refine below_drewN ?_ _) | (with_reducible refine Below.trans ?_ (Below.mono (by assumption) ?_)) | (with_reducible exact Nat.le_refl _) | (simp; done) | omega | (simp at *; omega)))⟩
          case measure => simp [intOf]; omega
        · have hxb : (x != x') = true := by simpa using hxy
          have HX := Lib.hid hxy
          clear hxy
          go_wp2
          go_quiet (fail)
          go_wp2
          go_returns
          exact ⟨ret_bool (decide_eq_false (fun h => HX.out (HN.out h))).symm, by (repeat' (first | (with_reducible exact Below.refl _ _) | (with_reducible assumption) | (with_reducible refine Below.alloc ?_ ?_ _) | (with_reducible refine Below.setCell ?_ ?_ _) | (with_reducible refine Below.drew ?_) | (with_reducible refine below_drewN ?_ _) | (with_reducible refine Below.trans ?_ (Below.mono (by assumption) ?_)) | (with_reducible exact Nat.le_refl _) | (simp; done) | omega | (simp at *; omega)))⟩
      · obtain rfl : k = l.length := by omega
        rw [List.take_length, HL.out, List.take_length] at heq
        have HQ := Lib.hid heq
        clear heq
        go_wp2
        go_returns
        exact ⟨ret_bool (decide_eq_true HQ.out).symm, hb⟩
  · have hlb : ((l.length : Int) != (m.length : Int)) = true := by simp; omega
    go_enter Try.func25, Try.ntmps25
    go_wp2
    go_returns
    exact ⟨ret_bool (by simp; intro h; exact hlm (by rw [h])), by (repeat' (first | (with_reducible exact Below.refl _ _) | (with_reducible assumption) | (with_reducible refine Below.alloc ?_ ?_ _) | (with_reducible refine Below.setCell ?_ ?_ _) | (with_reducible refine Below.drew ?_) | (with_reducible refine below_drewN ?_ _) | (with_reducible refine Below.trans ?_ (Below.mono (by assumption) ?_)) | (with_reducible exact Nat.le_refl _) | (simp; done) | omega | (simp at *; omega)))⟩
end Go.Proofs.Ytlambflmabecfaa
namespace Go.Proofs.Ytlambflmabecfaa
open Go.ChangeShapes Go.WideShapes Go.ChangeAt Go.RowKit Go.Joins Go.Deep
set_option linter.unusedSimpArgs false
set_option linter.unusedVariables false
set_option maxRecDepth 100000
set_option maxHeartbeats 400000
theorem Own.rd {w : World} {A : Option Addr} {t : TypeId} {xs : List Value} (h : Own w A t xs) : Rd w w.heap.size A xs := fun hx => by
  obtain ⟨g, rest, e, hw⟩ := h hx
  refine ⟨g, 0, e, hw.lt, fun j u hu => ?_⟩
  rw [Nat.zero_add, hw.cell, List.getElem?_append_left (by have := (List.getElem?_eq_some_iff.1 hu).1; exact this)]
  exact hu
theorem Own.keep {w w' : World} {A : Option Addr} {t : TypeId} {xs : List Value} (h : Own w A t xs) (hb : Below w.heap.size w w') : Own w' A t xs := fun hx => by
  obtain ⟨g, rest, e, hw⟩ := h hx
  exact ⟨g, rest, e, hw.below hb hw.lt⟩
theorem Own.only {w w' : World} {A A' : Option Addr} {t : TypeId} {xs : List Value} (h : Own w A t xs) (ho : Only w w' A') (hne : 0 < xs.length → ∀ a a', A = some a → A' = some a' → a.block ≠ a'.block) : Own w' A t xs := fun hx => by
  obtain ⟨g, rest, rfl, hw⟩ := h hx
  refine ⟨g, rest, rfl, ?_⟩
  refine (ho.block g hw.lt ?_).trans hw
  cases hA : A' with
  | none => simp
  | some a' => simpa using hne hx _ _ rfl hA
theorem Own.lt {w : World} {A : Option Addr} {t : TypeId} {xs : List Value} (h : Own w A t xs) (hx : 0 < xs.length) {a : Addr} (ha : A = some a) : a.block < w.heap.size := by
  obtain ⟨g, rest, e, hw⟩ := h hx
  rw [e] at ha
  cases ha
  exact hw.lt
theorem Whole.own {w : World} {g : Nat} {t : TypeId} {xs : List Value} (h : Whole w g t xs) : Own w (some ⟨g, 0, none⟩) t xs := fun _ => ⟨g, [], rfl, by rw [List.append_nil]; exact h⟩
theorem Own.none_ {w : World} {A : Option Addr} {t : TypeId} : Own w A t [] := fun h => absurd h (by simp)
theorem Only.below {w w' : World} {A : Option Addr} {B : Nat} (h : Only w w' A) (hB : B ≤ w.heap.size) (hge : ∀ a, A = some a → B ≤ a.block) : Below B w w' :=
  (Below.refl B w).grown h hB (fun k hk => by
    cases hA : A with
    | none => rw [hA] at hk; cases hk
    | some a => rw [hA] at hk; cases hk; exact hge _ hA)
/-- The slice at A is new: it does not lie in the old heap. -/
def New (w : World) (A : Option Addr) : Prop := ∀ a, A = some a → w.heap.size ≤ a.block
theorem New.none_ {w : World} : New w none := fun _ h => by cases h
theorem New.mono {w w' : World} {A : Option Addr} (h : New w' A) (hs : w.heap.size ≤ w'.heap.size) : New w A := fun a ha => Nat.le_trans hs (h a ha)
theorem New.ge {w : World} {A : Option Addr} {B : Nat} (h : New w A) (hB : B ≤ w.heap.size) : ∀ a, A = some a → B ≤ a.block := fun a ha => Nat.le_trans hB (h a ha)
theorem intInfo : (Try.prog.info? 3).map (fun i => (i.zero, i.size, i.bytes)) = some (some (.int .i64 0), 1, 8) := by kernel_rfl
theorem made_ints (n : Nat) : madeCells (Value.int .i64 0).cells (n * 1) = (zrow n).toArray := by
  apply Array.ext
  · simp [madeCells, zrow]
  · intro i h1 h2
    simp [madeCells, zrow, Value.cells, Nat.mod_one]
theorem run_make_ints (n : Nat) (hn : n ≤ 1048576) (w : World) :
    (Instr.makeSlice 47 (.int .i64 (n : Int)) (.int .i64 (n : Int))).run Try.prog w = .ok (.slice (some ⟨w.heap.size, 0, none⟩) n n) (w.alloc (.cells (zrow n).toArray 3)) := by
  obtain ⟨i0, hi, hz0, hz1, hz2⟩ := info_parts intInfo
  have h := run_make (P := Try.prog) w 47 3 i0 _ Try.underlying47 hi hz0 .i64 .i64 (n : Int) (n : Int) (by omega) (by omega) (by rw [hz2]; omega) (by omega)
  rw [hz1] at h
  simp only [Int.toNat_natCast] at h
  rw [h, made_ints]
/-- A valid list of cells. -/
def goodL (l : List (Int × Int)) : Bool := decide (l.length ≤ 90) && l.all fun c => good c.1 c.2
theorem all_take {l : List (Int × Int)} {k : Nat} (h : k < l.length) (hk : ((l.take k).all fun c => good c.1 c.2) = true) (hg : good l[k].1 l[k].2 = true) : ((l.take (k + 1)).all fun c => good c.1 c.2) = true := by
  rw [List.take_succ_eq_append_getElem h, List.all_append, hk]
  simp [hg]
theorem all_not {l : List (Int × Int)} {k : Nat} (h : k < l.length) (hg : good l[k].1 l[k].2 = false) : (l.all fun c => good c.1 c.2) = false := by
  rw [List.all_eq_false]
  exact ⟨l[k], List.getElem_mem h, by rw [hg]; simp⟩
theorem impl_areCells (A : Option Addr) (cap : Nat) (l : List (Int × Int)) (w : World) (hn : l.length ≤ 1048576) (hr : Rd w w.heap.size A (flat l)) :
    Calls Try.prog 84 #[.slice A l.length cap] w fun e w' => e = .returned (.bool (goodL l)) ∧ Below w.heap.size w w' := by
  by_cases h90 : l.length ≤ 90
  · go_enter Try.func84, Try.ntmps84
    go_wp2
    go_loopw [10] (fun i wr => ∃ k : Nat, k ≤ l.length ∧ i = .int .i64 k ∧ ((l.take k).all fun c => good c.1 c.2) = true ∧ Below w.heap.size w wr) (fun i _ => l.length - (intOf i).toNat)
    case atStart => exact ⟨0, Nat.zero_le _, rfl, rfl, by (repeat' (first | (with_reducible exact Below.refl _ _) | (with_reducible assumption) | (with_reducible refine Below.alloc ?_ ?_ _) | (with_reducible refine Below.setCell ?_ ?_ _) | (with_reducible refine Below.drew ?_) | (with_reducible refine below_drewN ?_ _) | (with_reducible refine Below.trans ?_ (Below.mono (by assumption) ?_)) | (with_reducible exact Nat.le_refl _) | (simp; done) | omega | (simp at *; omega)))⟩
    case round =>
      obtain ⟨k, hk, rfl, hall, hb⟩ := hrel
      by_cases hlt : k < l.length
      · obtain ⟨b, o, rfl, hbl, hc⟩ := hr (by rw [flat_length]; omega)
        have hc0 : wr.cell? ⟨b, o + k * 2, none⟩ = some (.int .i64 l[k].1) := (hb.cell (p := ⟨b, _, none⟩) hbl).trans (hc _ _ (flat_at l k hlt).1)
        have hc1 : wr.cell? ⟨b, o + k * 2 + 1, none⟩ = some (.int .i64 l[k].2) := (hb.cell (p := ⟨b, _, none⟩) hbl).trans (hc _ _ (flat_at l k hlt).2)
        have HT := Lib.hid (all_take hlt hall)
        have HN := Lib.hid (all_not hlt)
        have hs := hb.size
        clear hr hc hall
        generalize l[k].1 = x at *
        generalize l[k].2 = y at *
        rcases Bool.eq_false_or_eq_true (good x y) with hg | hg
        · have HG := Lib.hid hg
          go_wp2_with fail
          refine (impl_IsCell _ _ _).mono ?_; rintro e w1 ⟨rfl, b1⟩
          rw [hg]
          clear hg hc0 hc1
          go_wp2
          go_roundw
          case rel => exact ⟨k + 1, by omega, by go_num, HT.out HG.out, by (repeat' (first | (with_reducible exact Below.refl _ _) | (with_reducible assumption) | (with_reducible refine Below.alloc ?_ ?_ _) | (with_reducible refine Below.setCell ?_ ?_ _) | (with_reducible refine Below.drew ?_) | (with_reducible refine below_drewN ?_ _) | (with_reducible refine Below.trans ?_ (Below.mono (by assumption) ?_)) | (with_reducible exact Nat.le_refl _) | (simp; done) | omega | (simp at *; omega)))⟩
          case measure => simp [intOf]; omega
        · have HG := Lib.hid hg
          go_wp2_with fail
          refine (impl_IsCell _ _ _).mono ?_; rintro e w1 ⟨rfl, b1⟩
          rw [hg]
          clear hg hc0 hc1
          go_wp2
          go_returns
          exact ⟨ret_bool (by unfold goodL; rw [HN.out HG.out, Bool.and_false]), by (repeat' (first | (with_reducible exact Below.refl _ _) | (with_reducible assumption) | (with_reducible refine Below.alloc ?_ ?_ _) | (with_reducible refine Below.setCell ?_ ?_ _) | (with_reducible refine Below.drew ?_) | (with_reducible refine below_drewN ?_ _) | (with_reducible refine Below.trans ?_ (Below.mono (by assumption) ?_)) | (with_reducible exact Nat.le_refl _) | (simp; done) | omega | (simp at *; omega)))⟩
      · obtain rfl : k = l.length := by omega
        rw [List.take_length] at hall
        have HQ := Lib.hid hall
        clear hall
        go_wp2
        go_returns
        exact ⟨ret_bool (by unfold goodL; rw [HQ.out, Bool.and_true]; (first | rfl | (refine Bool.eq_iff_iff.2 ?_; simp only [Bool.and_eq_true, Bool.or_eq_true, Bool.not_eq_true', decide_eq_true_eq, decide_eq_false_iff_not, beq_iff_eq, bne_iff_ne, ne_eq, true_iff, iff_true, false_iff, iff_false, Bool.false_eq_true, Bool.true_eq_false] <;> omega) | (simp; omega))), hb⟩
  · have hlb : (90 : Int) < (l.length : Int) := by omega
    go_enter Try.func84, Try.ntmps84
    go_wp2
    go_returns
    exact ⟨ret_bool (by unfold goodL; simp [h90]), by (repeat' (first | (with_reducible exact Below.refl _ _) | (with_reducible assumption) | (with_reducible refine Below.alloc ?_ ?_ _) | (with_reducible refine Below.setCell ?_ ?_ _) | (with_reducible refine Below.drew ?_) | (with_reducible refine below_drewN ?_ _) | (with_reducible refine Below.trans ?_ (Below.mono (by assumption) ?_)) | (with_reducible exact Nat.le_refl _) | (simp; done) | omega | (simp at *; omega)))⟩
end Go.Proofs.Ytlambflmabecfaa
namespace Go.Proofs.Ytlambflmabecfaa
open Go.ChangeShapes Go.WideShapes Go.ChangeAt Go.RowKit Go.Joins Go.Deep
set_option linter.unusedSimpArgs false
set_option linter.unusedVariables false
set_option maxRecDepth 100000
theorem list_of (n : Nat) (f : Nat → Int × Int) : ∃ l : List (Int × Int), l.length = n ∧ ∀ i (h : i < l.length), l[i] = f i :=
  ⟨(List.range n).map f, by simp, fun i h => by simp⟩
theorem flat_get (l : List (Int × Int)) (j : Nat) (u : Value) (h : (flat l)[j]? = some u) : ∃ k, ∃ hk : k < l.length, (j = k * 2 ∧ u = .int .i64 l[k].1) ∨ (j = k * 2 + 1 ∧ u = .int .i64 l[k].2) := by
  have hj : j < 2 * l.length := by rw [← flat_length]; exact (List.getElem?_eq_some_iff.1 h).1
  have hk : j / 2 < l.length := by omega
  have h2 := flat_at l (j / 2) hk
  refine ⟨j / 2, hk, ?_⟩
  rcases (show j = j / 2 * 2 ∨ j = j / 2 * 2 + 1 by omega) with e | e
  · left
    refine ⟨e, ?_⟩
    have := h2.1
    rw [← e, h] at this
    exact Option.some.inj this
  · right
    refine ⟨e, ?_⟩
    have := h2.2
    rw [← e, h] at this
    exact Option.some.inj this
set_option maxRecDepth 100000 in
theorem open_cells_f {H : Type} {enc : TypeId × Value → H} {W : World} {v : Value} {x : DataW H × List MemPlace} {fuel : Nat}
    (hf : DataW.trod enc Try.prog W 0 (fun _ => true) true fuel 29 [v] = some x) :
    ∃ (A : Option Addr) (cap : Nat) (l : List (Int × Int)), v = .slice A l.length cap ∧ l.length ≤ maxLen ∧ Rd W W.heap.size A (flat l) := by
  rcases open_slice_pairs (f0 := _) (f1 := _) Try.underlying29 Try.underlying106 (by kernel_rfl) rfl rfl (by kernel_rfl) (by kernel_rfl) hf with ⟨hcs, hx⟩ | ⟨a, len, cap', m, n', V0, V1, D0, D1, P0, P1, hcs, _, hl, hm, hmm, hx, hi⟩
  · obtain rfl := List.head_eq_of_cons_eq hcs
    exact ⟨none, 0, [], rfl, by simp, fun h => absurd h (by simp [flat])⟩
  · obtain rfl := List.head_eq_of_cons_eq hcs
    simp only [if_true] at hmm
    subst hmm
    have hV : ∀ i, i < m → ∃ x y : Int, V0 i = .int .i64 x ∧ V1 i = .int .i64 y := fun i hin => by
      obtain ⟨_, _, h3, h4⟩ := hi i (by omega)
      obtain ⟨x, e0, _, _⟩ := DataW.trod_int Try.underlying3 h3
      obtain ⟨y, e1, _, _⟩ := DataW.trod_int Try.underlying3 h4
      exact ⟨x, y, List.head_eq_of_cons_eq e0, List.head_eq_of_cons_eq e1⟩
    obtain ⟨l, hlen, hget⟩ := list_of len (fun i => (match V0 i with | .int _ q => q | _ => 0, match V1 i with | .int _ q => q | _ => 0))
    subst hlen
    refine ⟨some a, _, l, rfl, by omega, fun hpos => ?_⟩
    rw [flat_length] at hpos
    obtain ⟨h1, _, _, _⟩ := hi 0 (by omega)
    obtain ⟨b, off, spot⟩ := a
    have hspot : spot = none := by simpa [Addr.add] using World.cell?_spot h1
    subst hspot
    refine ⟨b, off, rfl, by simpa [Addr.add] using lt_of_cell h1, fun j u hu => ?_⟩
    obtain ⟨k, hk, h2⟩ := flat_get l j u hu
    obtain ⟨x, y, ex, ey⟩ := hV k (by omega)
    have hg := hget k hk
    rw [ex, ey] at hg
    obtain ⟨h3, h4, _, _⟩ := hi k (by omega)
    rw [add_plain] at h3 h4
    rcases h2 with ⟨rfl, rfl⟩ | ⟨rfl, rfl⟩
    · rw [h3, ex, hg]
    · rw [h4, ey, hg]
theorem open_cells {H : Type} {enc : TypeId × Value → H} {W : World} {r : Reach} {b0 : Nat} {v : Value} {d : DataW H} {p : List MemPlace}
    (hv : Value.okWide Try.prog W r b0 29 v) (h : DataW.Trod enc Try.prog W 0 (fun _ => true) true 29 v d p) :
    ∃ (A : Option Addr) (cap : Nat) (l : List (Int × Int)), v = .slice A l.length cap ∧ l.length ≤ maxLen ∧ Rd W W.heap.size A (flat l) := by
  obtain ⟨A, n, cap, rfl⟩ := okWide_slice Try.underlying29 hv
  obtain ⟨fuel, hf⟩ := h
  exact open_cells_f (v := .slice A n cap) hf
theorem open_board {H : Type} {enc : TypeId × Value → H} {W : World} {r : Reach} {b0 : Nat} {v : Value} {d : DataW H} {p : List MemPlace}
    (hv : Value.okWide Try.prog W r b0 31 v) (h : DataW.Trod enc Try.prog W 0 (fun _ => true) true 31 v d p) :
    ∃ (R C : Int) (A : Option Addr) (cap : Nat) (l : List (Int × Int)), v = .agg #[.int .i64 R, .int .i64 C, .slice A l.length cap] ∧ l.length ≤ maxLen ∧ Rd W W.heap.size A (flat l) ∧ (Lit.int .i64 R).wf = true ∧ (Lit.int .i64 C).wf = true := by
  obtain ⟨v0, v1, v2, y0, y1, y2, n, rfl, _, _, h0, h1, h2⟩ := Go.Joins.open_agg3 (f0 := _) (f1 := _) (f2 := _) Try.underlying31 (by kernel_rfl) (by kernel_rfl) hv h
  obtain ⟨x, e0, _, wx⟩ := DataW.trod_int Try.underlying3 h0
  obtain ⟨y, e1, _, wy⟩ := DataW.trod_int Try.underlying3 h1
  obtain rfl := List.head_eq_of_cons_eq e0
  obtain rfl := List.head_eq_of_cons_eq e1
  obtain ⟨A, cap, l, rfl, hl, hr⟩ := open_cells_f h2
  exact ⟨x, y, A, cap, l, rfl, hl, hr, wx, wy⟩
end Go.Proofs.Ytlambflmabecfaa
namespace Go.Proofs.Ytlambflmabecfaa
open Go.ChangeShapes Go.WideShapes Go.ChangeAt Go.RowKit Go.Joins Go.Deep
set_option linter.unusedSimpArgs false
set_option linter.unusedVariables false
set_option maxRecDepth 100000
set_option maxHeartbeats 400000
/-- A board by value. -/
def bv (R C : Int) (A : Option Addr) (n cap : Nat) : Value := .agg #[.int .i64 R, .int .i64 C, .slice A n cap]
theorem szBoard_any (R C : Int) (A : Option Addr) (n cap : Nat) (left : Int) (w : World) (hn : n ≤ maxLen) (h0 : 0 ≤ left) (h1 : left ≤ 1048576) :
    Calls Try.prog 40 #[.agg #[.int .i64 R, .int .i64 C, .slice A n cap], .int .i64 left] w fun e w' => e = .returned (.int .i64 (if left < n then -1 else left - n)) ∧ Below w.heap.size w w' := by
  by_cases hl : left < n
  · go_enter Try.func40, Try.ntmps40
    go_wp2_with fail
    refine (szCellS_any _ _ _ _ _ hn h0 h1).mono ?_; rintro e w1 ⟨rfl, rfl⟩
    rw [if_pos hl]
    have HL := Lib.hid hl
    clear hl
    go_wp2
    go_returns
    exact ⟨ret_int (by first | rfl | exact (if_pos HL.out).symm), by (repeat' (first | (with_reducible exact Below.refl _ _) | (with_reducible assumption) | (with_reducible refine Below.alloc ?_ ?_ _) | (with_reducible refine Below.setCell ?_ ?_ _) | (with_reducible refine Below.drew ?_) | (with_reducible refine below_drewN ?_ _) | (with_reducible refine Below.trans ?_ (Below.mono (by assumption) ?_)) | (with_reducible exact Nat.le_refl _) | (simp; done) | omega | (simp at *; omega)))⟩
  · go_enter Try.func40, Try.ntmps40
    go_wp2_with fail
    refine (szCellS_any _ _ _ _ _ hn h0 h1).mono ?_; rintro e w1 ⟨rfl, rfl⟩
    rw [if_neg (by omega)]
    go_wp2
    go_returns
    exact ⟨ret_int (by first | rfl | exact (if_neg (by omega)).symm), by (repeat' (first | (with_reducible exact Below.refl _ _) | (with_reducible assumption) | (with_reducible refine Below.alloc ?_ ?_ _) | (with_reducible refine Below.setCell ?_ ?_ _) | (with_reducible refine Below.drew ?_) | (with_reducible refine below_drewN ?_ _) | (with_reducible refine Below.trans ?_ (Below.mono (by assumption) ?_)) | (with_reducible exact Nat.le_refl _) | (simp; done) | omega | (simp at *; omega)))⟩
theorem Whole.set_far {w : World} {g : Nat} {t : TypeId} {xs : List Value} (h : Whole w g t xs) (p : Addr) (u : Value) (hne : p.block ≠ g) : Whole (w.setCell p u) g t xs := (Below.heap_setCell w p u g (fun e => hne e.symm)).trans h
theorem only_alloc {w w' : World} {o : Obj} {A : Option Addr} (h : Only (w.alloc o) w' A) : Only w w' A := by
  have hs := h.size
  rw [World.size_alloc] at hs
  refine ⟨h.os.trans rfl, h.tape.trans rfl, h.output.trans rfl, by omega, fun i hi hne => (h.block i (by rw [World.size_alloc]; omega) hne).trans (Below.heap_alloc _ _ _ hi)⟩
theorem toBoard_any (R C : Int) (A : Option Addr) (cap : Nat) (l : List (Int × Int)) (w : World) (hn : l.length ≤ 1048576) (hr : Rd w w.heap.size A (flat l)) :
    Calls Try.prog 43 #[.agg #[.int .i64 R, .int .i64 C, .slice A l.length cap]] w fun e w' => ∃ g, e = .returned (.agg #[.int .i64 R, .int .i64 C, .slice (some ⟨g, 0, none⟩) l.length l.length]) ∧ Whole w' g 104 (flat l) ∧ w.heap.size ≤ g ∧ Below w.heap.size w w' := by
  go_enter Try.func43, Try.ntmps43
  go_wp2_with fail
  refine (toCellS_any _ _ l _ hn ((hr.below (by (repeat' (first | (with_reducible exact Below.refl _ _) | (with_reducible assumption) | (with_reducible refine Below.alloc ?_ ?_ _) | (with_reducible refine Below.setCell ?_ ?_ _) | (with_reducible refine Below.drew ?_) | (with_reducible refine below_drewN ?_ _) | (with_reducible refine Below.trans ?_ (Below.mono (by assumption) ?_)) | (with_reducible exact Nat.le_refl _) | (simp; done) | omega | (simp at *; omega))) : Below w.heap.size w _)).mono (by go_size))).mono ?_; rintro e w1 ⟨rfl, t1, b1⟩
  obtain ⟨c1, f1⟩ := bcell b1
  have z1 : w.heap.size + 1 + 1 < w1.heap.size := by have := b1.size; simp at this; omega
  go_wp2
  refine bodyPost_ret (v := .agg #[.int .i64 R, .int .i64 C, .slice (some ⟨w.heap.size + 1 + 1 + 1, 0, none⟩) l.length l.length]) ?_ rfl ?_; (focus (simp [results, Try.results43, go_sem, *]; done))
  have t2 : Whole w1 (w.heap.size + 1 + 1 + 1) 104 (flat l) := by simpa using t1
  exact ⟨w.heap.size + 1 + 1 + 1, rfl, (((t2.set_far _ _ (by simp)).set_far _ _ (by simp)).set_far _ _ (by simp)).set_far _ _ (by simp), by omega, by (repeat' (first | (with_reducible exact Below.refl _ _) | (with_reducible assumption) | (with_reducible refine Below.alloc ?_ ?_ _) | (with_reducible refine Below.setCell ?_ ?_ _) | (with_reducible refine Below.drew ?_) | (with_reducible refine below_drewN ?_ _) | (with_reducible refine Below.trans ?_ (Below.mono (by assumption) ?_)) | (with_reducible exact Nat.le_refl _) | (simp; done) | omega | (simp at *; omega)))⟩
def eqB (R C R' C' : Int) (l m : List (Int × Int)) : Bool := decide (R = R' ∧ C = C' ∧ l = m)
theorem eqBoard_any (R C R' C' : Int) (A A' : Option Addr) (cap cap' : Nat) (l m : List (Int × Int)) (w : World) (hn : l.length ≤ 1048576) (hm : m.length ≤ 1048576) (hr : Rd w w.heap.size A (flat l)) (hr' : Rd w w.heap.size A' (flat m)) :
    Calls Try.prog 45 #[.agg #[.int .i64 R, .int .i64 C, .slice A l.length cap], .agg #[.int .i64 R', .int .i64 C', .slice A' m.length cap']] w fun e w' => e = .returned (.bool (eqB R C R' C' l m)) ∧ Below w.heap.size w w' := by
  by_cases h1 : R = R'
  · subst h1
    by_cases h2 : C = C'
    · subst h2
      go_enter Try.func45, Try.ntmps45
      go_wp2_with fail
      refine (eqCellS_any _ _ _ _ l m _ hn hm ((hr.below (by (repeat' (first | (with_reducible exact Below.refl _ _) | (with_reducible assumption) | (with_reducible refine Below.alloc ?_ ?_ _) | (with_reducible refine Below.setCell ?_ ?_ _) | (with_reducible refine Below.drew ?_) | (with_reducible refine below_drewN ?_ _) | (with_reducible refine Below.trans ?_ (Below.mono (by assumption) ?_)) | (with_reducible exact Nat.le_refl _) | (simp; done) | omega | (simp at *; omega))) : Below w.heap.size w _)).mono (by go_size)) ((hr'.below (by (repeat' (first | (with_reducible exact Below.refl _ _) | (with_reducible assumption) | (with_reducible refine Below.alloc ?_ ?_ _) | (with_reducible refine Below.setCell ?_ ?_ _) | (with_reducible refine Below.drew ?_) | (with_reducible refine below_drewN ?_ _) | (with_reducible refine Below.trans ?_ (Below.mono (by assumption) ?_)) | (with_reducible exact Nat.le_refl _) | (simp; done) | omega | (simp at *; omega))) : Below w.heap.size w _)).mono (by go_size))).mono ?_; rintro e w1 ⟨rfl, b1⟩
      by_cases h3 : l = m
      · rw [decide_eq_true h3]
        have HL := Lib.hid h3
        clear h3
        go_wp2
        go_returns
        exact ⟨ret_bool (decide_eq_true ⟨rfl, rfl, HL.out⟩).symm, by (repeat' (first | (with_reducible exact Below.refl _ _) | (with_reducible assumption) | (with_reducible refine Below.alloc ?_ ?_ _) | (with_reducible refine Below.setCell ?_ ?_ _) | (with_reducible refine Below.drew ?_) | (with_reducible refine below_drewN ?_ _) | (with_reducible refine Below.trans ?_ (Below.mono (by assumption) ?_)) | (with_reducible exact Nat.le_refl _) | (simp; done) | omega | (simp at *; omega)))⟩
      · rw [decide_eq_false h3]
        have HL := Lib.hid h3
        clear h3
        go_wp2
        go_returns
        exact ⟨ret_bool (decide_eq_false (fun h => HL.out h.2.2)).symm, by (repeat' (first | (with_reducible exact Below.refl _ _) | (with_reducible assumption) | (with_reducible refine Below.alloc ?_ ?_ _) | (with_reducible refine Below.setCell ?_ ?_ _) | (with_reducible refine Below.drew ?_) | (with_reducible refine below_drewN ?_ _) | (with_reducible refine Below.trans ?_ (Below.mono (by assumption) ?_)) | (with_reducible exact Nat.le_refl _) | (simp; done) | omega | (simp at *; omega)))⟩
    · have hb : (C != C') = true := by simpa using h2
      have HL := Lib.hid h2
      clear h2
      go_enter Try.func45, Try.ntmps45
      go_wp2
      go_returns
      exact ⟨ret_bool (decide_eq_false (fun h => HL.out h.2.1)).symm, by (repeat' (first | (with_reducible exact Below.refl _ _) | (with_reducible assumption) | (with_reducible refine Below.alloc ?_ ?_ _) | (with_reducible refine Below.setCell ?_ ?_ _) | (with_reducible refine Below.drew ?_) | (with_reducible refine below_drewN ?_ _) | (with_reducible refine Below.trans ?_ (Below.mono (by assumption) ?_)) | (with_reducible exact Nat.le_refl _) | (simp; done) | omega | (simp at *; omega)))⟩
  · have hb : (R != R') = true := by simpa using h1
    have HL := Lib.hid h1
    clear h1
    go_enter Try.func45, Try.ntmps45
    go_wp2
    go_returns
    exact ⟨ret_bool (decide_eq_false (fun h => HL.out h.1)).symm, by (repeat' (first | (with_reducible exact Below.refl _ _) | (with_reducible assumption) | (with_reducible refine Below.alloc ?_ ?_ _) | (with_reducible refine Below.setCell ?_ ?_ _) | (with_reducible refine Below.drew ?_) | (with_reducible refine below_drewN ?_ _) | (with_reducible refine Below.trans ?_ (Below.mono (by assumption) ?_)) | (with_reducible exact Nat.le_refl _) | (simp; done) | omega | (simp at *; omega)))⟩
theorem markBoard_any (R C : Int) (A : Option Addr) (cap n : Nat) (xs : List Value) (k : Int) (w : World) (hx : xs.length = 2 * n) (hn : n ≤ 1048576) (h0 : 0 ≤ k) (h1 : k ≤ 16777216) (ho : Own w A 104 xs) :
    Calls Try.prog 46 #[.agg #[.int .i64 R, .int .i64 C, .slice A n cap], .int .i64 k] w fun e w' => e = .returned (.int .i64 (k + 2 * n)) ∧ Own w' A 104 (marks k (2 * n)) ∧ Only w w' A := by
  go_enter Try.func46, Try.ntmps46
  go_wp2_with fail
  refine (markCellS_any _ _ n xs _ _ hx hn h0 h1 (ho.keep (by (repeat' (first | (with_reducible exact Below.refl _ _) | (with_reducible assumption) | (with_reducible refine Below.alloc ?_ ?_ _) | (with_reducible refine Below.setCell ?_ ?_ _) | (with_reducible refine Below.drew ?_) | (with_reducible refine below_drewN ?_ _) | (with_reducible refine Below.trans ?_ (Below.mono (by assumption) ?_)) | (with_reducible exact Nat.le_refl _) | (simp; done) | omega | (simp at *; omega)))))).mono ?_; rintro e w1 ⟨rfl, o1, s1⟩
  have S1 := Lib.hid (only_alloc s1)
  clear s1
  go_wp2
  go_returns
  exact ⟨rfl, o1, S1.out⟩
end Go.Proofs.Ytlambflmabecfaa
namespace Go.Proofs.Ytlambflmabecfaa
open Go.ChangeShapes Go.WideShapes Go.ChangeAt Go.RowKit Go.Joins Go.Deep
set_option linter.unusedSimpArgs false
set_option linter.unusedVariables false
set_option maxRecDepth 100000
set_option maxHeartbeats 400000
/-- Only the block of A has turned, if there is anything to turn, and what is new. -/
def Fx (w w' : World) (A : Option Addr) (n : Nat) : Prop := w.grownBy w' (if n = 0 then none else A.map (·.block))
theorem Whole.fx {w w' : World} {g : Nat} {t : TypeId} {xs : List Value} {A : Option Addr} {n : Nat} (h : Whole w g t xs) (ho : Fx w w' A n) (hne : 0 < n → ∀ a, A = some a → a.block ≠ g) : Whole w' g t xs := by
  refine (ho.block g h.lt ?_).trans h
  by_cases hn : n = 0
  · simp [hn]
  · rw [if_neg hn]
    cases hA : A with
    | none => simp
    | some a => simpa using (fun e => hne (by omega) a hA e.symm)
theorem Own.fx {w w' : World} {A A' : Option Addr} {t : TypeId} {xs : List Value} {n : Nat} (h : Own w A t xs) (ho : Fx w w' A' n) (hne : 0 < n → 0 < xs.length → ∀ a a', A = some a → A' = some a' → a.block ≠ a'.block) : Own w' A t xs := fun hx => by
  obtain ⟨g, rest, rfl, hw⟩ := h hx
  exact ⟨g, rest, rfl, hw.fx ho (fun hn a ha => (hne hn hx _ a rfl ha).symm)⟩
theorem Fx.below {w w' : World} {A : Option Addr} {n B : Nat} (h : Fx w w' A n) (hB : B ≤ w.heap.size) (hge : ∀ a, A = some a → B ≤ a.block) : Below B w w' :=
  (Below.refl B w).grown h hB (fun k hk => by
    by_cases hn : n = 0
    · rw [if_pos hn] at hk; cases hk
    · rw [if_neg hn] at hk
      cases hA : A with
      | none => rw [hA] at hk; cases hk
      | some a => rw [hA] at hk; cases hk; exact hge _ hA)
theorem only_fx {w w' : World} {A : Option Addr} {n : Nat} (h : Only w w' A) (hn : 0 < n) : Fx w w' A n := by
  unfold Fx
  rw [if_neg (by omega)]
  exact h
theorem own_apart {w : World} {g : Nat} {t t' : TypeId} {xs ys : List Value} {A : Option Addr} (h : Own w A t xs) (hw : Whole w g t' ys) (hne : t ≠ t') (hx : 0 < xs.length) {a : Addr} (ha : A = some a) : a.block ≠ g := by
  obtain ⟨k, rest, rfl, hk⟩ := h hx
  cases ha
  intro e
  subst e
  unfold Whole at hk hw
  rw [hk] at hw
  injection hw with hw
  injection hw with _ ht
  exact hne ht
theorem same_fx {w : World} {A : Option Addr} : Fx w w A 0 := by
  unfold Fx
  rw [if_pos rfl]
  exact World.grownBy.refl w _
theorem flat_pos {l : List (Int × Int)} (h : 0 < (flat l).length) : 0 < l.length := by rw [flat_length] at h; omega
theorem pos_flat {l : List (Int × Int)} (h : 0 < l.length) : 0 < (flat l).length := by rw [flat_length]; omega
theorem ints_pos {l : List Int} (h : 0 < (ints l).length) : 0 < l.length := by rw [ints_length] at h; exact h
theorem pos_ints {l : List Int} (h : 0 < l.length) : 0 < (ints l).length := by rw [ints_length]; exact h
theorem eqB_same (R C : Int) (l : List (Int × Int)) : eqB R C R C l l = true := decide_eq_true ⟨rfl, rfl, rfl⟩
/-- What a call hands back: a list of numbers of its own, and whether it succeeds. -/
def PostL (w : World) (l : List Int) (ok : Bool) (e : Ending) (w' : World) : Prop :=
  ∃ A' cap', e = .returned (.tuple #[.slice A' l.length cap', .bool ok]) ∧ Own w' A' 3 (ints l) ∧ New w A' ∧ Below w.heap.size w w'
theorem PostL.mk {w w' : World} {l : List Int} {ok : Bool} {A' : Option Addr} {cap' : Nat} (o : Own w' A' 3 (ints l)) (n : New w A') (b : Below w.heap.size w w') : PostL w l ok (.returned (.tuple #[.slice A' l.length cap', .bool ok])) w' :=
  ⟨A', cap', rfl, o, n, b⟩
/-- A list of numbers of the call's own. -/
def PostI (w : World) (l : List Int) (e : Ending) (w' : World) : Prop :=
  ∃ A' cap', e = .returned (.slice A' l.length cap') ∧ Own w' A' 3 (ints l) ∧ New w A' ∧ Below w.heap.size w w'
theorem PostI.mk {w w' : World} {l : List Int} {A' : Option Addr} {cap' : Nat} (o : Own w' A' 3 (ints l)) (n : New w A') (b : Below w.heap.size w w') : PostI w l (.returned (.slice A' l.length cap')) w' :=
  ⟨A', cap', rfl, o, n, b⟩
/-- A list of cells of the call's own. -/
def PostC (w : World) (l : List (Int × Int)) (e : Ending) (w' : World) : Prop :=
  ∃ A' cap', e = .returned (.slice A' l.length cap') ∧ Own w' A' 104 (flat l) ∧ New w A' ∧ Below w.heap.size w w'
theorem PostC.mk {w w' : World} {l : List (Int × Int)} {A' : Option Addr} {cap' : Nat} (o : Own w' A' 104 (flat l)) (n : New w A') (b : Below w.heap.size w w') : PostC w l (.returned (.slice A' l.length cap')) w' :=
  ⟨A', cap', rfl, o, n, b⟩
/-- A board whose cells are the call's own, and whether it succeeds. -/
def PostB (w : World) (R C : Int) (l : List (Int × Int)) (ok : Bool) (e : Ending) (w' : World) : Prop :=
  ∃ A' cap', e = .returned (.tuple #[.agg #[.int .i64 R, .int .i64 C, .slice A' l.length cap'], .bool ok]) ∧ Own w' A' 104 (flat l) ∧ New w A' ∧ Below w.heap.size w w'
theorem PostB.mk {w w' : World} {R C : Int} {l : List (Int × Int)} {ok : Bool} {A' : Option Addr} {cap' : Nat} (o : Own w' A' 104 (flat l)) (n : New w A') (b : Below w.heap.size w w') : PostB w R C l ok (.returned (.tuple #[.agg #[.int .i64 R, .int .i64 C, .slice A' l.length cap'], .bool ok])) w' :=
  ⟨A', cap', rfl, o, n, b⟩
theorem PostB.none_ {w w' : World} (b : Below w.heap.size w w') : PostB w 0 0 [] false (.returned (.tuple #[.agg #[.int .i64 0, .int .i64 0, .slice none 0 0], .bool false])) w' :=
  PostB.mk (l := []) Own.none_ New.none_ b
theorem PostL.none_ {w w' : World} (b : Below w.heap.size w w') : PostL w [] false (.returned (.tuple #[.slice none 0 0, .bool false])) w' :=
  PostL.mk (l := []) Own.none_ New.none_ b
/-- A board whose cells are the call's own. -/
def PostD (w : World) (R C : Int) (l : List (Int × Int)) (e : Ending) (w' : World) : Prop :=
  ∃ A' cap', e = .returned (.agg #[.int .i64 R, .int .i64 C, .slice A' l.length cap']) ∧ Own w' A' 104 (flat l) ∧ New w A' ∧ Below w.heap.size w w'
theorem PostD.mk {w w' : World} {R C : Int} {l : List (Int × Int)} {A' : Option Addr} {cap' : Nat} (o : Own w' A' 104 (flat l)) (n : New w A') (b : Below w.heap.size w w') : PostD w R C l (.returned (.agg #[.int .i64 R, .int .i64 C, .slice A' l.length cap'])) w' :=
  ⟨A', cap', rfl, o, n, b⟩
theorem markIntS_n (A : Option Addr) (cap n : Nat) (xs : List Value) (k : Int) (w : World) (hx : xs.length = n) (hn : n ≤ 1048576) (h0 : 0 ≤ k) (h1 : k ≤ 16777216) (ho : Own w A 3 xs) :
    Calls Try.prog 26 #[.slice A n cap, .int .i64 k] w fun e w' => e = .returned (.int .i64 (k + n)) ∧ Own w' A 3 (marks k n) ∧ Fx w w' A n := by
  rcases Nat.eq_zero_or_pos n with hz | hp
  · subst hz
    clear ho
    go_enter Try.func26, Try.ntmps26
    go_wp2
    go_rounds 1
    go_returns
    exact ⟨ret_int (by simp), fun h => absurd h (by rw [marks_length]; omega), same_fx⟩
  · exact (markIntS_any A cap n xs k w hx hn h0 h1 ho).mono fun e w' ⟨a, b, c⟩ => ⟨a, b, only_fx c hp⟩
theorem markCellS_n (A : Option Addr) (cap n : Nat) (xs : List Value) (k : Int) (w : World) (hx : xs.length = 2 * n) (hn : n ≤ 1048576) (h0 : 0 ≤ k) (h1 : k ≤ 16777216) (ho : Own w A 104 xs) :
    Calls Try.prog 61 #[.slice A n cap, .int .i64 k] w fun e w' => e = .returned (.int .i64 (k + 2 * n)) ∧ Own w' A 104 (marks k (2 * n)) ∧ Fx w w' A n := by
  rcases Nat.eq_zero_or_pos n with hz | hp
  · subst hz
    clear ho hx
    go_enter Try.func61, Try.ntmps61
    go_wp2
    go_rounds 1
    go_returns
    exact ⟨ret_int (by simp), fun h => absurd h (by rw [marks_length]; omega), same_fx⟩
  · exact (markCellS_any A cap n xs k w hx hn h0 h1 ho).mono fun e w' ⟨a, b, c⟩ => ⟨a, b, only_fx c hp⟩
theorem fx_alloc {w w' : World} {o : Obj} {A : Option Addr} {n : Nat} (h : Fx (w.alloc o) w' A n) : Fx w w' A n := by
  have hs := h.size
  rw [World.size_alloc] at hs
  refine ⟨h.os.trans rfl, h.tape.trans rfl, h.output.trans rfl, by omega, fun i hi hne => (h.block i (by rw [World.size_alloc]; omega) hne).trans (Below.heap_alloc _ _ _ hi)⟩
theorem markBoard_n (R C : Int) (A : Option Addr) (cap n : Nat) (xs : List Value) (k : Int) (w : World) (hx : xs.length = 2 * n) (hn : n ≤ 1048576) (h0 : 0 ≤ k) (h1 : k ≤ 16777216) (ho : Own w A 104 xs) :
    Calls Try.prog 46 #[.agg #[.int .i64 R, .int .i64 C, .slice A n cap], .int .i64 k] w fun e w' => e = .returned (.int .i64 (k + 2 * n)) ∧ Own w' A 104 (marks k (2 * n)) ∧ Fx w w' A n := by
  go_enter Try.func46, Try.ntmps46
  go_wp2_with fail
  refine (markCellS_n _ _ n xs _ _ hx hn h0 h1 (ho.keep (by (repeat' (first | (with_reducible exact Below.refl _ _) | (with_reducible assumption) | (with_reducible refine Below.alloc ?_ ?_ _) | (with_reducible refine Below.setCell ?_ ?_ _) | (with_reducible refine Below.drew ?_) | (with_reducible refine below_drewN ?_ _) | (with_reducible refine Below.trans ?_ (Below.mono (by assumption) ?_)) | (with_reducible exact Nat.le_refl _) | (simp; done) | omega | (simp at *; omega)))))).mono ?_; rintro e w1 ⟨rfl, o1, s1⟩
  have S1 := Lib.hid (fx_alloc s1)
  clear s1
  go_wp2
  go_returns
  exact ⟨rfl, o1, S1.out⟩
end Go.Proofs.Ytlambflmabecfaa
namespace Go.Proofs.Ytlambflmabecfaa
open Go.ChangeShapes Go.WideShapes Go.ChangeAt Go.RowKit Go.Joins Go.Deep
set_option linter.unusedSimpArgs false
set_option linter.unusedVariables false
set_option maxRecDepth 100000
theorem Own.set_far2 {w : World} {A : Option Addr} {t : TypeId} {xs : List Value} (h : Own w A t xs) (p : Addr) (u : Value) (hne : 0 < xs.length → ∀ a, A = some a → p.block ≠ a.block) : Own (w.setCell p u) A t xs := fun hx => by
  obtain ⟨g, rest, rfl, hw⟩ := h hx
  exact ⟨g, rest, rfl, hw.set_far p u (hne hx _ rfl)⟩
theorem whole_three {w : World} {g : Nat} {t : TypeId} {x y z a b c : Value} (h : Whole w g t [x, y, z]) : Whole (((w.setCell ⟨g, 0, none⟩ a).setCell ⟨g, 1, none⟩ b).setCell ⟨g, 2, none⟩ c) g t [a, b, c] := ((h.set 0 a).set 1 b).set 2 c
end Go.Proofs.Ytlambflmabecfaa
namespace Go.Proofs.Ytlambflmabecfaa
open Go.ChangeShapes Go.WideShapes Go.ChangeAt Go.RowKit Go.Joins Go.Deep
set_option linter.unusedSimpArgs false
set_option linter.unusedVariables false
set_option maxRecDepth 100000
theorem own_of_row {w : World} {base : Nat} {e : TypeId} {size n cap : Nat} {A : Option Addr} {xs : List Value} (h : w.ownsRow base e size (.slice A n cap) n xs) : Own w A e xs ∧ ∀ a, A = some a → base ≤ a.block := by
  rcases h.2 with ⟨h1, h2⟩ | ⟨g, cap', cur, h1, h2, h3, h4, h5, h6, h7⟩
  · cases h1
    exact ⟨fun hx => by have := h.1; omega, fun a ha => by cases ha⟩
  · cases h1
    refine ⟨fun _ => ⟨g, cur.toList.drop (n * size), rfl, ?_⟩, fun a ha => by cases ha; exact h2⟩
    unfold Whole
    rw [h3, ← h7, List.take_append_drop]
theorem flat_append (l m : List (Int × Int)) : flat (l ++ m) = flat l ++ flat m := by simp [flat]
theorem two_cells {w : World} {x y : Value} {t : TypeId} : ∀ j u, [x, y][j]? = some u → (w.alloc (.cells #[x, y] t)).cell? ((⟨w.heap.size, 0, none⟩ : Addr).add j) = some u := by
  intro j u h
  rw [add_plain, Nat.zero_add]
  have hw : (w.alloc (.cells #[x, y] t)).heap[w.heap.size]? = some (.cells #[x, y] t (0, 0)) := heap_alloc_new w _
  rw [cell_of_row _ _ _ _ _ _ hw]
  simpa using h
theorem two_one {a b : Int} : ∀ u ∈ [Value.int .i64 a, Value.int .i64 b], u.oneCell' = true := by
  intro u hu
  simp only [List.mem_cons, List.not_mem_nil, or_false] at hu
  rcases hu with rfl | rfl <;> rfl
theorem row_keep {w w' : World} {base : Nat} {e : TypeId} {size n : Nat} {v : Value} {xs : List Value} (h : w.ownsRow base e size v n xs) (hb : Below w.heap.size w w') : w'.ownsRow base e size v n xs :=
  h.kept (row := none) ⟨hb.os, hb.tape, hb.output, hb.size, fun i hi _ => hb.block i hi⟩ (by cases hv : v.ownBlock <;> simp)
theorem row_below {a w w' : World} {B : Nat} {e : TypeId} {size n : Nat} {v : Value} {xs : List Value} (h : w.ownsRow B e size v n xs) (hb : Below B a w) (hB : B ≤ w.heap.size) (hg : w.grownBy w' v.ownBlock) : Below B a w' :=
  hb.grown hg hB (fun k hk => (h.lt k hk).1)
theorem one_cellI {w : World} {x : Value} {t : TypeId} : ∀ j u, [x][j]? = some u → (w.alloc (.cells #[x] t)).cell? ((⟨w.heap.size, 0, none⟩ : Addr).add j) = some u := by
  intro j u h
  rw [add_plain, Nat.zero_add]
  have hw : (w.alloc (.cells #[x] t)).heap[w.heap.size]? = some (.cells #[x] t (0, 0)) := heap_alloc_new w _
  rw [cell_of_row _ _ _ _ _ _ hw]
  simpa using h
theorem one_oneI {k : IntKind} {a : Int} : ∀ u ∈ [Value.int k a], u.oneCell' = true := by
  intro u hu
  simp only [List.mem_cons, List.not_mem_nil, or_false] at hu
  rw [hu]; rfl
theorem flat_one (l : List (Int × Int)) : ∀ u ∈ flat l, u.oneCell' = true := by
  intro u hu
  unfold flat at hu
  rw [List.mem_flatMap] at hu
  obtain ⟨c, _, hc⟩ := hu
  simp only [List.mem_cons, List.not_mem_nil, or_false] at hc
  rcases hc with rfl | rfl <;> rfl
/-- An append of a slice that reads as these words, nil let in. -/
theorem wpList_append_rd {P : Program} {w : World} {ops : Array Oper} {rest : List Oper} {o : Oper} {a : Act} {Q : Exit → Act → World → Prop} (hgd : o.guard = none) (s x : Operand) (t : TypeId)
    (ho : o.op = .call { callee := .builtin .append, args := #[s, x], argTypes := #[t, t] })
    (base : Nat) (e : TypeId) (i : TypeInfo) (z : Value) (size bytes : Nat) (ht : P.underlying t = some (.slice e)) (hi : P.info? e = some i) (hz : i.zero = some z)
    (hsize : i.size = size) (hby : i.bytes = bytes) (hzs : z.cells.size = size) (hsz : 0 < size)
    (v : Value) (n : Nat) (xs : List Value) (hs : a.eval s = v) (hown : w.ownsRow base e size v n xs)
    (A : Option Addr) (m c B : Nat) (news : List Value) (hx : a.eval x = .slice A m c) (hl : news.length = m * size) (hc0 : A = none → c = 0) (hr : Rd w B A news) (h1 : ∀ u ∈ news, u.oneCell' = true)
    (h63 : n + m ≤ maxLen) (hbytes : (n + m) * bytes ≤ 140737488355328) (hbase : base ≤ w.heap.size)
    (h : ∀ v' w', w'.ownsRow base e size v' (n + m) (xs ++ news) → w.grownBy w' v.ownBlock → wpList P ops Q rest (a.put o.dst v') w') : wpList P ops Q (o :: rest) a w := by
  cases A with
  | none =>
    have hm : news = [] := by
      rcases Nat.eq_zero_or_pos news.length with h0 | h0
      · exact List.eq_nil_of_length_eq_zero h0
      · obtain ⟨b, q, e, _⟩ := hr h0
        cases e
    subst hm
    have hm0 : m = 0 := by
      rcases Nat.eq_zero_or_pos m with h0 | h0
      · exact h0
      · have := Nat.mul_pos h0 hsz
        simp at hl
        omega
    subst hm0
    rw [hc0 rfl] at hx
    refine wpList_append_own_none hgd s x t ho base e i size ht hi v n xs hs hown hx (h v w ?_ (World.grownBy.refl w _))
    rw [List.append_nil]
    exact hown
  | some ad =>
    refine wpList_append_own (w := w) hgd s x t ho base e i z size bytes ht hi hz hsize hby hzs hsz v n xs hs hown ad m c news hx hl ?_ h1 h63 hbytes hbase (fun v' w' a b _ => h v' w' a b)
    intro j u hj
    obtain ⟨b, q, e, _, hc⟩ := hr (by have := (List.getElem?_eq_some_iff.1 hj).1; omega)
    cases e
    rw [add_plain]
    exact hc j u hj
end Go.Proofs.Ytlambflmabecfaa
namespace Go.Proofs.Ytlambflmabecfaa
open Go.ChangeShapes Go.WideShapes Go.ChangeAt Go.RowKit Go.Joins Go.Deep
set_option linter.unusedSimpArgs false
set_option linter.unusedVariables false
set_option maxRecDepth 100000
set_option maxHeartbeats 400000
def sizeB (R C : Int) : Bool := decide (1 ≤ R ∧ R ≤ 10 ∧ 1 ≤ C ∧ C ≤ 9)
def goodB (R C : Int) (l : List (Int × Int)) : Bool := sizeB R C && decide ((l.length : Int) = R * C) && l.all fun c => good c.1 c.2
theorem sizeB_iff {R C : Int} : sizeB R C = true ↔ 1 ≤ R ∧ R ≤ 10 ∧ 1 ≤ C ∧ C ≤ 9 := by unfold sizeB; simp
theorem mul_bound {R C : Int} (h : sizeB R C = true) : 1 ≤ R * C ∧ R * C ≤ 90 := by
  rw [sizeB_iff] at h
  obtain ⟨a, b, c, d⟩ := h
  have h1 : 1 * 1 ≤ R * C := Int.mul_le_mul a c (by omega) (by omega)
  have h2 : R * C ≤ 10 * 9 := Int.mul_le_mul b d (by omega) (by omega)
  omega
theorem impl_isBoardSize (R C : Int) (w : World) :
    Calls Try.prog 83 #[.int .i64 R, .int .i64 C] w fun e w' => e = .returned (.bool (sizeB R C)) ∧ w = w' := by
  go_enter Try.func83, Try.ntmps83
  go_wp2
  all_goals go_returns
  all_goals refine ⟨ret_bool (by unfold sizeB; first | (first | rfl | (refine Bool.eq_iff_iff.2 ?_; simp only [Bool.and_eq_true, Bool.or_eq_true, Bool.not_eq_true', decide_eq_true_eq, decide_eq_false_iff_not, beq_iff_eq, bne_iff_ne, ne_eq, true_iff, iff_true, false_iff, iff_false, Bool.false_eq_true, Bool.true_eq_false] <;> omega) | (simp; omega)) | (refine Bool.eq_iff_iff.2 ?_; simp only [Bool.and_eq_true, Bool.or_eq_true, Bool.not_eq_true', decide_eq_true_eq, decide_eq_false_iff_not, beq_iff_eq, bne_iff_ne, ne_eq, true_iff, iff_true, false_iff, iff_false, Bool.false_eq_true, Bool.true_eq_false, beq_eq_false_iff_ne, bne_eq_false_iff_eq, Bool.not_eq_false, Bool.not_eq_true, Bool.not_eq_eq_eq_not, Bool.not_true, Bool.not_false, Bool.and_eq_false_imp, Bool.or_eq_false_iff] at * <;> omega)), rfl⟩
theorem wrapRC {R C : Int} (h : sizeB R C = true) : IntKind.i64.wrap (R * C) = R * C := by
  have := mul_bound h
  exact IntWalk.i64_in (R * C) (by omega)
theorem goodB_eq {R C : Int} {l : List (Int × Int)} (hs : sizeB R C = true) (hl : (l.length : Int) = R * C) : goodB R C l = goodL l := by
  have := mul_bound hs
  unfold goodB goodL
  rw [hs, decide_eq_true hl, decide_eq_true (by omega : l.length ≤ 90)]
  rfl
theorem goodB_all {R C : Int} {l : List (Int × Int)} (hs : sizeB R C = true) (hl : (l.length : Int) = R * C) : goodB R C l = l.all fun c => good c.1 c.2 := by
  unfold goodB
  rw [hs, decide_eq_true hl]
  rfl
theorem goodB_size {R C : Int} {l : List (Int × Int)} (hs : sizeB R C = false) : goodB R C l = false := by unfold goodB; rw [hs]; rfl
theorem goodB_len {R C : Int} {l : List (Int × Int)} (hl : ¬ (l.length : Int) = R * C) : goodB R C l = false := by
  unfold goodB
  rw [decide_eq_false hl, Bool.and_false]
  rfl
theorem impl_IsBoard (R C : Int) (A : Option Addr) (cap : Nat) (l : List (Int × Int)) (w : World) (hn : l.length ≤ 1048576) (hr : Rd w w.heap.size A (flat l)) :
    Calls Try.prog 75 #[.agg #[.int .i64 R, .int .i64 C, .slice A l.length cap]] w fun e w' => e = .returned (.bool (goodB R C l)) ∧ Below w.heap.size w w' := by
  rcases Bool.eq_false_or_eq_true (sizeB R C) with hs | hs
  · have hm := wrapRC hs
    by_cases hl : (l.length : Int) = R * C
    · have hlb : ((l.length : Int) == R * C) = true := by simpa using hl
      rw [goodB_eq hs hl]
      clear hl
      go_enter Try.func75, Try.ntmps75
      go_wp2_with fail
      refine (impl_isBoardSize _ _ _).mono ?_; rintro e w1 ⟨rfl, rfl⟩
      rw [hs]
      clear hs
      go_wp2_with fail
      refine (impl_areCells _ _ l _ hn ((hr.below (by (repeat' (first | (with_reducible exact Below.refl _ _) | (with_reducible assumption) | (with_reducible refine Below.alloc ?_ ?_ _) | (with_reducible refine Below.setCell ?_ ?_ _) | (with_reducible refine Below.drew ?_) | (with_reducible refine below_drewN ?_ _) | (with_reducible refine Below.trans ?_ (Below.mono (by assumption) ?_)) | (with_reducible exact Nat.le_refl _) | (simp; done) | omega | (simp at *; omega))) : Below w.heap.size w _)).mono (by go_size))).mono ?_; rintro e w1 ⟨rfl, b1⟩
      go_wp2
      go_returns
      exact ⟨rfl, by (repeat' (first | (with_reducible exact Below.refl _ _) | (with_reducible assumption) | (with_reducible refine Below.alloc ?_ ?_ _) | (with_reducible refine Below.setCell ?_ ?_ _) | (with_reducible refine Below.drew ?_) | (with_reducible refine below_drewN ?_ _) | (with_reducible refine Below.trans ?_ (Below.mono (by assumption) ?_)) | (with_reducible exact Nat.le_refl _) | (simp; done) | omega | (simp at *; omega)))⟩
    · have hlb : ((l.length : Int) == R * C) = false := by simpa using hl
      rw [goodB_len hl]
      clear hl
      go_enter Try.func75, Try.ntmps75
      go_wp2_with fail
      refine (impl_isBoardSize _ _ _).mono ?_; rintro e w1 ⟨rfl, rfl⟩
      rw [hs]
      clear hs
      go_wp2
      go_returns
      exact ⟨rfl, by (repeat' (first | (with_reducible exact Below.refl _ _) | (with_reducible assumption) | (with_reducible refine Below.alloc ?_ ?_ _) | (with_reducible refine Below.setCell ?_ ?_ _) | (with_reducible refine Below.drew ?_) | (with_reducible refine below_drewN ?_ _) | (with_reducible refine Below.trans ?_ (Below.mono (by assumption) ?_)) | (with_reducible exact Nat.le_refl _) | (simp; done) | omega | (simp at *; omega)))⟩
  · rw [goodB_size hs]
    go_enter Try.func75, Try.ntmps75
    go_wp2_with fail
    refine (impl_isBoardSize _ _ _).mono ?_; rintro e w1 ⟨rfl, rfl⟩
    rw [hs]
    clear hs
    go_wp2
    go_returns
    exact ⟨rfl, by (repeat' (first | (with_reducible exact Below.refl _ _) | (with_reducible assumption) | (with_reducible refine Below.alloc ?_ ?_ _) | (with_reducible refine Below.setCell ?_ ?_ _) | (with_reducible refine Below.drew ?_) | (with_reducible refine below_drewN ?_ _) | (with_reducible refine Below.trans ?_ (Below.mono (by assumption) ?_)) | (with_reducible exact Nat.le_refl _) | (simp; done) | omega | (simp at *; omega)))⟩
theorem spec_boGood (R C : Int) (A : Option Addr) (cap : Nat) (l : List (Int × Int)) (w : World) (hn : l.length ≤ 1048576) (hr : Rd w w.heap.size A (flat l)) :
    Calls Try.prog 62 #[.agg #[.int .i64 R, .int .i64 C, .slice A l.length cap]] w fun e w' => e = .returned (.bool (goodB R C l)) ∧ Below w.heap.size w w' := by
  rcases Bool.eq_false_or_eq_true (sizeB R C) with hs | hs
  · have hm := wrapRC hs
    obtain ⟨g1, g2, g3, g4⟩ := sizeB_iff.1 hs
    have l1 : (decide (1 ≤ R) && decide (R ≤ 10)) = true := by simp; omega
    have l2 : (decide (1 ≤ C) && decide (C ≤ 9)) = true := by simp; omega
    have L1 := Lib.hid l1
    have L2 := Lib.hid l2
    clear l1 l2
    by_cases hl : (l.length : Int) = R * C
    · have hlb : ((l.length : Int) != R * C) = false := by simpa using hl
      rw [goodB_all hs hl]
      clear hl hs
      go_enter Try.func62, Try.ntmps62
      go_wp2_with fail
      refine (spec_l1In _ _ _ _).mono ?_; rintro e w1 ⟨rfl, rfl⟩
      rw [L1.out]
      go_wp2_with fail
      refine (spec_l1In _ _ _ _).mono ?_; rintro e w1 ⟨rfl, rfl⟩
      rw [L2.out]
      go_wp2
      go_loopw [29] (fun i wr => ∃ k : Nat, k ≤ l.length ∧ i = .int .i64 k ∧ ((l.take k).all fun c => good c.1 c.2) = true ∧ Below w.heap.size w wr) (fun i _ => l.length - (intOf i).toNat)
      case atStart => exact ⟨0, Nat.zero_le _, rfl, rfl, by (repeat' (first | (with_reducible exact Below.refl _ _) | (with_reducible assumption) | (with_reducible refine Below.alloc ?_ ?_ _) | (with_reducible refine Below.setCell ?_ ?_ _) | (with_reducible refine Below.drew ?_) | (with_reducible refine below_drewN ?_ _) | (with_reducible refine Below.trans ?_ (Below.mono (by assumption) ?_)) | (with_reducible exact Nat.le_refl _) | (simp; done) | omega | (simp at *; omega)))⟩
      case round =>
        obtain ⟨k, hk, rfl, hall, hb⟩ := hrel
        by_cases hlt : k < l.length
        · obtain ⟨b, o, rfl, hbl, hc⟩ := hr (by rw [flat_length]; omega)
          have hc0 : wr.cell? ⟨b, o + k * 2, none⟩ = some (.int .i64 l[k].1) := (hb.cell (p := ⟨b, _, none⟩) hbl).trans (hc _ _ (flat_at l k hlt).1)
          have hc1 : wr.cell? ⟨b, o + k * 2 + 1, none⟩ = some (.int .i64 l[k].2) := (hb.cell (p := ⟨b, _, none⟩) hbl).trans (hc _ _ (flat_at l k hlt).2)
          have HT := Lib.hid (all_take hlt hall)
          have HN := Lib.hid (all_not hlt)
          have hs := hb.size
          clear hr hc hall
          generalize l[k].1 = x at *
          generalize l[k].2 = y at *
          rcases Bool.eq_false_or_eq_true (good x y) with hg | hg
          · have HG := Lib.hid hg
            go_wp2_with fail
            refine (spec_paGood _ _ _).mono ?_; rintro e w1 ⟨rfl, b1⟩
            rw [hg]
            clear hg hc0 hc1
            go_wp2
            go_roundw
            case rel => exact ⟨k + 1, by omega, by go_num, HT.out HG.out, by (repeat' (first | (with_reducible exact Below.refl _ _) | (with_reducible assumption) | (with_reducible refine Below.alloc ?_ ?_ _) | (with_reducible refine Below.setCell ?_ ?_ _) | (with_reducible refine Below.drew ?_) | (with_reducible refine below_drewN ?_ _) | (with_reducible refine Below.trans ?_ (Below.mono (by assumption) ?_)) | (with_reducible exact Nat.le_refl _) | (simp; done) | omega | (simp at *; omega)))⟩
            case measure => simp [intOf]; omega
          · have HG := Lib.hid hg
            go_wp2_with fail
            refine (spec_paGood _ _ _).mono ?_; rintro e w1 ⟨rfl, b1⟩
            rw [hg]
            clear hg hc0 hc1
            go_wp2
            go_returns
            exact ⟨ret_bool (by rw [HN.out HG.out]), by (repeat' (first | (with_reducible exact Below.refl _ _) | (with_reducible assumption) | (with_reducible refine Below.alloc ?_ ?_ _) | (with_reducible refine Below.setCell ?_ ?_ _) | (with_reducible refine Below.drew ?_) | (with_reducible refine below_drewN ?_ _) | (with_reducible refine Below.trans ?_ (Below.mono (by assumption) ?_)) | (with_reducible exact Nat.le_refl _) | (simp; done) | omega | (simp at *; omega)))⟩
        · obtain rfl : k = l.length := by omega
          rw [List.take_length] at hall
          have HQ := Lib.hid hall
          clear hall
          go_wp2
          go_returns
          exact ⟨ret_bool HQ.out.symm, hb⟩
    · have hlb : ((l.length : Int) != R * C) = true := by simpa using hl
      rw [goodB_len hl]
      clear hl hs
      go_enter Try.func62, Try.ntmps62
      go_wp2_with fail
      refine (spec_l1In _ _ _ _).mono ?_; rintro e w1 ⟨rfl, rfl⟩
      rw [L1.out]
      go_wp2_with fail
      refine (spec_l1In _ _ _ _).mono ?_; rintro e w1 ⟨rfl, rfl⟩
      rw [L2.out]
      go_wp2
      go_returns
      exact ⟨rfl, by (repeat' (first | (with_reducible exact Below.refl _ _) | (with_reducible assumption) | (with_reducible refine Below.alloc ?_ ?_ _) | (with_reducible refine Below.setCell ?_ ?_ _) | (with_reducible refine Below.drew ?_) | (with_reducible refine below_drewN ?_ _) | (with_reducible refine Below.trans ?_ (Below.mono (by assumption) ?_)) | (with_reducible exact Nat.le_refl _) | (simp; done) | omega | (simp at *; omega)))⟩
  · rw [goodB_size hs]
    rcases Bool.eq_false_or_eq_true (decide (1 ≤ R) && decide (R ≤ 10)) with l1 | l1
    · have l2 : (decide (1 ≤ C) && decide (C ≤ 9)) = false := by
        unfold sizeB at hs
        simp at hs l1 ⊢
        omega
      have L1 := Lib.hid l1
      have L2 := Lib.hid l2
      clear l1 l2 hs
      go_enter Try.func62, Try.ntmps62
      go_wp2_with fail
      refine (spec_l1In _ _ _ _).mono ?_; rintro e w1 ⟨rfl, rfl⟩
      rw [L1.out]
      go_wp2_with fail
      refine (spec_l1In _ _ _ _).mono ?_; rintro e w1 ⟨rfl, rfl⟩
      rw [L2.out]
      go_wp2
      go_returns
      exact ⟨rfl, by (repeat' (first | (with_reducible exact Below.refl _ _) | (with_reducible assumption) | (with_reducible refine Below.alloc ?_ ?_ _) | (with_reducible refine Below.setCell ?_ ?_ _) | (with_reducible refine Below.drew ?_) | (with_reducible refine below_drewN ?_ _) | (with_reducible refine Below.trans ?_ (Below.mono (by assumption) ?_)) | (with_reducible exact Nat.le_refl _) | (simp; done) | omega | (simp at *; omega)))⟩
    · have L1 := Lib.hid l1
      clear l1 hs
      go_enter Try.func62, Try.ntmps62
      go_wp2_with fail
      refine (spec_l1In _ _ _ _).mono ?_; rintro e w1 ⟨rfl, rfl⟩
      rw [L1.out]
      go_wp2
      go_returns
      exact ⟨rfl, by (repeat' (first | (with_reducible exact Below.refl _ _) | (with_reducible assumption) | (with_reducible refine Below.alloc ?_ ?_ _) | (with_reducible refine Below.setCell ?_ ?_ _) | (with_reducible refine Below.drew ?_) | (with_reducible refine below_drewN ?_ _) | (with_reducible refine Below.trans ?_ (Below.mono (by assumption) ?_)) | (with_reducible exact Nat.le_refl _) | (simp; done) | omega | (simp at *; omega)))⟩
end Go.Proofs.Ytlambflmabecfaa
namespace Go.Proofs.Ytlambflmabecfaa
open Go.ChangeShapes Go.WideShapes Go.ChangeAt Go.RowKit Go.Joins Go.Deep
set_option linter.unusedSimpArgs false
set_option linter.unusedVariables false
set_option maxRecDepth 100000
theorem cell_at2 {w w' : World} {b o : Nat} {l : List (Int × Int)} (hb : Below w.heap.size w w') (hbl : b < w.heap.size) (hc : ∀ j u, (flat l)[j]? = some u → w.cell? ⟨b, o + j, none⟩ = some u) {k : Nat} (h : k < l.length) :
    w'.cell? ⟨b, o + k * 2, none⟩ = some (.int .i64 l[k].1) ∧ w'.cell? ⟨b, o + k * 2 + 1, none⟩ = some (.int .i64 l[k].2) :=
  ⟨(hb.cell (p := ⟨b, _, none⟩) hbl).trans (hc _ _ (flat_at l k h).1), (hb.cell (p := ⟨b, _, none⟩) hbl).trans (hc _ _ (flat_at l k h).2)⟩
theorem row_keep2 {w v w' : World} {base : Nat} {e : TypeId} {size n : Nat} {u : Value} {xs : List Value} (h : w.ownsRow base e size u n xs) (ha : Below w.heap.size w v) (hb : Below v.heap.size v w') : w'.ownsRow base e size u n xs := row_keep (row_keep h ha) hb
theorem slice_of_row {w : World} {base : Nat} {e : TypeId} {size n : Nat} {v : Value} {xs : List Value} (h : w.ownsRow base e size v n xs) : ∃ A cap, v = .slice A n cap := by
  rcases h.2 with ⟨rfl, h0⟩ | ⟨g, cap, _, rfl, _⟩
  · exact ⟨none, 0, by rw [h0]⟩
  · exact ⟨_, _, rfl⟩
theorem good_turn {l : List (Int × Int)} (h : goodL l = true) {k : Nat} (hk : k < l.length) : good l[k].1 l[k].2 = true := by
  unfold goodL at h
  rw [Bool.and_eq_true, List.all_eq_true] at h
  exact h.2 _ (List.getElem_mem hk)
theorem goodB_parts {R C : Int} {l : List (Int × Int)} (h : goodB R C l = true) : goodL l = true ∧ l.length ≤ 90 ∧ 0 < l.length := by
  unfold goodB at h
  simp only [Bool.and_eq_true, decide_eq_true_eq] at h
  have hm := mul_bound h.1.1
  have hl := h.1.2
  refine ⟨?_, by omega, by omega⟩
  unfold goodL
  rw [decide_eq_true (by omega : l.length ≤ 90), Bool.true_and]
  exact h.2
theorem goodB_iff {R C : Int} {l : List (Int × Int)} : goodB R C l = true ↔ sizeB R C = true ∧ (l.length : Int) = R * C ∧ ∀ c ∈ l, good c.1 c.2 = true := by
  unfold goodB
  rw [Bool.and_eq_true, Bool.and_eq_true, decide_eq_true_eq, List.all_eq_true, and_assoc]
/-- A row of one type and a block of another are apart. -/
theorem row_apart {w : World} {base : Nat} {e t : TypeId} {size n g : Nat} {v : Value} {xs ys : List Value} (h : w.ownsRow base e size v n xs) (hw : Whole w g t ys) (hne : e ≠ t) : some g ≠ v.ownBlock := by
  rcases h.2 with ⟨rfl, _⟩ | ⟨k, cap, cur, rfl, _, hh, _⟩
  · intro h; cases h
  · intro h
    obtain rfl : g = k := by simpa [Value.ownBlock] using h
    unfold Whole at hw
    rw [hw] at hh
    cases hh
    exact hne rfl
theorem Whole.grown {w w' : World} {g : Nat} {t : TypeId} {xs : List Value} {row : Option Nat} (h : Whole w g t xs) (hg : w.grownBy w' row) (hne : some g ≠ row) : Whole w' g t xs := (hg.block g h.lt hne).trans h
theorem two_boxes (w : World) (a : List Value) (ta : TypeId) (b : List Value) (tb : TypeId) : ∃ v, (w.alloc (.cells a.toArray ta)).alloc (.cells b.toArray tb) = v ∧
    Whole v w.heap.size ta a ∧ Whole v (w.heap.size + 1) tb b ∧ Below w.heap.size w v ∧ v.heap.size = w.heap.size + 2 := by
  refine ⟨_, rfl, Whole.alloc (heap_alloc_new w _) _, ?_, ((Below.refl _ _).alloc (Nat.le_refl _) _).alloc (by rw [World.size_alloc]; omega) _, by rw [World.size_alloc, World.size_alloc]⟩
  have h := heap_alloc_new (w.alloc (.cells a.toArray ta)) (.cells b.toArray tb)
  rw [World.size_alloc] at h
  exact h
theorem three_boxes (w : World) (a : List Value) (ta : TypeId) (b : List Value) (tb : TypeId) (c : List Value) (tc : TypeId) : ∃ v, ((w.alloc (.cells a.toArray ta)).alloc (.cells b.toArray tb)).alloc (.cells c.toArray tc) = v ∧
    Whole v w.heap.size ta a ∧ Whole v (w.heap.size + 1) tb b ∧ Whole v (w.heap.size + 1 + 1) tc c ∧ Below w.heap.size w v ∧ v.heap.size = w.heap.size + 3 := by
  obtain ⟨v, hv, x0, x1, b0, hz⟩ := two_boxes w a ta b tb
  rw [hv]
  refine ⟨_, rfl, x0.alloc _, x1.alloc _, ?_, b0.alloc (by omega) _, by rw [World.size_alloc]; omega⟩
  have h := heap_alloc_new v (.cells c.toArray tc)
  rw [hz] at h
  exact h
end Go.Proofs.Ytlambflmabecfaa
