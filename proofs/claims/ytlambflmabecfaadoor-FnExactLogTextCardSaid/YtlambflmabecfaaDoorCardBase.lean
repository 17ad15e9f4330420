/-
  THE ROW BUILDER FOR LAWS OVER PACKAGE-LEVEL TABLES (their rows list them: 'laid'): from a walk to the row, and what a table of texts holds.
-/
import Derived.Test.YtlambflmabecfaaDoorCards
import Derived.Test.YtlambflmabecfaaDoorTie
import Derived.OpenVars
import Derived.Deep.DeepHandedRow
import Derived.Lib.LaidTab
import Derived.JoinedCond
import Derived.Test.YtlambflmabecfaaDoorBase
namespace Go.Proofs.YtlambflmabecfaaDoor
open Go.ChangeShapes Go.WideShapes Go.ChangeAt Go.RowKit Go.Joins Go.Deep
set_option linter.unusedSimpArgs false
set_option linter.unusedVariables false
set_option maxRecDepth 100000
/-- What such a law's walk must give. -/
def WalkL (P : Program) (K : FuncId) (fn : Func) (laid : List (String × DataW Unit)) : Prop :=
  ∀ (H : Type) (enc : TypeId × Value → H) (W : World) (base : Nat) (args : Array Value) (ds : List (DataW H)) (ps : List MemPlace),
    DataW.TrodAll enc P W 0 (fun _ => true) true fn.params.toList args.toList ds ps →
    (∀ (j : Nat) t v, fn.params[j]? = some t → args[j]? = some v → Value.okWide P W .any base t v) → laidMetH P laid W →
    Calls P K args W fun e W' => e = .returned (.bool true) ∧ Below W.heap.size W W'
theorem liftedL {C : Checked} {os : Os} {K : FuncId} {fn : Func} {s : ChangeSpec} {laid : List (String × DataW Unit)} (started : os.Started) {H : Type} {enc : TypeId × Value → H} {bt : TypeId} {F : Stop.Interp}
    (own : ownKnob C.prog.godebug = none) (noInit : C.prog.inits.idxOf? K = none) (hfn : C.prog.funcs[K]? = some fn)
    (witness : ∃ (w : World) (tape : Tape) (i : Input), w.os = os ∧ (w.forCall tape i).Shaped C.prog ∧ i.vars = [] ∧ Input.okWide C.prog (w.forCall tape i) .any w.heap.size K i ∧
      (OpenSpec.ofChange s).preRow enc C.prog fn [] false laid (w.forCall tape i).memory i.args ∧ ({} : Assume).holds C.prog (lone (Frame.enter C.prog K i.args .normal) [] (w.forCall tape i)))
    (hl : laidOutB C.prog = true) (hts : (fn.params.toList.all fun t => C.prog.readableRec t && decide (t < C.prog.types.size)) = true) (hvr : varsRowed C.prog s.vars = true)
    (hbt : fn.resultTypes = #[bt]) (hub : C.prog.underlying bt = some .bool)
    (hspec : ∀ ds gs : List (DataW H), ds.length = fn.params.size → gs.length = s.vars.length → (s.fn H (ds ++ gs)).results = [.lit (.bool true)] ∧ (s.fn H (ds ++ gs)).args = ds ∧ (s.fn H (ds ++ gs)).vars = gs)
    (hwalk : WalkL C.prog K fn laid) :
    ReturnsInHanded {} C os K .any ((OpenSpec.ofChange s).preRow enc C.prog fn [] false laid) (((OpenSpec.ofChange s).at F).post enc C.prog fn false true false false) := by
  refine returnsInHanded_of_row own started noInit hfn witness ?_
  intro W base args ds gs before hval hW _ _ _ hL _ _
  have hW' := hW
  obtain ⟨p, q, hA, hV, rfl, _, _⟩ := hW
  have hV' : DataW.TrodVars enc C.prog W (fun _ => true) s.vars gs q := hV
  have hlen : ds.length = fn.params.size := by
    have := (trodAll_length hA).2
    simpa using this
  have hglen : gs.length = s.vars.length := by
    have key : ∀ (ns : List String) (gs : List (DataW H)) (q : List MemPlace), DataW.TrodVars enc C.prog W (fun _ => true) ns gs q → gs.length = ns.length := by
      intro ns
      induction ns with
      | nil => intro gs q h; cases gs with
        | nil => rfl
        | cons _ _ => exact h.elim
      | cons n ns ih => intro gs q h; cases gs with
        | nil => exact h.elim
        | cons d gs =>
          obtain ⟨_, _, _, _, _, q', _, _, _, _, hs, _⟩ := h
          simp [ih gs q' hs]
    exact key _ _ _ hV'
  have hlt : ∀ x ∈ p ++ q, x.block < W.heap.size := fun x hx => hW'.lt x hx
  refine (hwalk H enc W base args ds p hA hval hL).mono fun e W' ⟨he, hb⟩ => ⟨_, he, ?_⟩
  obtain ⟨s1, s2, s3⟩ := hspec ds gs hlen hglen
  have hts' : ∀ t ∈ fn.params.toList, C.prog.readableRec t = true ∧ t < C.prog.types.size := fun t ht => by
    have := List.all_eq_true.1 hts t ht
    simpa using this
  refine ⟨ds, gs, p ++ q, [], p, q, hW', ?_, ?_, ?_, ?_, ?_⟩
  · show DataW.TrodAll _ _ _ _ _ _ _ _ (s.fn H (ds ++ gs)).results []
    rw [s1, hbt]
    exact trodAll_mk1 (shut_bool hub _)
  · show DataW.TrodAll _ _ _ _ _ _ _ _ (s.fn H (ds ++ gs)).args p
    rw [s2]
    exact args_back hl hb hts' hA (fun x hx => hlt x (List.mem_append_left _ hx))
  · show DataW.TrodVars _ _ _ _ s.vars (s.fn H (ds ++ gs)).vars q
    rw [s3]
    exact Below.trodVars hl hb hvr hV'
  · exact World.keptBut_mono (fun x hx => ⟨hx, by rcases List.mem_append.1 hx with h | h; exact .inr (.inl h); exact .inr (.inr h)⟩) (hb.frame (· ∈ p ++ q))
  · intro h; cases h
/-- A table of texts, as data. -/
def textData {H : Type} (l : List (List UInt8)) : DataW H := .agg (l.map fun s => .lit (.string s))
theorem texts_of {H : Type} {enc : TypeId × Value → H} {P : Program} {w : World} {base : Nat} {sp : Nat → Bool} {held : Bool} {fuel : Nat} {t e : TypeId} {n : Nat} {cs : List Value} {l : List (List UInt8)} {p : List MemPlace}
    (ht : P.underlying t = some (.array n e)) (he : P.underlying e = some .string) (hce : P.cellsOf e = 1) (h : DataW.trod enc P w base sp held fuel t cs = some (textData l, p)) :
    ∀ (i : Nat) (s : List UInt8), l[i]? = some s → cs[i]? = some (Value.string ⟨s.toArray⟩) := by
  obtain ⟨xs, m, _, hx, hcl, hn, hi⟩ := DataW.trod_array ht h
  simp only [Prod.mk.injEq, textData, DataW.agg.injEq] at hx
  intro i s hs
  have h1 : (xs.map (·.1))[i]? = some (DataW.lit (.string s)) := by rw [← hx.1]; simp [hs]
  rw [List.getElem?_map, Option.map_eq_some_iff] at h1
  obtain ⟨y, hy, hy1⟩ := h1
  have hin : i < n := by rw [← hn]; exact (List.getElem?_eq_some_iff.1 hy).1
  have h2 := hi i hin
  rw [hy, hce, Nat.mul_one] at h2
  obtain ⟨b, hb, hb2, _⟩ := DataW.trod_string he h2
  rw [hb2] at hy1
  simp only [DataW.lit.injEq, Lit.string.injEq] at hy1
  have h3 : cs[i]? = some (.string b) := by
    have := congrArg (fun z => z[0]?) hb
    simpa [List.getElem?_take, List.getElem?_drop] using this
  rw [h3, ← hy1]
end Go.Proofs.YtlambflmabecfaaDoor
