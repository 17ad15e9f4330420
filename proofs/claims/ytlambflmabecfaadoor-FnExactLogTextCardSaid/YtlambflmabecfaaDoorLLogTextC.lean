/- For every list of entries, LogText of the program answers as the model does, and keeps its argument. The row lists the tables of names and three tables of the library; the card ties them to the program's text. No condition. -/
import Derived.Test.YtlambflmabecfaaDoorCardBase
import Derived.Test.YtlambflmabecfaaDoorLogO
import Derived.Test.YtlambflmabecfaaDoorLLogText
namespace Go.Proofs.YtlambflmabecfaaDoor
open Go.ChangeShapes Go.WideShapes Go.ChangeAt Go.RowKit Go.Joins Go.Deep
set_option linter.unusedSimpArgs false
set_option linter.unusedVariables false
set_option maxRecDepth 100000
set_option maxHeartbeats 2000000
theorem gTabC : Tryd.prog.globalNamed "loop.example/g00942/impl.colourNames" = some 0 := by kernel_rfl
theorem gTabE : Tryd.prog.globalNamed "loop.example/g00942/impl.endNames" = some 1 := by kernel_rfl
theorem gTypC : (Tryd.prog.globals[0]?).map (·.type) = some 69 := by kernel_rfl
theorem gTypE : (Tryd.prog.globals[1]?).map (·.type) = some 70 := by kernel_rfl
def namesC : List (List UInt8) := (List.range 2).map nmC
def namesE : List (List UInt8) := (List.range 3).map fun k => nmE (k + 1)
theorem laid_in {P : Program} {w : World} {n : String} {d : DataW Unit} : ∀ {l : List (String × DataW Unit)} {ps : List MemPlace}, DataW.LaidVars P w l ps → (n, d) ∈ l →
    ∃ g t cs fuel p, P.globalNamed n = some g ∧ (P.globals[g]?).map (·.type) = some t ∧ w.var? P n = some cs ∧ DataW.trod (fun _ => ()) P w 0 (fun _ => true) false fuel t cs.toList = some (d, p)
  | [], _, _, hm => absurd hm List.not_mem_nil
  | (n', d') :: r, ps, h, hm => by
    obtain ⟨g, t, cs, fuel, p, q, h1, h2, h3, h4, h5, _⟩ := h
    rcases List.mem_cons.1 hm with e | e
    · injection e with e1 e2
      subst e1 e2
      exact ⟨g, t, cs, fuel, p, h1, h2, h3, h4⟩
    · exact laid_in h5 e
theorem table_of {W : World} {nm : String} {g n : Nat} {t : TypeId} {l : List (List UInt8)} {laid : List (String × DataW Unit)} (hg0 : Tryd.prog.globalNamed nm = some g) (ht0 : (Tryd.prog.globals[g]?).map (·.type) = some t) (hu : Tryd.prog.underlying t = some (.array n 9))
    (h : laidMet Tryd.prog laid W) (hm : (nm, textData l) ∈ laid) (k : Nat) (s : List UInt8) (hk : l[k]? = some s) : W.cell? ⟨g, k, none⟩ = some (.string ⟨s.toArray⟩) := by
  obtain ⟨ps, hl, _⟩ := h
  obtain ⟨g', t', cs, fuel, p, hg', ht', hvar, hd⟩ := laid_in hl hm
  obtain rfl := Option.some.inj (hg0.symm.trans hg')
  obtain rfl := Option.some.inj (ht0.symm.trans ht')
  rw [World.var?_cell hg0 hvar k]
  have := texts_of hu Tryd.underlying9 (by kernel_rfl) hd k s hk
  simpa using this
theorem tab_laid {W : World} {laid : List (String × DataW Unit)} (h : laidMet Tryd.prog laid W) (hC : ("loop.example/g00942/impl.colourNames", textData namesC) ∈ laid) (hE : ("loop.example/g00942/impl.endNames", textData namesE) ∈ laid) : Tab W := by
  have c : ∀ k, k < 2 → W.cell? ⟨0, k, none⟩ = some (.string ⟨(nmC k).toArray⟩) := fun k hk => table_of gTabC gTypC Tryd.underlying69 h hC k _ (by simp [namesC, hk])
  have e : ∀ k, k < 3 → W.cell? ⟨1, k, none⟩ = some (.string ⟨(nmE (k + 1)).toArray⟩) := fun k hk => table_of gTabE gTypE Tryd.underlying70 h hE k _ (by simp [namesE, hk])
  exact ⟨lt_of_cell (c 0 (by omega)), lt_of_cell (e 0 (by omega)), c, e⟩
theorem tab_of {W : World} (h : laidMetH Tryd.prog Rows.fnExactLogTextRow.laid W) : Tab W := by
  have h' : laidMet Tryd.prog Rows.fnExactLogTextRow.laid W := h
  refine tab_laid h' ?_ ?_
  · exact .tail _ (.tail _ (.tail _ (.head _)))
  · exact .tail _ (.tail _ (.tail _ (.tail _ (.head _))))
theorem LogText_walkL : WalkL Tryd.prog 3 Tryd.f3 Rows.fnExactLogTextRow.laid := by
  intro H enc W base args ds ps hA hval hL
  rw [Tryd.params3] at hA hval
  obtain ⟨v0, d0, rfl, rfl, h0⟩ := trodAll_one hA
  obtain ⟨A, cap, l, rfl, hm, hr⟩ := open_logs (hval 0 22 v0 rfl rfl) h0
  exact LogText_walk0 A cap l W hm hr (tab_of hL)
/-- The cells of a table that is laid. -/
def cellsLaid : DataW Unit → List Value
  | .agg parts => parts.map fun
    | .lit (.int k n) => .int k n
    | .lit (.string s) => .string ⟨s.toArray⟩
    | _ => .bool false
  | _ => []
def zeroArg : Array Value := #[.slice none 0 0]
def lay (d : DataW Unit) : Obj → Obj
  | .cells _ t frozen => .cells (cellsLaid d).toArray t frozen
  | o => o
/-- A world for the witness: the settled one, the tables holding what their initialisers lay. -/
noncomputable def laidWorld (os : Os) : World :=
  { World.holding Tryd.prog os ⟨#[], #[], []⟩ with heap := (((((World.holding Tryd.prog os ⟨#[], #[], []⟩).heap.modify 8 (lay Rows.laid_math_bits_deBruijn32tab)).modify 9 (lay Rows.laid_math_bits_deBruijn64tab)).modify 5 (lay Rows.laid_internal_strconv_uint64pow10)).modify 0 (lay Rows.laid_loop_example_g00942_impl_colourNames)).modify 1 (lay Rows.laid_loop_example_g00942_impl_endNames) }
theorem laid_met (os : Os) : laidMet Tryd.prog Rows.fnExactLogTextRow.laid ((laidWorld os).forCall (fun _ _ => 0) ⟨#[], zeroArg, []⟩).memory :=
  laidMet_of_run' 8 (by kernel_rfl) (by kernel_rfl)
theorem reads (os : Os) {H : Type} (enc : TypeId × Value → H) : ∃ places, DataW.whole enc Tryd.prog ((laidWorld os).forCall (fun _ _ => 0) ⟨#[], zeroArg, []⟩).memory Tryd.f3.params.toList Rows.fnExactLogTextSpec.vars false zeroArg.toList 8 = some ([.nil], [textData namesC, textData namesE], places) :=
  ⟨MemPlace.row ⟨0, 0, none⟩ 2 ++ MemPlace.row ⟨1, 0, none⟩ 3, by kernel_rfl⟩
set_option maxRecDepth 100000 in
theorem LogText_said : Rows.FnExactLogTextSaid :=
  OpenClaim.holds_of_cond 3 Tryd.f3 rfl rfl rfl rfl rfl rfl rfl ⟨rfl, rfl, rfl, rfl, rfl⟩ rfl rfl rfl rfl rfl (by kernel_rfl) Tryd.func3 (by kernel_rfl)
    (of_decide_eq_true (by kernel_rfl)) (by unfold Func.isWrapper; first | (rw [if_pos (by decide +kernel)]; kernel_rfl) | (rw [if_neg (by decide +kernel)]; exact ⟨rfl, rfl⟩))
    (fun os started H enc _ F => by
      rw [OpenClaim.pre_eq_preRow]
      obtain ⟨places, hx⟩ := reads os enc
      exact liftedL (C := Tryd.checked) (s := Rows.fnExactLogTextSpec) (laid := Rows.fnExactLogTextRow.laid) started own (by kernel_rfl) Tryd.func3
        (witness_row_at (enc := enc) (C := Tryd.checked) false (laidWorld os) zeroArg rfl (by kernel_rfl) (by kernel_rfl) (by kernel_rfl)
          (OpenSpec.preRow_of_cond 8 hx (by kernel_rfl) (fun k hk => by cases hk) (by kernel_rfl) (laid_met os)))
        laidOut (by kernel_rfl) (by kernel_rfl) rfl Tryd.underlying4 (fun ds gs h1 h2 => by
          match ds, h1, gs, h2 with
          | [d0], _, [g0, g1], _ => exact ⟨rfl, rfl, rfl⟩) LogText_walkL)
theorem plain (f : FuncId) (fn : Func) (hf : Tryd.pinned.checked.prog.funcNamed "loop.example/g00942/laws.FnExactLogText" = some f) (hfn : Tryd.pinned.checked.prog.funcs[f]? = some fn) :
    true = Tryd.pinned.checked.prog.looks [] ∧ ∀ (j : Nat) t, fn.params[j]? = some t → Tryd.pinned.checked.prog.wantsStandIn t = false := by
  obtain rfl : f = 3 := Option.some.inj ((show Tryd.prog.funcNamed "loop.example/g00942/laws.FnExactLogText" = some 3 by kernel_rfl).symm.trans hf) |>.symm
  obtain rfl : fn = Tryd.f3 := (Option.some.inj (Tryd.func3.symm.trans hfn)).symm
  refine ⟨by kernel_rfl, fun j t ht => ?_⟩
  rw [Tryd.params3] at ht
  obtain rfl : t = 22 := by simpa using Array.mem_of_getElem? ht
  exact (show Tryd.prog.wantsStandIn 22 = false by kernel_rfl)
theorem LogText_card : Rows.FnExactLogTextCardSaid :=
  Claim7.holds_tied_plain_at .later [] _ _ _ _ LogText_said (fun _ h => by cases h) (by kernel_rfl) (fun _ h => by cases h) fnExactLogText_row_tie rfl ⟨rfl, rfl⟩ (by kernel_rfl) rfl plain (by kernel_rfl)
end Go.Proofs.YtlambflmabecfaaDoor
