/- From what a row of this seat gives to what the walks ask: the two tables of the hash function. -/
import Derived.Test.YtkjdfjpfghpofaaDoorRows
import Derived.Test.YtkjdfjpfghpofaaDoorGb
import Derived.Lib.LaidTab
import Derived.ProofKit
import Derived.LaidMore
import Derived.OpenShut
import Derived.Stop.Joined
import Derived.HandedShaped
namespace Go.Proofs.YtkjdfjpfghpofaaDoor
open Go Go.ChangeShapes Go.WideShapes Go.ChangeAt Go.RowKit

theorem own : ownKnob Tryd.prog.godebug = none := by kernel_rfl
/-- The variables that the rows list, with what they hold. -/
def laid2 : List (String × DataW Unit) := [("probity/digest.roundConstants", Rows.laid_probity_digest_roundConstants), ("probity/digest.initialState", Rows.laid_probity_digest_initialState)]
theorem gK : Tryd.prog.globalNamed "probity/digest.roundConstants" = some 1 := by kernel_rfl
theorem gI : Tryd.prog.globalNamed "probity/digest.initialState" = some 0 := by kernel_rfl

/-- The heap that the door's own run leaves meets the condition. -/
theorem door_met (os : Os) (args : Array Value) : laidMetH Tryd.prog laid2 ((World.doorLaid Tryd.prog 400 os).forCall (fun _ _ => 0) ⟨#[], args, []⟩).memory :=
  laidMetH_of_parts3 (fuel := 8) (laidMet_of_run' 8 (by kernel_rfl) (by kernel_rfl)) (by kernel_rfl) (by kernel_rfl)

theorem tK : (Tryd.prog.globals[1]?).map (·.type) = some 93 := by kernel_rfl
theorem tI : (Tryd.prog.globals[0]?).map (·.type) = some 84 := by kernel_rfl
theorem cK : Tryd.prog.cellsOf 93 = 64 := by kernel_rfl
theorem cI : Tryd.prog.cellsOf 84 = 8 := by kernel_rfl
theorem cU : Tryd.prog.cellsOf 82 = 1 := by kernel_rfl
theorem dK : (Rows.laid_probity_digest_roundConstants : DataW Unit) = Lib.tabData .u32 Sha.kL := rfl
theorem dI : (Rows.laid_probity_digest_initialState : DataW Unit) = Lib.tabData .u32 Sha.hL := rfl

theorem tabB_of_var {W : World} {name : String} {g : Nat} {l : List Int} (hg : Tryd.prog.globalNamed name = some g) (h : W.var? Tryd.prog name = some (l.map fun z => Value.int .u32 z).toArray) : TabB W g l := by
  unfold World.var? at h
  simp only [hg, Option.bind_some] at h
  unfold TabB
  cases hh : W.heap[g]? with
  | none => rw [hh] at h; cases h
  | some o =>
    rw [hh] at h
    cases o with
    | cells cs t fr => exact ⟨t, fr, by rw [← Option.some.inj h]⟩
    | _ => cases h

theorem tabs_of_laid {W : World} (h : laidMetH Tryd.prog laid2 W) : Tabs W := by
  rw [MakeChecks.laidMetH_plain _ _ _ (by kernel_rfl)] at h
  obtain ⟨ps, ⟨g0, t0, cs0, f0, p0, q0, hg0, ht0, hv0, hd0, ⟨g1, t1, cs1, f1, p1, q1, hg1, ht1, hv1, hd1, _, _⟩, _⟩, _⟩ := h
  obtain rfl := Option.some.inj (gK.symm.trans hg0)
  obtain rfl := Option.some.inj (tK.symm.trans ht0)
  obtain rfl := Option.some.inj (gI.symm.trans hg1)
  obtain rfl := Option.some.inj (tI.symm.trans ht1)
  have e0 : DataW.trod (fun _ => ()) Tryd.prog W 0 (fun _ => true) false f0 93 cs0.toList = some (Lib.tabData .u32 Sha.kL, p0) := hd0
  have e1 : DataW.trod (fun _ => ()) Tryd.prog W 0 (fun _ => true) false f1 84 cs1.toList = some (Lib.tabData .u32 Sha.hL, p1) := hd1
  refine ⟨tabB_of_var gK ?_, tabB_of_var gI ?_⟩
  · rw [hv0, ← Lib.cells_of_tab Tryd.underlying93 Tryd.underlying82 cU cK e0]
  · rw [hv1, ← Lib.cells_of_tab Tryd.underlying84 Tryd.underlying82 cU cI e1]

/-- The builder with a premise of the row's own and with the world's shape. -/
theorem returns_of {H : Type} {enc : TypeId × Value → H} {a : Assume} {C : Checked} {os : Os} {f : FuncId} {fn : Func} {s : ChangeSpec} {conds : List PathCond} {apart fresh handsOn again : Bool} {X : World → Array Value → Prop}
    (hX : ∀ (w w' : World) (args : Array Value), w.heap = w'.heap → X w args → X w' args)
    (own : ownKnob C.prog.godebug = none) (started : os.Started) (noInit : C.prog.inits.idxOf? f = none) (hfn : C.prog.funcs[f]? = some fn)
    (witness : ∃ (w : World) (tape : Tape) (i : Input), w.os = os ∧ (w.forCall tape i).Shaped C.prog ∧ i.vars = [] ∧ Input.okWide C.prog (w.forCall tape i) .any w.heap.size f i ∧
      ((s.pre enc C.prog fn conds apart (w.forCall tape i).memory i.args ∧ X (w.forCall tape i).memory i.args) ∧ sizedMet enc C.prog fn (OpenSpec.ofChange s) apart (w.forCall tape i).memory i.args) ∧ a.holds C.prog (lone (Frame.enter C.prog f i.args .normal) [] (w.forCall tape i)))
    (contract : ∀ (W : World) (base : Nat) (args : Array Value) (ds gs : List (DataW H)) (before : List MemPlace),
      (∀ (j : Nat) t v, fn.params[j]? = some t → args[j]? = some v → Value.okWide C.prog W .any base t v) →
      DataW.Whole enc C.prog fn.params.toList s.vars apart W args.toList ds gs before →
      X W args → W.ShapedOpen C.prog →
      Calls C.prog f args W fun e W' => ∃ v, e = .returned v ∧ s.post enc C.prog fn apart fresh handsOn again W args v W') :
    ReturnsInHanded a C os f .any (fun w args => (s.pre enc C.prog fn conds apart w args ∧ X w args) ∧ sizedMet enc C.prog fn (OpenSpec.ofChange s) apart w args) (s.post enc C.prog fn apart fresh handsOn again) := by
  refine returnsInHanded_of_calls own started noInit witness ?_
  intro w tape i _ hsh _ hok hpre _
  obtain ⟨_, _, _, fn', hfn', _, _, _, _, hval⟩ := hok
  have e : fn' = fn := Option.some.inj (hfn'.symm.trans hfn)
  subst e
  obtain ⟨⟨⟨ds, gs, before, hw, _⟩, hx⟩, _⟩ := hpre
  have hw' := DataW.Whole.of_heap (w' := w.forCall tape i) (by rfl) hw
  refine (contract (w.forCall tape i) w.heap.size i.args ds gs before hval hw' (hX _ _ _ (by rfl) hx) hsh).mono fun _ _ ⟨_, he, hp⟩ => ?_
  subst he
  exact ChangeSpec.post_blind hp
end Go.Proofs.YtkjdfjpfghpofaaDoor
