/- RatioField: for every three numbers that are made of three ints each, where the results fit, sums and products do not depend on the order, products distribute over sums, Sub undoes Add, and Quo undoes Mul; the chapter's examples hold. Condition: the library's listed variables hold what the program's text lays. -/
import Derived.Test.YtokmfgpbfhfafaaDoorOpn
import Derived.Test.YtokmfgpbfhfafaaDoorLg
import Derived.Test.YtokmfgpbfhfafaaDoorCards
import Derived.Test.YtokmfgpbfhfafaaDoorTie
import Derived.SevenTiedAt
namespace Go.Proofs.YtokmfgpbfhfafaaDoor.ratioField
open Go Go.ChangeShapes Go.WideShapes Go.ChangeAt Go.RowKit

set_option maxRecDepth 100000 in
theorem lifted (os : Os) (started : os.Started) (H : Type) (enc : TypeId × Value → H) :
    ReturnsInHanded {} Tryd.checked os 4 .any (fun w args => (Rows.ratioFieldSpec.pre enc Tryd.prog Tryd.f4 [] false w args ∧ laidMetH Tryd.prog laid5 w) ∧ sizedMet enc Tryd.prog Tryd.f4 (OpenSpec.ofChange Rows.ratioFieldSpec) false w args)
      (Rows.ratioFieldSpec.post enc Tryd.prog Tryd.f4 false true false false) := by
  refine returns_of (C := Tryd.checked) (X := fun w _ => laidMetH Tryd.prog laid5 w) (fun _ _ _ hh h => h.of_heap hh) own started (by kernel_rfl) Tryd.func4
    (ChangeSpec.witness_shaped (enc := enc) (C := Tryd.checked) (os := os) (X := fun w _ => laidMetH Tryd.prog laid5 w) false (World.doorLaid Tryd.prog 400 os) #[.agg #[.int .i64 0, .int .i64 0, .int .i64 0], .agg #[.int .i64 0, .int .i64 0, .int .i64 0], .agg #[.int .i64 0, .int .i64 0, .int .i64 0]] 8 rfl (World.shaped_of_RefB (by kernel_rfl) (by kernel_rfl)) (by kernel_rfl) (by kernel_rfl) (by kernel_rfl) (door_met os _)) ?_
  intro W base args ds gs before hval0 hW hL hsh
  have hval : ∀ (j : Nat) t v, Tryd.f4.params[j]? = some t → args[j]? = some v → Value.okWide Tryd.prog W .any base t v := hval0
  have hW' := hW
  obtain ⟨p, q, hA0, hV, rfl, hfz, hnd⟩ := hW
  have hA : DataW.TrodAll enc Tryd.prog W 0 (fun _ => true) true Tryd.f4.params.toList args.toList ds p := hA0
  rw [Tryd.params4] at hA hval
  obtain ⟨v0, vs0, d0, ds0, p0, q0, hargs, rfl, rfl, h0, r0⟩ := trodAll_cons hA
  obtain ⟨v1, vs1, d1, ds1, p1, q1, rfl, rfl, rfl, h1, r1⟩ := trodAll_cons r0
  obtain ⟨v2, vs2, d2, ds2, p2, q2, rfl, rfl, rfl, h2, r2⟩ := trodAll_cons r1
  obtain ⟨rfl, rfl, rfl⟩ := trodAll_nil r2
  obtain rfl : args = #[v0, v1, v2] := by cases args; simp_all
  obtain ⟨rfl, rfl⟩ := trodVars_none hV
  obtain ⟨x0a, x0b, x0c, rfl, rfl, rfl, w0a, w0b, w0c⟩ := open_arr3 Tryd.underlying36 Tryd.underlying3 (by kernel_rfl) (by kernel_rfl) (hval 0 36 v0 rfl rfl) h0
  obtain ⟨x1a, x1b, x1c, rfl, rfl, rfl, w1a, w1b, w1c⟩ := open_arr3 Tryd.underlying36 Tryd.underlying3 (by kernel_rfl) (by kernel_rfl) (hval 1 36 v1 rfl rfl) h1
  obtain ⟨x2a, x2b, x2c, rfl, rfl, rfl, w2a, w2b, w2c⟩ := open_arr3 Tryd.underlying36 Tryd.underlying3 (by kernel_rfl) (by kernel_rfl) (hval 2 36 v2 rfl rfl) h2
  clear hA0 hval0
  simp only [List.append_nil] at hW'
  have e1 : Rows.ratioFieldSpec.fn H ([.agg [.lit (.int .i64 x0a), .lit (.int .i64 x0b), .lit (.int .i64 x0c)], .agg [.lit (.int .i64 x1a), .lit (.int .i64 x1b), .lit (.int .i64 x1c)], .agg [.lit (.int .i64 x2a), .lit (.int .i64 x2b), .lit (.int .i64 x2c)]] ++ []) = { results := [.lit (.bool true)], args := [.agg [.lit (.int .i64 x0a), .lit (.int .i64 x0b), .lit (.int .i64 x0c)], .agg [.lit (.int .i64 x1a), .lit (.int .i64 x1b), .lit (.int .i64 x1c)], .agg [.lit (.int .i64 x2a), .lit (.int .i64 x2b), .lit (.int .i64 x2c)]] } := by simp [Rows.ratioFieldSpec]
  refine (fieldLaw x0a x0b x0c x1a x1b x1c x2a x2b x2c (bounds_i64 w0a) (bounds_i64 w0b) (bounds_i64 w1a) (bounds_i64 w1b) (bounds_i64 w2a) (bounds_i64 w2b) W (tab_of_laid hL) (max_of_shape hsh)).mono fun e W' ⟨he, hb⟩ => ?_
  subst he
  refine ⟨_, rfl, _, _, _, [], [], [], hW', ?_, ?_, ?_, hb.frame _, fun h => by cases h⟩
  · rw [e1]; exact trodAll_cons_mk (shut_bool Tryd.underlying4 true) trodAll_mk0
  · rw [e1]; exact (trodAll_cons_mk (shut_arr3 Tryd.underlying36 Tryd.underlying3 (by kernel_rfl) (by kernel_rfl) w0a w0b w0c) (trodAll_cons_mk (shut_arr3 Tryd.underlying36 Tryd.underlying3 (by kernel_rfl) (by kernel_rfl) w1a w1b w1c) (trodAll_cons_mk (shut_arr3 Tryd.underlying36 Tryd.underlying3 (by kernel_rfl) (by kernel_rfl) w2a w2b w2c) trodAll_mk0)))
  · rw [e1]; rfl

theorem over : Rows.RatioFieldSaid :=
  OpenClaim.holds_of_wide 4 Tryd.f4 rfl rfl rfl rfl rfl rfl rfl ⟨rfl, rfl, rfl, rfl, rfl⟩ rfl rfl rfl rfl rfl (by kernel_rfl) Tryd.func4 (by kernel_rfl)
    (of_decide_eq_true (by kernel_rfl)) (by unfold Func.isWrapper; first | (rw [if_pos (by decide +kernel)]; kernel_rfl) | (rw [if_neg (by decide +kernel)]; exact ⟨rfl, rfl⟩))
    (fun os started H enc _ => lifted os started H enc)

theorem proved : Rows.RatioFieldCardSaid :=
  Claim7.holds_tied_plain_at .later [] [.data, .data, .data, .sentinel, .sentinel] true Rows.ratioFieldCard.stood.harness true
    over (fun _ h => by cases h) (by kernel_rfl) (fun _ h => by cases h) ratioField_row_tie rfl ⟨rfl, rfl⟩ (by kernel_rfl) rfl
    (fun f fn hf hfn => by
      obtain rfl : f = 4 := Option.some.inj ((show Tryd.prog.funcNamed Rows.ratioFieldRow.func = some 4 by kernel_rfl).symm.trans hf) |>.symm
      obtain rfl : fn = Tryd.f4 := (Option.some.inj (Tryd.func4.symm.trans hfn)).symm
      exact ⟨by kernel_rfl, fun j t ht => by
        rw [Tryd.params4] at ht
        have hm : t ∈ [36, 36, 36] := by simpa using Array.mem_of_getElem? ht
        have hall : ([36, 36, 36].all fun u => !Tryd.prog.wantsStandIn u) = true := by kernel_rfl
        exact (show Tryd.prog.wantsStandIn t = false by simpa using List.all_eq_true.1 hall t hm)⟩)
    (by kernel_rfl)
#print axioms proved
end Go.Proofs.YtokmfgpbfhfafaaDoor.ratioField
