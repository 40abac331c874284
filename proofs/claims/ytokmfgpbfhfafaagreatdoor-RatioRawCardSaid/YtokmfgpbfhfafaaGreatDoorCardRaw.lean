/- RatioRaw: for every two Rats, right or not, and a number that is made of three ints, every operation of ratio returns what the reference returns, on the two, and on each with the number. Condition: the library's listed variables hold what the program's text lays. -/
import Derived.Test.YtokmfgpbfhfafaaGreatDoorOpn
import Derived.Test.YtokmfgpbfhfafaaGreatDoorMb
import Derived.Test.YtokmfgpbfhfafaaGreatDoorCards
import Derived.Test.YtokmfgpbfhfafaaGreatDoorTie
import Derived.SevenTiedAt
import Derived.Lib.SmallJoins
namespace Go.Proofs.YtokmfgpbfhfafaaGreatDoor.ratioRaw
open Go Go.ChangeShapes Go.WideShapes Go.ChangeAt Go.RowKit

set_option maxRecDepth 100000 in
theorem lifted (os : Os) (started : os.Started) (H : Type) (enc : TypeId × Value → H) :
    ReturnsInHanded {} Tryz.checked os 4 .any (fun w args => (Rows.ratioRawSpec.pre enc Tryz.prog Tryz.f4 [] false w args ∧ laidMetH Tryz.prog laid5 w) ∧ sizedMet enc Tryz.prog Tryz.f4 (OpenSpec.ofChange Rows.ratioRawSpec) false w args)
      (Rows.ratioRawSpec.post enc Tryz.prog Tryz.f4 false true false false) := by
  refine returns_of (C := Tryz.checked) (X := fun w _ => laidMetH Tryz.prog laid5 w) (fun _ _ _ hh h => h.of_heap hh) own started (by kernel_rfl) Tryz.func4
    (ChangeSpec.witness_shaped (enc := enc) (C := Tryz.checked) (os := os) (X := fun w _ => laidMetH Tryz.prog laid5 w) false (World.doorLaid Tryz.prog 400 os) #[.agg #[.int .i64 0, .int .i64 0], .agg #[.int .i64 0, .int .i64 0], .agg #[.int .i64 0, .int .i64 0, .int .i64 0]] 8 rfl (World.shaped_of_RefB (by kernel_rfl) (by kernel_rfl)) (by kernel_rfl) (by kernel_rfl) (by kernel_rfl) (door_met os _)) ?_
  intro W base args ds gs before hval0 hW hL hsh
  have hval : ∀ (j : Nat) t v, Tryz.f4.params[j]? = some t → args[j]? = some v → Value.okWide Tryz.prog W .any base t v := hval0
  have hW' := hW
  obtain ⟨p, q, hA0, hV, rfl, hfz, hnd⟩ := hW
  have hA : DataW.TrodAll enc Tryz.prog W 0 (fun _ => true) true Tryz.f4.params.toList args.toList ds p := hA0
  rw [Tryz.params4] at hA hval
  obtain ⟨v0, vs0, d0, ds0, p0, q0, hargs, rfl, rfl, h0, r0⟩ := trodAll_cons hA
  obtain ⟨v1, vs1, d1, ds1, p1, q1, rfl, rfl, rfl, h1, r1⟩ := trodAll_cons r0
  obtain ⟨v2, vs2, d2, ds2, p2, q2, rfl, rfl, rfl, h2, r2⟩ := trodAll_cons r1
  obtain ⟨rfl, rfl, rfl⟩ := trodAll_nil r2
  obtain rfl : args = #[v0, v1, v2] := by cases args; simp_all
  obtain ⟨rfl, rfl⟩ := trodVars_none hV
  obtain ⟨a0, a1, ya0, ya1, m0, rfl, rfl, rfl, hya0, hya1⟩ := Joins.open_agg2 Tryz.underlying25 (by kernel_rfl) (by kernel_rfl) (hval 0 25 v0 rfl rfl) h0
  obtain ⟨b0, b1, yb0, yb1, m1, rfl, rfl, rfl, hyb0, hyb1⟩ := Joins.open_agg2 Tryz.underlying25 (by kernel_rfl) (by kernel_rfl) (hval 1 25 v1 rfl rfl) h1
  obtain ⟨x2a, x2b, x2c, rfl, rfl, rfl, w2a, w2b, w2c⟩ := open_arr3 Tryz.underlying22 Tryz.underlying3 (by kernel_rfl) (by kernel_rfl) (hval 2 22 v2 rfl rfl) h2
  obtain ⟨x0a, e0, rfl, w0a⟩ := DataW.trod_int Tryz.underlying3 hya0
  obtain ⟨x0b, e1, rfl, w0b⟩ := DataW.trod_int Tryz.underlying3 hya1
  obtain ⟨x1a, e2, rfl, w1a⟩ := DataW.trod_int Tryz.underlying3 hyb0
  obtain ⟨x1b, e3, rfl, w1b⟩ := DataW.trod_int Tryz.underlying3 hyb1
  simp at e0 e1 e2 e3
  subst e0 e1 e2 e3
  clear hA0 hval0
  simp only [List.append_nil] at hW'
  have structReads : ∀ (a b : Int) (W' : World) (sp : Nat → Bool) (_ : (Lit.int .i64 a).wf = true) (_ : (Lit.int .i64 b).wf = true), DataW.Trod enc Tryz.prog W' 0 sp true 25 (.agg #[.int .i64 a, .int .i64 b]) (.agg [.lit (.int .i64 a), .lit (.int .i64 b)]) [] := fun a b W' sp wa wb =>
    Joins.shut_agg2 (y0 := (.lit (.int .i64 a), [])) (y1 := (.lit (.int .i64 b), [])) Tryz.underlying25 (by kernel_rfl) (by kernel_rfl) ⟨1, by simp [DataW.trod, Tryz.underlying3, wa]⟩ ⟨1, by simp [DataW.trod, Tryz.underlying3, wb]⟩
  have e1 : Rows.ratioRawSpec.fn H ([.agg [.lit (.int .i64 x0a), .lit (.int .i64 x0b)], .agg [.lit (.int .i64 x1a), .lit (.int .i64 x1b)], .agg [.lit (.int .i64 x2a), .lit (.int .i64 x2b), .lit (.int .i64 x2c)]] ++ []) = { results := [.lit (.bool true)], args := [.agg [.lit (.int .i64 x0a), .lit (.int .i64 x0b)], .agg [.lit (.int .i64 x1a), .lit (.int .i64 x1b)], .agg [.lit (.int .i64 x2a), .lit (.int .i64 x2b), .lit (.int .i64 x2c)]] } := by simp [Rows.ratioRawSpec]
  refine (rawLaw x0a x0b x1a x1b x2a x2b x2c (bounds_i64 w0a) (bounds_i64 w0b) (bounds_i64 w1a) (bounds_i64 w1b) (bounds_i64 w2a) (bounds_i64 w2b) W (tab_of_laid hL) (max_of_shape hsh)).mono fun e W' ⟨he, hb⟩ => ?_
  subst he
  refine ⟨_, rfl, _, _, _, [], [], [], hW', ?_, ?_, ?_, hb.frame _, fun h => by cases h⟩
  · rw [e1]; exact trodAll_cons_mk (shut_bool Tryz.underlying4 true) trodAll_mk0
  · rw [e1]; exact (trodAll_cons_mk (structReads _ _ _ _ w0a w0b) (trodAll_cons_mk (structReads _ _ _ _ w1a w1b) (trodAll_cons_mk (shut_arr3 Tryz.underlying22 Tryz.underlying3 (by kernel_rfl) (by kernel_rfl) w2a w2b w2c) trodAll_mk0)))
  · rw [e1]; rfl

theorem over : Rows.RatioRawSaid :=
  OpenClaim.holds_of_wide 4 Tryz.f4 rfl rfl rfl rfl rfl rfl rfl ⟨rfl, rfl, rfl, rfl, rfl⟩ rfl rfl rfl rfl rfl (by kernel_rfl) Tryz.func4 (by kernel_rfl)
    (of_decide_eq_true (by kernel_rfl)) (by unfold Func.isWrapper; first | (rw [if_pos (by decide +kernel)]; kernel_rfl) | (rw [if_neg (by decide +kernel)]; exact ⟨rfl, rfl⟩))
    (fun os started H enc _ => lifted os started H enc)

theorem proved : Rows.RatioRawCardSaid :=
  Claim7.holds_tied_plain_at .later [] [.data, .data, .data, .sentinel, .sentinel] true Rows.ratioRawCard.stood.harness true
    over (fun _ h => by cases h) (by kernel_rfl) (fun _ h => by cases h) ratioRaw_row_tie rfl ⟨rfl, rfl⟩ (by kernel_rfl) rfl
    (fun f fn hf hfn => by
      obtain rfl : f = 4 := Option.some.inj ((show Tryz.prog.funcNamed Rows.ratioRawRow.func = some 4 by kernel_rfl).symm.trans hf) |>.symm
      obtain rfl : fn = Tryz.f4 := (Option.some.inj (Tryz.func4.symm.trans hfn)).symm
      exact ⟨by kernel_rfl, fun j t ht => by
        rw [Tryz.params4] at ht
        have hm : t ∈ [25, 25, 22] := by simpa using Array.mem_of_getElem? ht
        have hall : ([25, 25, 22].all fun u => !Tryz.prog.wantsStandIn u) = true := by kernel_rfl
        exact (show Tryz.prog.wantsStandIn t = false by simpa using List.all_eq_true.1 hall t hm)⟩)
    (by kernel_rfl)
#print axioms proved
end Go.Proofs.YtokmfgpbfhfafaaGreatDoor.ratioRaw
