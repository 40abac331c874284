/- Arrays of integers by value, whatever their length, opened and shut. -/
import Derived.Test.YtkjdfjpfghpofaaDoorGu
import Derived.Test.YtkjdfjpfghpofaaDoorGq
namespace Go.Proofs.YtkjdfjpfghpofaaDoor
open Go Go.ChangeShapes Go.WideShapes Go.ChangeAt Go.RowKit

section
variable {H : Type} {enc : TypeId × Value → H} {P : Program} {w : World} {base : Nat} {spare : Nat → Bool} {held : Bool}

theorem open_row {r : Reach} {b0 n : Nat} {t e : TypeId} {k : IntKind} {v : Value} {d : DataW H} {p : List MemPlace} (ht : P.underlying t = some (.array n e)) (he : P.underlying e = some (.int k)) (hC : P.cellsOf t = n) (hE : P.cellsOf e = 1)
    (hv : Value.okWide P w r b0 t v) (h : DataW.Trod enc P w base spare held t v d p) :
    ∃ l : List Int, l.length = n ∧ v = .agg (l.map (Value.int k)).toArray ∧ d = .agg (l.map fun x => .lit (.int k x)) ∧ p = [] ∧ ∀ x ∈ l, (Lit.int k x).wf = true := by
  obtain ⟨cs, rfl, hsz⟩ : ∃ cs, v = .agg cs ∧ cs.size = P.cellsOf t := by
    simp only [Value.okWide, ht] at hv
    obtain ⟨cs, h1, h2, _⟩ := hv
    exact ⟨cs, h1, h2⟩
  obtain ⟨fuel, hf⟩ := h
  obtain ⟨xs, m, _, hx, _, hlen, hi⟩ := DataW.trod_array ht hf
  obtain ⟨cl⟩ := cs
  have hcl : cl.length = n := by simpa using hsz.trans hC
  have key : ∀ i, i < n → ∃ a, cl[i]? = some (.int k a) ∧ xs[i]? = some (.lit (.int k a), []) ∧ (Lit.int k a).wf = true := by
    intro i hin
    have h0 := hi i hin
    rw [hE] at h0
    have e1 : (((Value.agg ⟨cl⟩).cells.toList.drop (i * 1)).take 1) = [cl[i]'(by omega)] := by
      show (cl.drop (i * 1)).take 1 = _
      rw [Nat.mul_one, List.drop_eq_getElem_cons (by omega)]
      rfl
    rw [e1, List.getElem?_eq_getElem (by omega)] at h0
    obtain ⟨a, ea, eb, wa⟩ := DataW.trod_int he h0
    refine ⟨a, ?_, ?_, wa⟩
    · rw [List.getElem?_eq_getElem (by omega)]; simpa using ea
    · rw [List.getElem?_eq_getElem (by omega), eb]
  refine ⟨cl.map intOf, by simpa using hcl, ?_, ?_, ?_, ?_⟩
  · congr 1
    apply Array.ext_getElem?
    intro i
    by_cases hin : i < n
    · obtain ⟨a, h1, -, -⟩ := key i hin
      simp [h1, intOf]
    · simp [List.getElem?_eq_none (show cl.length ≤ i by omega)]
  · have hd : d = .agg (xs.map (·.1)) := congrArg (·.1) hx
    rw [hd]
    congr 1
    apply List.ext_getElem?
    intro i
    by_cases hin : i < n
    · obtain ⟨a, h1, h2, -⟩ := key i hin
      simp [h1, h2, intOf]
    · simp [List.getElem?_eq_none (show cl.length ≤ i by omega), List.getElem?_eq_none (show xs.length ≤ i by omega)]
  · have hp : p = xs.flatMap (·.2) := congrArg (·.2) hx
    rw [hp]
    apply List.flatMap_eq_nil_iff.2
    intro y hy
    obtain ⟨i, hil, rfl⟩ := List.mem_iff_getElem.1 hy
    obtain ⟨a, -, h2, -⟩ := key i (by omega)
    rw [List.getElem?_eq_getElem hil] at h2
    rw [Option.some.inj h2]
  · intro x hxm
    obtain ⟨y, hy, rfl⟩ := List.mem_map.1 hxm
    obtain ⟨i, hil, rfl⟩ := List.mem_iff_getElem.1 hy
    obtain ⟨a, h1, -, wa⟩ := key i (by omega)
    rw [List.getElem?_eq_getElem hil] at h1
    rw [Option.some.inj h1]
    exact wa

theorem mapM_all {α β : Type} {f : α → Option β} (g : α → β) : ∀ (r : List α), (∀ a ∈ r, f a = some (g a)) → r.mapM f = some (r.map g)
  | [], _ => rfl
  | a :: r, h => by
    rw [List.mapM_cons, h a (by simp), mapM_all g r (fun b hb => h b (by simp [hb]))]
    rfl
theorem shut_row {n : Nat} {t e : TypeId} {k : IntKind} {l : List Int} (ht : P.underlying t = some (.array n e)) (he : P.underlying e = some (.int k)) (hC : P.cellsOf t = n) (hE : P.cellsOf e = 1) (hl : l.length = n) (hw : ∀ x ∈ l, (Lit.int k x).wf = true) :
    DataW.Trod enc P w base spare held t (.agg (l.map (Value.int k)).toArray) (.agg (l.map fun x => .lit (.int k x))) [] := by
  have hlen : (Value.agg (l.map (Value.int k)).toArray).cells.toList.length = n := by simpa [Value.cells] using hl
  refine ⟨2, ?_⟩
  rw [DataW.trod.eq_def]
  simp only [ht]
  rw [if_pos (hlen.trans hC.symm)]
  rw [mapM_all (fun i => (.lit (.int k (l.getD i 0)), []))]
  · simp only [Option.map_some, List.map_map, Function.comp_def, List.flatMap_map]
    congr 2
    · congr 1
      apply List.ext_getElem?
      intro i
      by_cases hi : i < l.length
      · simp [List.getElem?_range (show i < n by omega), List.getD_eq_getElem?_getD, List.getElem?_eq_getElem hi]
      · simp [List.getElem?_eq_none (show l.length ≤ i by omega), List.getElem?_eq_none (show (List.range n).length ≤ i by simp; omega)]
    · exact List.flatMap_eq_nil_iff.2 (fun _ _ => rfl)
  · intro i hi
    have hin : i < l.length := by have := List.mem_range.1 hi; omega
    have e1 : ((Value.agg (l.map (Value.int k)).toArray).cells.toList.drop (i * P.cellsOf e)).take (P.cellsOf e) = [.int k l[i]] := by
      rw [hE]
      show ((l.map (Value.int k)).drop (i * 1)).take 1 = _
      rw [Nat.mul_one, List.drop_eq_getElem_cons (by simpa using hin)]
      simp
    rw [e1]
    have hwf := hw _ (List.getElem_mem hin)
    have hg : l.getD i 0 = l[i] := by rw [List.getD_eq_getElem?_getD, List.getElem?_eq_getElem hin]; rfl
    rw [hg]
    simp [DataW.trod, he, hwf]
end
theorem hash_of {l : List Int} (hl : l.length = 32) (hw : ∀ x ∈ l, (Lit.int .u8 x).wf = true) : Sha.Hash l := by
  refine ⟨hl, fun i => ?_⟩
  by_cases hi : i < l.length
  · have e : l.getD i 0 = l[i] := by rw [List.getD_eq_getElem?_getD, List.getElem?_eq_getElem hi]; rfl
    have := bounds_u8 (hw _ (List.getElem_mem hi))
    rw [e]; omega
  · have e : l.getD i 0 = 0 := by rw [List.getD_eq_getElem?_getD, List.getElem?_eq_none (by omega)]; rfl
    rw [e]; omega
end Go.Proofs.YtkjdfjpfghpofaaDoor
