/- From what a row of this seat gives to what the walks ask: slices of small numbers among the arguments. -/
import Derived.Test.YtkjdfjpfghpofaaDoorUr
import Derived.Test.YtkjdfjpfghpofaaDoorUw
import Derived.ChangeSlices
namespace Go.Proofs.YtkjdfjpfghpofaaDoor
open Go Go.ChangeShapes Go.WideShapes Go.ChangeAt Go.RowKit

section
variable {H : Type} {enc : TypeId × Value → H} {P : Program} {w : World} {base : Nat} {spare : Nat → Bool} {held : Bool}
/-- A slice of small numbers among the arguments. -/
theorem open_numsV {t e : TypeId} (ht : P.underlying t = some (.slice e)) (he : P.underlying e = some (.int .u8)) (hc : P.cellsOf e = 1) {a : Option Addr} {len cap : Nat} {d : DataW H} {p : List MemPlace}
    (h : DataW.Trod enc P w base spare held t (.slice a len cap) d p) : ∃ l : List Int, NumsV w (.slice a len cap) l := by
  obtain ⟨fuel, hf⟩ := h
  rcases open_ints ht he hc hf with ⟨hcs, hx⟩ | ⟨a', len', cap', zs, hcs, _, hl, hm, hz, hx, hcell, hwf⟩
  · simp [Value.cells] at hcs
    obtain ⟨rfl, rfl, rfl⟩ := hcs
    exact ⟨[], by simp, .inl ⟨rfl, _, _, rfl⟩⟩
  · simp [Value.cells] at hcs
    obtain ⟨rfl, rfl, rfl⟩ := hcs
    have hlen : len ≤ zs.length := by rw [hz]; split <;> omega
    have hl2 : (zs.take len).length = len := by simp; omega
    refine ⟨zs.take len, fun x hx => ?_, ?_⟩
    · have := hwf x (List.mem_of_mem_take hx)
      exact bounds_u8 this
    · by_cases h0 : len = 0
      · subst h0
        exact .inl ⟨by simp, _, _, rfl⟩
      · obtain ⟨b, off, spot⟩ := a'
        have hspot : spot = none := by simpa [Addr.add] using World.cell?_spot (hcell 0 (by omega))
        subst hspot
        have hcell' : ∀ i, i < zs.length → w.cell? ⟨b, off + i, none⟩ = some (.int .u8 (zs.getD i 0)) := fun i hi => by rw [← Go.WideShapes.add_plain]; exact hcell i hi
        refine .inr ⟨by omega, b, off, cap, by rw [hl2], by rw [hl2]; omega, by unfold maxLen at hm; omega, cell_lt (hcell' 0 (by omega)), fun i hi => ?_⟩
        rw [hl2] at hi
        rw [hcell' i (by omega)]
        simp [List.getD_eq_getElem?_getD, List.getElem?_take, hi]
end
end Go.Proofs.YtkjdfjpfghpofaaDoor
