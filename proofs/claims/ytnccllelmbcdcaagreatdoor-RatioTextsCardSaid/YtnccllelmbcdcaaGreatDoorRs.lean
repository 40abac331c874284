/- Sums of rows of digits: what the loop of plus keeps. No Go stands in it. -/
import Derived.Test.YtnccllelmbcdcaaGreatDoorDig
namespace Go.Proofs.YtnccllelmbcdcaaGreatDoor

/-- What plus has gathered after k digits, and the carry. -/
def Add1 (x y l : List Int) (k : Nat) (c : Int) : Prop := Dig.okL l ∧ l.length = k ∧ (c = 0 ∨ c = 1) ∧ Dig.val l + Dig.pw k * c = Dig.val (x.take k) + Dig.val (y.take k)
theorem Add1.start (x y : List Int) : Add1 x y [] 0 0 := ⟨Dig.okL_nil, rfl, .inl rfl, by simp [Dig.val]⟩
def sumD (x y : List Int) (k : Nat) (c : Int) : Int := c + x.getD k 0 + y.getD k 0
theorem take_val (x : List Int) (k : Nat) : Dig.val (x.take (k + 1)) = Dig.val (x.take k) + Dig.pw k * x.getD k 0 := by
  by_cases h : k < x.length
  · exact Dig.val_take_succ h
  · rw [Dig.val_take_ge (by omega), List.getD_eq_getElem?_getD, List.getElem?_eq_none (by omega)]; simp
theorem Add1.step {x y l : List Int} {k : Nat} {c : Int} (h : Add1 x y l k c) (ox : Dig.okL x) (oy : Dig.okL y) :
    Add1 x y (l ++ [sumD x y k c % 65536]) (k + 1) (sumD x y k c / 65536) ∧ 0 ≤ sumD x y k c ∧ sumD x y k c < 131072 := by
  obtain ⟨ho, hl, hc, hv⟩ := h
  have hx := Dig.okL_getD ox k
  have hy := Dig.okL_getD oy k
  have b : 0 ≤ sumD x y k c ∧ sumD x y k c < 131072 := by unfold sumD; omega
  have d0 := Int.emod_nonneg (sumD x y k c) (b := 65536) (by decide)
  have d1 := Int.emod_lt_of_pos (sumD x y k c) (b := 65536) (by decide)
  have e := Int.mul_ediv_add_emod (sumD x y k c) 65536
  refine ⟨⟨Dig.okL_append.2 ⟨ho, Dig.okL_one ⟨d0, d1⟩⟩, by simp [hl], by omega, ?_⟩, b⟩
  rw [Dig.val_snoc, take_val, take_val, hl, Dig.pw_succ]
  have es : sumD x y k c = c + x.getD k 0 + y.getD k 0 := rfl
  generalize sumD x y k c / 65536 = q at *
  generalize sumD x y k c % 65536 = r at *
  generalize x.getD k 0 = X at *
  generalize y.getD k 0 = Y at *
  rw [es] at e
  generalize Dig.pw k = P at *
  grind
theorem Add1.done {x y l : List Int} {k : Nat} (h : Add1 x y l k 0) (hx : x.length ≤ k) (hy : y.length ≤ k) : Dig.okL l ∧ Dig.val l = Dig.val x + Dig.val y := by
  obtain ⟨ho, hl, _, hv⟩ := h
  rw [Dig.val_take_all hx, Dig.val_take_all hy] at hv
  exact ⟨ho, by omega⟩
end Go.Proofs.YtnccllelmbcdcaaGreatDoor
