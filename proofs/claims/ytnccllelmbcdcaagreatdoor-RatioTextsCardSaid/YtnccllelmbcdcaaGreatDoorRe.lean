/- Products of rows of digits: what the two loops keep. No Go stands in it. -/
import Derived.Test.YtnccllelmbcdcaaGreatDoorDig
namespace Go.Proofs.YtnccllelmbcdcaaGreatDoor

/-- Behind i digits of x, and k digits of y times the next one: what stands in L, and the carry c. -/
def Mul1 (x y L : List Int) (i k : Nat) (c : Int) : Prop :=
  Dig.okL L ∧ L.length = x.length + y.length ∧ 0 ≤ c ∧ c < 65536 ∧ (∀ j, i + y.length ≤ j → L.getD j 0 = 0) ∧
    Dig.val L + Dig.pw (i + k) * c = Dig.val (x.take i) * Dig.val y + Dig.pw i * x.getD i 0 * Dig.val (y.take k)

theorem Mul1.start (x y : List Int) : Mul1 x y (List.replicate (x.length + y.length) 0) 0 0 0 := by
  refine ⟨Dig.okL_replicate _, by simp, by omega, by omega, fun j _ => ?_, ?_⟩
  · rw [List.getD_eq_getElem?_getD, List.getElem?_replicate]; split <;> rfl
  · rw [Dig.val_replicate]; simp [Dig.val]

theorem Mul1.digit {x y L : List Int} {i k : Nat} {c : Int} (h : Mul1 x y L i k c) (ox : Dig.okL x) (oy : Dig.okL y) :
    0 ≤ L.getD (i + k) 0 + x.getD i 0 * y.getD k 0 + c ∧ L.getD (i + k) 0 + x.getD i 0 * y.getD k 0 + c < 4294967296 ∧ 0 ≤ x.getD i 0 * y.getD k 0 ∧ x.getD i 0 * y.getD k 0 ≤ 4294836225 := by
  obtain ⟨ho, hl, c0, c1, hz, hv⟩ := h
  have a := Dig.okL_getD ho (i + k)
  have b := Dig.okL_getD ox i
  have d := Dig.okL_getD oy k
  generalize L.getD (i + k) 0 = A at *
  generalize x.getD i 0 = B at *
  generalize y.getD k 0 = D at *
  have p0 : 0 ≤ B * D := Int.mul_nonneg b.1 d.1
  have p1 : B * D ≤ 65535 * 65535 := Int.mul_le_mul (by omega) (by omega) d.1 (by omega)
  omega

theorem Mul1.step {x y L : List Int} {i k : Nat} {c d : Int} (h : Mul1 x y L i k c) (ox : Dig.okL x) (oy : Dig.okL y) (hi : i < x.length) (hk : k < y.length) (hd : L.getD (i + k) 0 + x.getD i 0 * y.getD k 0 + c = d) :
    Mul1 x y (L.set (i + k) (d % 65536)) i (k + 1) (d / 65536) := by
  have hb := h.digit ox oy
  obtain ⟨ho, hl, c0, c1, hz, hv⟩ := h
  rw [hd] at hb
  have d0 := Int.emod_nonneg d (b := 65536) (by decide)
  have d1 := Int.emod_lt_of_pos d (b := 65536) (by decide)
  have e := Int.mul_ediv_add_emod d 65536
  refine ⟨Dig.okL_set ho _ ⟨d0, d1⟩, by simp [hl], by omega, by omega, fun j hj => ?_, ?_⟩
  · rw [List.getD_eq_getElem?_getD, List.getElem?_set_ne (by omega), ← List.getD_eq_getElem?_getD]; exact hz j hj
  · rw [Dig.val_set (by omega), Dig.val_take_succ hk, show i + (k + 1) = (i + k) + 1 by omega, Dig.pw_succ]
    have ep : Dig.pw (i + k) = Dig.pw i * Dig.pw k := Dig.pw_add i k
    generalize d / 65536 = q at *
    generalize d % 65536 = r at *
    subst e
    grind

theorem Mul1.next {x y L : List Int} {i : Nat} {c : Int} (h : Mul1 x y L i y.length c) (hi : i < x.length) : Mul1 x y (L.set (i + y.length) c) (i + 1) 0 0 := by
  obtain ⟨ho, hl, c0, c1, hz, hv⟩ := h
  have z := hz (i + y.length) (Nat.le_refl _)
  refine ⟨Dig.okL_set ho _ ⟨c0, c1⟩, by simp [hl], by omega, by omega, fun j hj => ?_, ?_⟩
  · rw [List.getD_eq_getElem?_getD, List.getElem?_set_ne (by omega), ← List.getD_eq_getElem?_getD]; exact hz j (by omega)
  · rw [Dig.val_set (by omega), z, Dig.val_take_succ hi]
    rw [Dig.val_take_all (Nat.le_refl _)] at hv
    simp only [List.take_zero, Dig.val]
    grind

theorem Mul1.done {x y L : List Int} {c : Int} (h : Mul1 x y L x.length 0 c) (hc : c = 0) : Dig.okL L ∧ Dig.val L = Dig.val x * Dig.val y := by
  obtain ⟨ho, hl, c0, c1, hz, hv⟩ := h
  subst hc
  rw [Dig.val_take_all (Nat.le_refl _)] at hv
  simp only [List.take_zero, Dig.val] at hv
  exact ⟨ho, by omega⟩
end Go.Proofs.YtnccllelmbcdcaaGreatDoor
