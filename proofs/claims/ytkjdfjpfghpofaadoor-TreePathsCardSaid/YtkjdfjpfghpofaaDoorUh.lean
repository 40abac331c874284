/- Trees of hashes, plain: a way leaves at most 63 halves aside. -/
import Derived.Test.YtkjdfjpfghpofaaDoorUa
namespace Go.Proofs.YtkjdfjpfghpofaaDoor.Tree
open Go

theorem halfK_pow : ∀ (f j n : Nat), f + j = 62 → 2 ^ j < n → n ≤ 2 ^ 63 → ∃ i, i ≤ 62 ∧ halfK f (2 ^ j) n = 2 ^ i ∧ n ≤ 2 * 2 ^ i
  | 0, j, n, h, _, h2 => by
    obtain rfl : j = 62 := by omega
    exact ⟨62, Nat.le_refl _, rfl, by omega⟩
  | f + 1, j, n, h, h1, h2 => by
    unfold halfK
    split
    · have := halfK_pow f (j + 1) n (by omega) (by rw [Nat.pow_succ]; omega) h2
      rw [Nat.pow_succ] at this
      exact this
    · exact ⟨j, by omega, rfl, by omega⟩
theorem half_spec (n : Nat) (h : 2 ≤ n) (h2 : n ≤ 2 ^ 63) : ∃ i, i ≤ 62 ∧ half n = 2 ^ i ∧ n ≤ 2 * 2 ^ i := halfK_pow 62 0 n rfl (by simp; omega) h2
theorem half_fit (n j : Nat) (h : 2 ≤ n) (hj : j ≤ 62) (h2 : n ≤ 2 ^ (j + 1)) : half n ≤ 2 ^ j ∧ n - half n ≤ 2 ^ j := by
  have h63 : n ≤ 2 ^ 63 := Nat.le_trans h2 (Nat.pow_le_pow_right (by omega) (by omega))
  obtain ⟨i, hi, e, hn⟩ := half_spec n h h63
  have hl := half_lt n h
  rw [e] at hl ⊢
  have hij : i ≤ j := by
    have : i < j + 1 := (Nat.pow_lt_pow_iff_right (a := 2) (by omega)).1 (Nat.lt_of_lt_of_le hl h2)
    omega
  have hp : 2 ^ i ≤ 2 ^ j := Nat.pow_le_pow_right (by omega) hij
  omega
theorem down_length (e : Part → Bool) (n : Nat) : ∀ (j : Nat) (p : Part), j ≤ 63 → p.b - p.a ≤ 2 ^ j → (down e n p).2.length ≤ j
  | 0, p, hj, h => by
    rw [down, dif_pos (.inr (by simp at h; omega))]; simp
  | j + 1, p, hj, h => by
    by_cases he : e p = true ∨ p.b ≤ p.a + 1
    · rw [down, dif_pos he]; simp
    · have he1 : e p = false := by cases hq : e p with
        | false => rfl
        | true => exact absurd (Or.inl hq) he
      have he2 : p.a + 2 ≤ p.b := by
        have : ¬ p.b ≤ p.a + 1 := fun h => he (.inr h)
        omega
      obtain ⟨f1, f2⟩ := half_fit (p.b - p.a) j (by omega) (by omega) h
      by_cases hn : n < p.a + half (p.b - p.a)
      · rw [down_left _ _ _ he1 he2 hn]
        have := down_length e n j ⟨p.a, p.a + half (p.b - p.a), true⟩ (by omega) (by simp; omega)
        simp; omega
      · rw [down_right _ _ _ he1 he2 hn]
        have := down_length e n j ⟨p.a + half (p.b - p.a), p.b, false⟩ (by omega) (by simp; omega)
        simp; omega
theorem down_short (e : Part → Bool) (n : Nat) (p : Part) (h : (p.b : Int) ≤ 9223372036854775807) : (down e n p).2.length ≤ 63 := down_length e n 63 p (by omega) (by have : (2 : Nat) ^ 63 = 9223372036854775808 := rfl; omega)
end Go.Proofs.YtkjdfjpfghpofaaDoor.Tree
