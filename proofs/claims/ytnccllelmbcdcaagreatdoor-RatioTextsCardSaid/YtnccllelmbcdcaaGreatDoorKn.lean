/-
  The digits of a long division (Knuth, 4.3.1). No Go stands in it.
-/
import Derived.Below
namespace Go.Proofs.YtnccllelmbcdcaaGreatDoor
namespace Kn
/-- What stays true while the guess of a digit is lowered (Knuth, 4.3.1). -/
structure Inv (y1 U qt q r : Int) : Prop where
  eq : q * y1 + r = U
  ge : qt ≤ q
  r0 : 0 ≤ r
  r1 : r < 4294967296
  q1 : q ≤ 4294967297
structure Has (y1 y0 U v Y N qt : Int) : Prop where
  hY : Y = y1 * 4294967296 + y0
  y00 : 0 ≤ y0
  y01 : y0 < 4294967296
  y10 : 2147483648 ≤ y1
  y11 : y1 < 4294967296
  U0 : 0 ≤ U
  U1 : U < Y
  v0 : 0 ≤ v
  v1 : v < 4294967296
  hN : N = U * 4294967296 + v
  hq : qt = N / Y
variable {y1 y0 U v Y N qt q r : Int}
theorem Has.Y0 (H : Has y1 y0 U v Y N qt) : 0 < Y := by have := H.hY; have := H.y00; have := H.y10; omega
theorem Has.N0 (H : Has y1 y0 U v Y N qt) : 0 ≤ N := by have := H.hN; have := H.U0; have := H.v0; omega
theorem Has.qt0 (H : Has y1 y0 U v Y N qt) : 0 ≤ qt := by rw [H.hq]; exact Int.ediv_nonneg H.N0 (Int.le_of_lt H.Y0)
theorem Has.qt1 (H : Has y1 y0 U v Y N qt) : qt < 4294967296 := by
  rw [H.hq]; apply Int.ediv_lt_of_lt_mul H.Y0
  have := H.hN; have := H.U1; have := H.v1; omega
theorem Has.diff (H : Has y1 y0 U v Y N qt) (I : q * y1 + r = U) : q * Y - N = q * y0 - (4294967296 * r + v) := by
  rw [H.hY, H.hN, ← I]; grind
theorem Has.start (H : Has y1 y0 U v Y N qt) : Inv y1 U qt (U / y1) (U % y1) := by
  have h1 := Int.emod_nonneg U (b := y1) (by have := H.y10; omega)
  have h2 := Int.emod_lt_of_pos U (b := y1) (by have := H.y10; omega)
  have h3 := Int.emod_add_mul_ediv U y1
  have h4 := H.y10; have h5 := H.y11; have h6 := H.y00; have h7 := H.y01; have h8 := H.hY; have h9 := H.U1
  refine ⟨by rw [Int.mul_comm]; omega, ?_, h1, by omega, ?_⟩
  · apply Int.le_ediv_of_mul_le (by omega)
    have a1 : qt * Y ≤ N := by rw [H.hq]; exact Int.ediv_mul_le N (by have := H.Y0; omega)
    have a2 : qt * Y = qt * y1 * 4294967296 + qt * y0 := by rw [h8]; grind
    have a3 := Int.mul_nonneg H.qt0 h6
    have := H.hN; have := H.v1
    omega
  · have : U / y1 < 4294967298 := by
      apply Int.ediv_lt_of_lt_mul (by omega); omega
    omega
theorem Has.step (H : Has y1 y0 U v Y N qt) (I : Inv y1 U qt q r) (h : 4294967296 ≤ q ∨ 4294967296 * r + v < q * y0) : qt ≤ q - 1 ∧ (q - 1) * y1 + (r + y1) = U := by
  have hd := H.diff I.eq
  have e := I.eq
  refine ⟨?_, by rw [Int.sub_mul]; omega⟩
  rcases h with h | h
  · have := H.qt1; omega
  · have : qt < q := by rw [H.hq]; apply Int.ediv_lt_of_lt_mul H.Y0; omega
    omega
theorem Has.exit1 (H : Has y1 y0 U v Y N qt) (I : Inv y1 U qt q r) (h : ¬ 4294967296 * r + v < q * y0) : q = qt := by
  have hd := H.diff I.eq
  have : q ≤ qt := by rw [H.hq]; apply Int.le_ediv_of_mul_le H.Y0; omega
  have := I.ge; omega
theorem Has.exit2 (H : Has y1 y0 U v Y N qt) (hge : qt ≤ q) (he : q * y1 + r = U) (hq : q ≤ 4294967296) (h : 4294967296 ≤ r) : q = qt := by
  have hd := H.diff he
  have a1 : q * y0 ≤ 4294967296 * 4294967295 := Int.mul_le_mul hq (by have := H.y01; omega) H.y00 (by decide)
  have := H.v0
  have : q ≤ qt := by rw [H.hq]; apply Int.le_ediv_of_mul_le H.Y0; omega
  omega
/-- The remainder behind a digit. -/
theorem Has.rest (H : Has y1 y0 U v Y N qt) : N - qt * Y = N % Y ∧ 0 ≤ N % Y ∧ N % Y < Y := by
  have h1 := Int.emod_nonneg N (b := Y) (by have := H.Y0; omega)
  have h2 := Int.emod_lt_of_pos N H.Y0
  have h3 := Int.emod_add_mul_ediv N Y
  rw [← H.hq, Int.mul_comm] at h3
  exact ⟨by omega, h1, h2⟩
/-- Two digits make the quotient. -/
theorem two {Y U v1 v0 q1 q0 : Int} (hY : 0 < Y) (h1 : q1 = (U * 4294967296 + v1) / Y) (h0 : q0 = ((U * 4294967296 + v1) % Y * 4294967296 + v0) / Y) :
    (U * 18446744073709551616 + v1 * 4294967296 + v0) / Y = q1 * 4294967296 + q0 ∧
    (U * 18446744073709551616 + v1 * 4294967296 + v0) % Y = ((U * 4294967296 + v1) % Y * 4294967296 + v0) % Y := by
  have e := Int.emod_add_mul_ediv (U * 4294967296 + v1) Y
  rw [← h1] at e
  generalize (U * 4294967296 + v1) % Y = r at *
  have e2 : U * 18446744073709551616 + v1 * 4294967296 + v0 = (r * 4294967296 + v0) + Y * (q1 * 4294967296) := by grind
  rw [e2, Int.add_mul_ediv_left _ _ (by omega), Int.add_mul_emod_self_left, h0]
  exact ⟨by omega, rfl⟩
end Kn
end Go.Proofs.YtnccllelmbcdcaaGreatDoor
