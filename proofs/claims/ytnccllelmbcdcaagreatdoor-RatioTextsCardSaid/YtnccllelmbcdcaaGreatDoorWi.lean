/-
  Sums of fractions: what they come to.
-/
import Derived.Test.YtnccllelmbcdcaaGreatDoorWh
namespace Go.Proofs.YtnccllelmbcdcaaGreatDoor
open Go.RowKit

theorem Num.gcd_le_left {a b : Int} (h0 : 0 < a) : Num.gcdI a b ≤ a := by
  unfold Num.gcdI
  have : Nat.gcd a.toNat b.toNat ≤ a.toNat := Nat.le_of_dvd (by omega) (Nat.gcd_dvd_left ..)
  omega
theorem Num.gcd_pos_l {a b : Int} (h0 : 0 < a) : 0 < Num.gcdI a b := by
  unfold Num.gcdI
  have : 0 < Nat.gcd a.toNat b.toNat := Nat.gcd_pos_of_pos_left _ (by omega)
  omega
theorem Num.adN_le (s t : Bool) (l r : Int) (hl : 0 ≤ l) (hr : 0 ≤ r) : Num.adN s t l r ≤ l + r := by
  unfold Num.adN; split <;> (try split) <;> (try split) <;> omega

theorem sum_any (s t : Bool) (an ad bn bd : Int) (h1 : 0 ≤ an) (h2 : an ≤ 9223372036854775808) (h3 : 0 < ad) (h4 : ad ≤ 9223372036854775807) (h5 : 0 ≤ bn) (h6 : bn ≤ 9223372036854775808) (h7 : 0 < bd) (h8 : bd ≤ 9223372036854775807)
    (ha : Num.gcdI an ad = 1) (hb : Num.gcdI bn bd = 1) (w : World) :
    Calls Tryz.prog 44 #[fracV s an ad, fracV t bn bd] w fun e w' => e = .returned (.tuple #[ratV (Num.resN (Num.sgn s an * bd + Num.sgn t bn * ad) (ad * bd)) (Num.resD (Num.sgn s an * bd + Num.sgn t bn * ad) (ad * bd)), .bool (Num.okB (Num.sgn s an * bd + Num.sgn t bn * ad) (ad * bd))]) ∧ Below w.heap.size w w' := by
  obtain ⟨g, hg⟩ : ∃ g, g = Num.gcdI ad bd := ⟨_, rfl⟩
  have g1 : 0 < g := hg ▸ Num.gcd_pos_l h3
  have g2 : g ≤ ad := hg ▸ Num.gcd_le_left h3
  have a1 := Num.div_lt (Int.le_of_lt h3) (by omega) g1
  have b1 := Num.div_lt (Int.le_of_lt h7) (by omega) g1
  have a1' : ad / g ≤ 9223372036854775807 := Int.le_trans (Int.ediv_le_self g (Int.le_of_lt h3)) h4
  have b1' : bd / g ≤ 9223372036854775807 := Int.le_trans (Int.ediv_le_self g (Int.le_of_lt h7)) h8
  have mL := Num.mul_lt h1 h2 b1.1 b1'
  have mR := Num.mul_lt h5 h6 a1.1 a1'
  obtain ⟨T, hT⟩ : ∃ T, T = Num.adN s t (an * (bd / g)) (bn * (ad / g)) := ⟨_, rfl⟩
  have T0 : 0 ≤ T := hT ▸ Num.adN_nonneg mL.1 mR.1
  have T1 : T < 340282366920938463463374607431768211456 := by have := Num.adN_le s t _ _ mL.1 mR.1; omega
  obtain ⟨rest, hr⟩ : ∃ r, r = Num.gcdI (T % g) g := ⟨_, rfl⟩
  have r1 : 0 < rest := hr ▸ (Num.gcd_pos g1 (by omega)).1
  have r2 : rest ≤ 9223372036854775808 := hr ▸ (Num.gcd_pos g1 (by omega)).2
  have m1 := Int.emod_nonneg T (b := g) (by omega)
  have m2 := Int.emod_lt_of_pos T g1
  have bq := Num.div_lt (Int.le_of_lt h7) (by omega) r1
  have L := Num.sum_low (s := s) (t := t) h1 h3 h5 h7 ha hb hg hT hr
  have hd : ad * bd ≠ 0 := by have := Int.mul_pos h3 h7; omega
  have F := Num.fit_eq (n := Num.sgn s an * bd + Num.sgn t bn * ad) (d := ad * bd) (s := Num.adS s t (an * (bd / g)) (bn * (ad / g))) hd L.2.2.1 L.2.1 L.1 L.2.2.2
  rw [← F.1, ← F.2.1, ← F.2.2]
  refine sum_raw s t (Num.adS s t (an * (bd / g)) (bn * (ad / g))) an ad bn bd g (bd / g) (ad / g) (an * (bd / g)) (bn * (ad / g)) T (T % g) rest (T / rest) (bd / rest) (ad / g * (bd / rest)) _ _ _
    (Num.quo_eq (Int.le_of_lt h7) (by omega) g1) (Num.quo_eq (Int.le_of_lt h3) (by omega) g1) (Num.quo_eq (Int.le_of_lt h7) (by omega) r1) (by omega) (by omega)
    ?_ ?_ ?_ ?_ ?_ ?_ ?_ ?_ ?_ w
  · intro w; rw [hg]; exact gcd_any ad bd (by omega) (by omega) (by omega) (by omega) w
  · intro w; exact multiply_any an _ h1 (by omega) b1.1 b1.2 w
  · intro w; exact multiply_any bn _ h5 (by omega) a1.1 a1.2 w
  · intro w; rw [hT]; exact addSigned_any s t _ _ mL.1 mR.1 (by omega) w
  · intro w; exact modulo_any T g T0 T1 g1 (by omega) w
  · intro w; rw [hr]; exact gcd_any _ g m1 (by omega) (by omega) (by omega) w
  · intro w; exact divided_any T rest T0 T1 r1 (by omega) w
  · intro w; exact multiply_any _ _ a1.1 a1.2 bq.1 bq.2 w
  · intro w; exact fit_any _ _ _ L.2.2.1 (Int.le_of_lt L.2.1) w
end Go.Proofs.YtnccllelmbcdcaaGreatDoor
