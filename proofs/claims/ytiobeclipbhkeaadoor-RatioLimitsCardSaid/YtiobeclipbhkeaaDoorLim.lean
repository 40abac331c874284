/- RatioLimits, first part: the product that overflows, and what the five ways share. Conditions: none but those in each theorem. -/
import Derived.Test.YtiobeclipbhkeaaDoorSan
namespace Go.Proofs.YtiobeclipbhkeaaDoor
open Go.RowKit

theorem ok_big (x : Int) (h : 9223372036854775807 < x) : Num.okB 1 x = false := by
  have g : Int.gcd 1 x = 1 := by simp
  have e : Num.lowD 1 x = x := by unfold Num.lowD; rw [g, if_neg (by omega)]; simp
  unfold Num.okB; rw [e]
  have : decide (x ≤ 9223372036854775807) = false := by simp; omega
  rw [this]; simp
theorem mul_lim (x : Int) (h1 : 2 ≤ x) (h2 : x ≤ 1001) (w : World) :
    Calls Tryd.prog 17 #[ratV 1 9223372036854775807, ratV 1 x] w fun e w' => e = .returned (.tuple #[ratV 0 1, .bool false]) ∧ Below w.heap.size w w' := by
  have o := ok_big (9223372036854775807 * x) (by omega)
  refine mul_c 1 9223372036854775807 1 x 0 1 false (i64_of (by omega) (by omega)) (i64_of (by omega) (by omega)) (i64_of (by omega) (by omega)) (i64_of (by omega) (by omega)) ?_ w
  unfold Num.opN Num.opD Num.opB Num.resN Num.resD
  rw [show (1 : Int) * 1 = 1 from rfl, o]
  cases Num.rtB 1 9223372036854775807 && Num.rtB 1 x <;> rfl

theorem Held.drew {w : World} {L : List (Nat × Int × Int)} (h : Held w L) : Held w.drew L := h
theorem Held.drewN {w : World} {L : List (Nat × Int × Int)} (h : Held w L) (n : Nat) : Held (w.drewN n) L := h

end Go.Proofs.YtiobeclipbhkeaaDoor
