/-
  The walks over numbers of 128 bits.
-/
import Derived.Test.YtnccllelmbcdcaaGreatDoorWa
import Derived.Test.YtnccllelmbcdcaaGreatDoorShelf
import Derived.Shelf.Spec.BitsCarry
import Derived.Test.YtnccllelmbcdcaaGreatDoorDiv
namespace Go.Proofs.YtnccllelmbcdcaaGreatDoor
open Go.RowKit

/-- A number of 128 bits as the program holds it. -/
abbrev wideV (x : Int) : Value := .agg #[.int .u64 (Num.hi x), .int .u64 (Num.lo x)]

theorem ret_wide {a b c d : Int} (h1 : a = c) (h2 : b = d) : Ending.returned (.agg #[.int .u64 a, .int .u64 b]) = .returned (.agg #[.int .u64 c, .int .u64 d]) := by rw [h1, h2]

theorem mul64_any (x y : Int) (h1 : 0 ≤ x) (h2 : x < 18446744073709551616) (h3 : 0 ≤ y) (h4 : y < 18446744073709551616) (w : World) :
    Calls Tryz.prog 87 #[.int .u64 x, .int .u64 y] w fun e w' => e = .returned (.tuple #[.int .u64 (Num.hi (x * y)), .int .u64 (Num.lo (x * y))]) ∧ w = w' := by
  obtain ⟨x, rfl⟩ := Int.eq_ofNat_of_zero_le h1
  obtain ⟨y, rfl⟩ := Int.eq_ofNat_of_zero_le h3
  refine (Tryz.bits_Mul64 x y (by omega) (by omega) w).mono fun e w' ⟨he, hw⟩ => ⟨he.trans ?_, hw.symm⟩
  unfold Num.hi Num.lo
  rw [← Int.natCast_mul]
  congr 6

set_option maxHeartbeats 400000 in
theorem multiply_any (x y : Int) (h1 : 0 ≤ x) (h2 : x < 18446744073709551616) (h3 : 0 ≤ y) (h4 : y < 18446744073709551616) (w : World) :
    Calls Tryz.prog 68 #[.int .u64 x, .int .u64 y] w fun e w' => e = .returned (wideV (x * y)) ∧ w' = w.alloc (.cells #[.int .u64 (Num.hi (x * y)), .int .u64 (Num.lo (x * y))] 62) := by
  go_enter Tryz.func68, Tryz.ntmps68
  go_wp2_with (go_at_call 87; refine (mul64_any x y h1 h2 h3 h4 _).mono ?_; rintro e w' ⟨rfl, rfl⟩)
  go_returns
  exact ⟨rfl, rfl⟩

set_option maxHeartbeats 400000 in
theorem less_raw (h1 l1 h2 l2 : Int) (w : World) :
    Calls Tryz.prog 66 #[.agg #[.int .u64 h1, .int .u64 l1], .agg #[.int .u64 h2, .int .u64 l2]] w fun e w' => e = .returned (.bool (Num.lessB h1 l1 h2 l2)) ∧ Below w.heap.size w w' := by
  by_cases g1 : h1 < h2
  · have e1 : Num.lessB h1 l1 h2 l2 = true := by simp [Num.lessB, g1]
    rw [e1]
    go_enter Tryz.func66, Tryz.ntmps66
    go_wp2
    go_ret
    exact ⟨rfl, by go_grown⟩
  by_cases g2 : h1 = h2
  · subst g2
    by_cases g3 : l1 < l2
    · have e1 : Num.lessB h1 l1 h1 l2 = true := by simp [Num.lessB, g3]
      rw [e1]
      go_enter Tryz.func66, Tryz.ntmps66
      go_wp2
      go_ret
      exact ⟨rfl, by go_grown⟩
    · have e1 : Num.lessB h1 l1 h1 l2 = false := by simp [Num.lessB, g3]
      rw [e1]
      go_enter Tryz.func66, Tryz.ntmps66
      go_wp2
      go_ret
      exact ⟨rfl, by go_grown⟩
  · have e1 : Num.lessB h1 l1 h2 l2 = false := by simp [Num.lessB, g1, g2]
    have g2' : (h1 == h2) = false := by simp [g2]
    rw [e1]
    go_enter Tryz.func66, Tryz.ntmps66
    go_wp2
    go_ret
    exact ⟨rfl, by go_grown⟩

theorem less_any (x y : Int) (w : World) :
    Calls Tryz.prog 66 #[wideV x, wideV y] w fun e w' => e = .returned (.bool (decide (x < y))) ∧ Below w.heap.size w w' := by
  rw [← Num.less_eq]; exact less_raw _ _ _ _ w

theorem add64 (x y c : Int) (hx : 0 ≤ x) (hy : 0 ≤ y) (hc0 : 0 ≤ c) (hc : c ≤ 1) (w : World) : (callFunc 104 #[.int .u64 x, .int .u64 y, .int .u64 c]).run Tryz.prog w =
    .ok (.value (.tuple #[.int .u64 ((x + y + c) % 18446744073709551616), .int .u64 ((x + y + c) / 18446744073709551616)])) w := by
  obtain ⟨x, rfl⟩ := Int.eq_ofNat_of_zero_le hx
  obtain ⟨y, rfl⟩ := Int.eq_ofNat_of_zero_le hy
  obtain ⟨c, rfl⟩ := Int.eq_ofNat_of_zero_le hc0
  rw [run_callFunc_extern Tryz.func104 (by kernel_rfl) (by kernel_rfl) (by kernel_rfl) (e := add64Entry) (by kernel_rfl), run_add64 x y c (by omega) (by omega) (by omega) (by omega)]
  simp only [Result.andThen]
theorem sub64 (x y b : Int) (hx : 0 ≤ x) (hy : 0 ≤ y) (hy' : y < 18446744073709551616) (hb0 : 0 ≤ b) (hb : b ≤ 1) (w : World) : (callFunc 105 #[.int .u64 x, .int .u64 y, .int .u64 b]).run Tryz.prog w =
    .ok (.value (.tuple #[.int .u64 ((x - y - b) % 18446744073709551616), .int .u64 (if x < y + b then 1 else 0)])) w := by
  obtain ⟨x, rfl⟩ := Int.eq_ofNat_of_zero_le hx
  obtain ⟨y, rfl⟩ := Int.eq_ofNat_of_zero_le hy
  obtain ⟨b, rfl⟩ := Int.eq_ofNat_of_zero_le hb0
  have e1 : (((x + 18446744073709551616 - y - b) % 18446744073709551616 : Nat) : Int) = ((x : Int) - y - b) % 18446744073709551616 := by omega
  have e2 : ((if x < y + b then 1 else 0 : Nat) : Int) = if (x : Int) < y + b then 1 else 0 := by split <;> split <;> omega
  rw [← e1, ← e2, run_callFunc_extern Tryz.func105 (by kernel_rfl) (by kernel_rfl) (by kernel_rfl) (e := sub64Entry) (by kernel_rfl), run_sub64 x y b (by omega)]
  rfl
theorem add64_0 (x y : Int) (hx : 0 ≤ x) (hy : 0 ≤ y) (w : World) : (callFunc 104 #[.int .u64 x, .int .u64 y, .int .u64 0]).run Tryz.prog w =
    .ok (.value (.tuple #[.int .u64 ((x + y) % 18446744073709551616), .int .u64 ((x + y) / 18446744073709551616)])) w := by
  simpa using add64 x y 0 hx hy (Int.le_refl 0) (by decide) w
/-- The borrow under a name. -/
def bor (x y : Int) : Int := if x < y then 1 else 0
theorem bor_01 (x y : Int) : 0 ≤ bor x y ∧ bor x y ≤ 1 := by unfold bor; split <;> omega
theorem sub64_b (x y b : Int) (hx : 0 ≤ x) (hy : 0 ≤ y) (hy' : y < 18446744073709551616) (hb0 : 0 ≤ b) (hb : b ≤ 1) (w : World) : (callFunc 105 #[.int .u64 x, .int .u64 y, .int .u64 b]).run Tryz.prog w =
    .ok (.value (.tuple #[.int .u64 ((x - y - b) % 18446744073709551616), .int .u64 (bor x (y + b))])) w := sub64 x y b hx hy hy' hb0 hb w
theorem sub64_0 (x y : Int) (hx : 0 ≤ x) (hy : 0 ≤ y) (hy' : y < 18446744073709551616) (w : World) : (callFunc 105 #[.int .u64 x, .int .u64 y, .int .u64 0]).run Tryz.prog w =
    .ok (.value (.tuple #[.int .u64 ((x - y) % 18446744073709551616), .int .u64 (bor x y)])) w := by
  simpa using sub64_b x y 0 hx hy hy' (Int.le_refl 0) (by decide) w

set_option maxHeartbeats 400000 in
theorem plus_any (x y : Int) (h1 : 0 ≤ x) (h2 : 0 ≤ y) (h3 : x + y < 340282366920938463463374607431768211456) (w : World) :
    Calls Tryz.prog 88 #[wideV x, wideV y] w fun e w' => e = .returned (wideV (x + y)) ∧ Below w.heap.size w w' := by
  have fin1 : (Num.lo x + Num.lo y) % 18446744073709551616 = Num.lo (x + y) := by unfold Num.lo; omega
  have fin2 : (Num.hi x + Num.hi y + (Num.lo x + Num.lo y) / 18446744073709551616) % 18446744073709551616 = Num.hi (x + y) := by unfold Num.lo Num.hi; omega
  have F1 := Lib.hid fin1; clear fin1
  have F2 := Lib.hid fin2; clear fin2
  obtain ⟨a1, a2⟩ := Num.hi_lt h1 (by omega)
  obtain ⟨b1, b2⟩ := Num.hi_lt h2 (by omega)
  obtain ⟨c1, c2⟩ := Num.lo_lt x
  obtain ⟨d1, d2⟩ := Num.lo_lt y
  have k0 : 0 ≤ (Num.lo x + Num.lo y) / 18446744073709551616 := by omega
  have k1 : (Num.lo x + Num.lo y) / 18446744073709551616 ≤ 1 := by omega
  go_enter Tryz.func88, Tryz.ntmps88
  go_wp2_with (first | simp only [add64_0 (Num.lo x) (Num.lo y) c1 d1] | simp only [add64 (Num.hi x) (Num.hi y) _ a1 b1 k0 k1])
  go_returns
  exact ⟨ret_wide F2.out F1.out, by go_grown⟩

set_option maxHeartbeats 400000 in
theorem minus_any (x y : Int) (h1 : 0 ≤ y) (h2 : y ≤ x) (h3 : x < 340282366920938463463374607431768211456) (w : World) :
    Calls Tryz.prog 89 #[wideV x, wideV y] w fun e w' => e = .returned (wideV (x - y)) ∧ Below w.heap.size w w' := by
  have fin1 : (Num.lo x - Num.lo y) % 18446744073709551616 = Num.lo (x - y) := by unfold Num.lo; omega
  have fin2 : (Num.hi x - Num.hi y - bor (Num.lo x) (Num.lo y)) % 18446744073709551616 = Num.hi (x - y) := by unfold bor Num.lo Num.hi; split <;> omega
  have F1 := Lib.hid fin1; clear fin1
  have F2 := Lib.hid fin2; clear fin2
  obtain ⟨a1, a2⟩ := Num.hi_lt (x := x) (by omega) (by omega)
  obtain ⟨b1, b2⟩ := Num.hi_lt h1 (by omega)
  obtain ⟨c1, c2⟩ := Num.lo_lt x
  obtain ⟨d1, d2⟩ := Num.lo_lt y
  obtain ⟨k0, k1⟩ := bor_01 (Num.lo x) (Num.lo y)
  go_enter Tryz.func89, Tryz.ntmps89
  go_wp2_with (first | simp only [sub64_0 (Num.lo x) (Num.lo y) c1 d1 d2] | simp only [sub64_b (Num.hi x) (Num.hi y) _ a1 b1 b2 k0 k1])
  go_returns
  exact ⟨ret_wide F2.out F1.out, by go_grown⟩

end Go.Proofs.YtnccllelmbcdcaaGreatDoor
