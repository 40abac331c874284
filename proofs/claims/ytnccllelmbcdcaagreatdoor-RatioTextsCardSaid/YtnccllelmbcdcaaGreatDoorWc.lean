/-
  The walks of ratio: remainders and quotients of numbers of 128 bits.
-/
import Derived.Test.YtnccllelmbcdcaaGreatDoorWb
namespace Go.Proofs.YtnccllelmbcdcaaGreatDoor
open Go.RowKit
set_option maxHeartbeats 400000 in
theorem modulo_any (x d : Int) (h0 : 0 ≤ x) (h1 : x < 340282366920938463463374607431768211456) (hd : 0 < d) (hd2 : d < 18446744073709551616) (w : World) :
    Calls Tryz.prog 70 #[wideV x, .int .u64 d] w fun e w' => e = .returned (.int .u64 (x % d)) ∧ ∃ nq, w' = (w.alloc (.cells #[.int .u64 (Num.hi x), .int .u64 (Num.lo x)] 62)).drewN nq := by
  have F := Lib.hid (Num.div_wide h0 hd).2
  obtain ⟨a1, a2⟩ := Num.hi_lt h0 h1
  obtain ⟨c1, c2⟩ := Num.lo_lt x
  go_enter Tryz.func70, Tryz.ntmps70
  go_wp2_with (go_at_call 90; refine (rem64_any _ _ d a1 a2 c1 c2 hd hd2 _).mono ?_; rintro e w' ⟨rfl, nq, rfl⟩)
  go_ret
  exact ⟨ret_int (by rw [F.out]), _, rfl⟩

set_option maxHeartbeats 400000 in
theorem divided_any (x d : Int) (h0 : 0 ≤ x) (h1 : x < 340282366920938463463374607431768211456) (hd : 0 < d) (hd2 : d < 18446744073709551616) (w : World) :
    Calls Tryz.prog 71 #[wideV x, .int .u64 d] w fun e w' => e = .returned (wideV (x / d)) ∧ Below w.heap.size w w' := by
  obtain ⟨a1, a2⟩ := Num.hi_lt h0 h1
  obtain ⟨c1, c2⟩ := Num.lo_lt x
  have m1 := Int.emod_nonneg (Num.hi x) (b := d) (by omega)
  have m2 := Int.emod_lt_of_pos (Num.hi x) hd
  have F := Lib.hid (Num.div_wide h0 hd).1
  have R := Num.rem_lo hd hd2 m1 m2 c1 c2
  have F1 : Hid (Num.hi x / d = Num.hi (x / d)) := by
    show _ = _
    conv => rhs; rw [F.out]
    unfold Num.hi at *; omega
  have F2 : Hid ((Num.hi x % d * 18446744073709551616 + Num.lo x) / d = Num.lo (x / d)) := by
    show _ = _
    conv => rhs; rw [F.out]
    unfold Num.lo at *; omega
  clear R
  have hd4 : (d == 0) = false := by simp; omega
  go_enter Tryz.func71, Tryz.ntmps71
  go_wp2
  go_quiet ((go_at_call 91; exact Calls.quiet_of (div64_any _ _ d m1 m2 c1 c2 hd2 _)))
  go_wp2
  go_returns
  exact ⟨ret_wide F1.out F2.out, by (repeat' (first | (with_reducible exact Below.refl _ _) | (with_reducible assumption) | (with_reducible refine bdn ?_ _) | (with_reducible refine Below.drew ?_) | (with_reducible refine Below.alloc ?_ ?_ _) | (with_reducible refine Below.setCell ?_ ?_ _) | go_size))⟩
end Go.Proofs.YtnccllelmbcdcaaGreatDoor
