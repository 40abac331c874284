/-
  The remainder of a number of 128 bits.
-/
import Derived.Test.YtnccllelmbcdcaaGreatDoorDivw
namespace Go.Proofs.YtnccllelmbcdcaaGreatDoor
open Go.RowKit
set_option maxHeartbeats 400000 in
theorem rem64_any (h l y : Int) (h1 : 0 ≤ h) (h2 : h < 18446744073709551616) (l1 : 0 ≤ l) (l2 : l < 18446744073709551616) (y1 : 0 < y) (y2 : y < 18446744073709551616) (w : World) :
    Calls Tryz.prog 90 #[.int .u64 h, .int .u64 l, .int .u64 y] w fun e w' => e = .returned (.int .u64 ((h % y * 18446744073709551616 + l) % y)) ∧ ∃ nq, w' = w.drewN nq := by
  have m1 := Int.emod_nonneg h (b := y) (by omega)
  have m2 := Int.emod_lt_of_pos h y1
  go_enter Tryz.func90, Tryz.ntmps90
  go_wp2_with (go_at_call 91; refine (div64_any _ _ y m1 m2 l1 l2 y2 _).mono ?_; rintro e w' ⟨rfl, nq, rfl⟩)
  go_ret
  exact ⟨rfl, _, rfl⟩
end Go.Proofs.YtnccllelmbcdcaaGreatDoor
