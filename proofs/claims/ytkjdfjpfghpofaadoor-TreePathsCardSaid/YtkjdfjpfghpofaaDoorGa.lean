/- rot of both sides. -/
import Derived.Test.YtkjdfjpfghpofaaDoorProg
import Derived.Test.YtkjdfjpfghpofaaDoorGp
import Derived.WalkKit
import Derived.Laws.Externs
import Derived.WalkSpells
import Derived.WalkLawsBesides
import Derived.BigQuiet
import Derived.Deep.QuietTactic
import Derived.Lib.Hide
import Derived.Handy
import Derived.Deep.RegionHeld3
import Derived.RowKit3
import Derived.OwnWalk
import Derived.Laws.OwnMore
import Derived.Laws.Shifts
import Derived.Laws.BitsAllLaws
namespace Go.Proofs.YtkjdfjpfghpofaaDoor
open Go.RowKit

theorem rot_c (x n : Int) (h0 : 0 ≤ n) (h1 : n ≤ 32) (w : World) :
    Calls Tryd.prog 68 #[.int .u32 x, .int .u64 n] w fun e w' => e = .returned (.int .u32 (Sha.rotI x n)) ∧ w = w' := by
  go_enter Tryd.func68, Tryd.ntmps68
  go_wp2
  go_ret
  exact ⟨rfl, rfl⟩

theorem refRot_c (x n : Int) (h0 : 0 ≤ n) (h1 : n ≤ 32) (w : World) :
    Calls Tryd.prog 66 #[.int .u32 x, .int .i64 n] w fun e w' => e = .returned (.int .u32 (Sha.rotI x n)) ∧ ∃ nq, w' = w.drewN nq := by
  go_enter Tryd.func66, Tryd.ntmps66
  go_wp2
  go_quiet (fail)
  go_wp2
  go_ret
  exact ⟨rfl, nq, rfl⟩

theorem wrap_byte (x : Int) (h0 : 0 ≤ x) (h1 : x < 256) : IntKind.u32.wrap x = x := by rw [IntKind.wrap_u32]; omega

theorem wordOf_c (s : ByteArray) (h : 4 ≤ s.size) (w : World) :
    Calls Tryd.prog 69 #[.string s] w fun e w' => e = .returned (.int .u32 (Sha.wordI (Sha.byteI s 0) (Sha.byteI s 1) (Sha.byteI s 2) (Sha.byteI s 3))) ∧ ∃ nq, w' = w.drewN nq := by
  have h1 : 0 < s.size := by omega
  have h2 : (1 : Int) < (s.size : Int) := by omega
  have h3 : (2 : Int) < (s.size : Int) := by omega
  have h4 : (3 : Int) < (s.size : Int) := by omega
  have e0 := Sha.byteI_get s 0 (by omega)
  have e1 := Sha.byteI_get s 1 (by omega)
  have e2 := Sha.byteI_get s 2 (by omega)
  have e3 := Sha.byteI_get s 3 (by omega)
  have f0 := wrap_byte _ (Sha.byteI_lo s 0) (Sha.byteI_hi s 0)
  have f1 := wrap_byte _ (Sha.byteI_lo s 1) (Sha.byteI_hi s 1)
  have f2 := wrap_byte _ (Sha.byteI_lo s 2) (Sha.byteI_hi s 2)
  have f3 := wrap_byte _ (Sha.byteI_lo s 3) (Sha.byteI_hi s 3)
  obtain ⟨x0, g0⟩ : ∃ x, Sha.byteI s 0 = x := ⟨_, rfl⟩
  obtain ⟨x1, g1⟩ : ∃ x, Sha.byteI s 1 = x := ⟨_, rfl⟩
  obtain ⟨x2, g2⟩ : ∃ x, Sha.byteI s 2 = x := ⟨_, rfl⟩
  obtain ⟨x3, g3⟩ : ∃ x, Sha.byteI s 3 = x := ⟨_, rfl⟩
  rw [g0] at e0 f0; rw [g1] at e1 f1; rw [g2] at e2 f2; rw [g3] at e3 f3
  rw [g0, g1, g2, g3]
  clear g0 g1 g2 g3
  go_enter Tryd.func69, Tryd.ntmps69
  go_wp2
  go_quiet (fail)
  go_wp2
  go_ret
  refine ⟨?_, nq, rfl⟩
  rfl
end Go.Proofs.YtkjdfjpfghpofaaDoor
