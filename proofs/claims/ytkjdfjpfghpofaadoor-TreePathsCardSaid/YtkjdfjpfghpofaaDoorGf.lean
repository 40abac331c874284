/- What follows a message: padding. -/
import Derived.Test.YtkjdfjpfghpofaaDoorGc
namespace Go.Proofs.YtkjdfjpfghpofaaDoor
open Go.RowKit

theorem infoU8 : (Tryd.prog.info? 5).map (fun i => (i.zero, i.size, i.bytes)) = some (some (.int .u8 0), 1, 1) := by kernel_rfl

theorem made_row {w w0 : World} {n : Nat} (h : w0.ownsRow w.heap.size 5 1 (.slice (some ⟨w.heap.size, 0, none⟩) n n) n (madeCells (Value.int .u8 0).cells (n * 1)).toList) : RowB .u8 w0 w.heap.size (List.replicate n 0) :=
  RowB.own h (by show (madeCells #[Value.int .u8 0] (n * 1)).toList = _; rw [toList_madeCells_one, List.map_replicate, Nat.mul_one])

theorem made_facts {w w0 : World} {n : Nat} (hn : 0 < n) (h : w0.ownsRow w.heap.size 5 1 (.slice (some ⟨w.heap.size, 0, none⟩) n n) n (madeCells (Value.int .u8 0).cells (n * 1)).toList) (hg : w.grownBy w0 none) :
    w0.cell? ⟨w.heap.size, 0, none⟩ = some (.int .u8 0) ∧ w0.frozen? ⟨w.heap.size, 0, none⟩ = false ∧ Hid (RowB .u8 (w0.setCell ⟨w.heap.size, 0, none⟩ (.int .u8 128)) w.heap.size ((List.replicate n 0).set 0 128)) ∧ Hid (Below w.heap.size w w0) := by
  have hR := made_row h
  have h0 := hR 0 (by simpa using hn)
  refine ⟨?_, h0.2, Lib.hid (hR.set 0 128 (by simpa using hn)), Lib.hid ((Below.refl _ w).grown hg (Nat.le_refl _) (fun _ h => by cases h))⟩
  rw [h0.1]; simp [List.getD_eq_getElem?_getD, hn]

set_option maxRecDepth 100000 in
set_option maxHeartbeats 1000000 in
theorem padding_c (L : Nat) (hL : L ≤ 140737488355328) (w : World) :
    Calls Tryd.prog 54 #[.int .i64 (L : Int)] w fun e w' => e = .returned (.string (strOfNums (Sha.padI L))) ∧ Below w.heap.size w w' := by
  obtain ⟨i0, hi, hz0, hz1, hz2⟩ := info_parts infoU8
  have hz : (119 - (L : Int) % 64) % 64 = (Sha.zerosOf L : Int) := by unfold Sha.zerosOf; omega
  have hzl : Sha.zerosOf L < 64 := by unfold Sha.zerosOf; omega
  have HP := Lib.hid (Sha.endN_pad L)
  obtain ⟨z, hzz⟩ : ∃ z, Sha.zerosOf L = z := ⟨_, rfl⟩
  rw [hzz] at hz hzl HP
  clear hzz
  go_enter Tryd.func54, Tryd.ntmps54
  go_wp2_with (at_make; refine wpList_make_full _ rfl _ _ 30 rfl w.heap.size 5 i0 (.int .u8 0) 1 Tryd.underlying30 hi hz0 hz1 .i64 .i64 _ _ (z + 9) rfl rfl (by first | rfl | omega) (by first | rfl | omega) (by rw [hz2]; omega) (by unfold maxLen; omega) (Nat.le_refl _) ?_; intro w0 hown0 hgrow0; obtain ⟨hc0, hf0, hR1, hB0⟩ := made_facts (Nat.succ_pos _) hown0 hgrow0; clear hown0 hgrow0)
  go_loopw [6, 20] (fun _ i wr => ∃ n : Nat, n ≤ 8 ∧ i = .int .i64 n ∧ Hid (RowB .u8 wr w.heap.size (Sha.endN (z + 9) ((L : Int) * 8) n)) ∧ Hid (Below w.heap.size w wr)) (fun _ i _ => 8 - (intOf i).toNat)
  case atStart => exact ⟨0, by omega, rfl, hR1, Lib.hid (hB0.out.setCell (Nat.le_refl _) _)⟩
  clear hc0 hf0 hR1 hB0
  case round =>
    obtain ⟨n, hn, rfl, hR, hB⟩ := hrel
    by_cases hlt : n < 8
    · have hc := (hR.out (z + 8 - n) (by rw [Sha.endN_length]; omega)).1
      have hf := (hR.out (z + 8 - n) (by rw [Sha.endN_length]; omega)).2
      have HC := Lib.hid (And.intro hlt hzl)
      go_wp2
      go_roundw
      case rel =>
        refine ⟨n + 1, HC.out.1, by go_num, Lib.hid ?_, Lib.hid (hB.out.setCell (Nat.le_refl _) _)⟩
        rw [Sha.endN_next]
        exact hR.out.set (z + 8 - n) _ (by rw [Sha.endN_length]; have := HC.out; omega)
      case measure => have := HC.out; simp only [intOf]; omega
    · obtain rfl : n = 8 := by omega
      have hS := hR.out.str (P := Tryd.prog) (cap := z + 9) (Sha.endN_length _ _ _) 30 9 5 (by kernel_rfl) (by kernel_rfl) (by kernel_rfl)
      rw [HP.out] at hS
      go_wp2
      go_ret
      exact ⟨rfl, hB.out⟩
end Go.Proofs.YtkjdfjpfghpofaaDoor
