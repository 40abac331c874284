/- The rounds of a block: mixed. -/
import Derived.Test.YtkjdfjpfghpofaaDoorGc
namespace Go.Proofs.YtkjdfjpfghpofaaDoor
open Go.RowKit

def stV (s : Sha.S8) : Value := .agg #[.int .u32 s.a, .int .u32 s.b, .int .u32 s.c, .int .u32 s.d, .int .u32 s.e, .int .u32 s.f, .int .u32 s.g, .int .u32 s.h]

/-- What stands in memory while the rounds go on. -/
def MixW (w : World) (ws : List Int) (wr : World) : Prop :=
  Blk .u32 wr (w.heap.size + 1) 93 ws ∧ Blk .u32 wr (w.heap.size + 1 + 1) 84 (List.replicate 8 0) ∧ TabB wr 1 Sha.kL ∧ Below w.heap.size w wr
theorem MixW.drewN {w wr : World} {ws : List Int} (h : MixW w ws wr) (n : Nat) : MixW w ws (wr.drewN n) := ⟨h.1, h.2.1, h.2.2.1, bdn h.2.2.2 n⟩
theorem mixW_start (w : World) (ws : List Int) (cs xs zs : Array Value) (T : TypeId) (hcs : (ws.map (Value.int .u32)).toArray = cs) (hz : zs = ((List.replicate 8 0).map (Value.int .u32)).toArray) (ht : TabB w 1 Sha.kL) :
    MixW w ws (((w.alloc (.cells xs T)).alloc (.cells cs 93)).alloc (.cells zs 84)) := by
  have hB : Below w.heap.size w (((w.alloc (.cells xs T)).alloc (.cells cs 93)).alloc (.cells zs 84)) := by (repeat' (first | (with_reducible exact Below.refl _ _) | (with_reducible assumption) | (with_reducible refine bdn ?_ _) | (with_reducible refine Below.drew ?_) | (with_reducible refine Below.alloc ?_ ?_ _) | (with_reducible refine Below.setCell ?_ ?_ _) | go_size))
  refine ⟨Blk.alloc ?_ _, ?_, ht.below hB, hB⟩
  · have := Blk.new (k := .u32) (T := 93) (w.alloc (.cells xs T)) ws cs hcs.symm
    simpa using this
  · exact zeros_new _ _ _ .u32 8 _ (by simp) hz

set_option maxRecDepth 100000 in
set_option maxHeartbeats 1000000 in
theorem mixed_c (s : Sha.S8) (ws : List Int) (hw : ws.length = 64) (w : World) (ht : TabB w 1 Sha.kL) :
    Calls Tryd.prog 63 #[stV s, .agg (ws.map (Value.int .u32)).toArray] w fun e w' => e = .returned (stV (Sha.rnds ws s 64)) ∧ Below w.heap.size w w' := by
  obtain ⟨cs, hcs⟩ : ∃ cs, (ws.map (Value.int .u32)).toArray = cs := ⟨_, rfl⟩
  have hs : cs.size = 64 := by rw [← hcs]; simp [hw]
  have HT := Lib.hid ht; have HW := Lib.hid hw; have HC := Lib.hid hcs
  rw [hcs]
  clear ht hw hcs
  unfold stV
  go_enter Tryd.func63, Tryd.ntmps63
  go_wp2
  go_quiet (fail)
  go_wp2_with fail
  go_loopw [5, 6, 7, 8, 9, 10, 11, 12, 13, 14, 15, 32] (fun a b c d e f g h _ _ _ i wr => ∃ n : Nat, n ≤ 64 ∧ i = .int .i64 n ∧ a = .int .u32 (Sha.rnds ws s n).a ∧ b = .int .u32 (Sha.rnds ws s n).b ∧ c = .int .u32 (Sha.rnds ws s n).c ∧ d = .int .u32 (Sha.rnds ws s n).d ∧ e = .int .u32 (Sha.rnds ws s n).e ∧ f = .int .u32 (Sha.rnds ws s n).f ∧ g = .int .u32 (Sha.rnds ws s n).g ∧ h = .int .u32 (Sha.rnds ws s n).h ∧ Hid (MixW w ws wr)) (fun _ _ _ _ _ _ _ _ _ _ _ i _ => 64 - (intOf i).toNat)
  case atStart => exact ⟨0, by omega, rfl, rfl, rfl, rfl, rfl, rfl, rfl, rfl, rfl, Lib.hid (MixW.drewN (mixW_start w ws cs _ _ _ HC.out (by rfl) HT.out) _)⟩
  clear HT
  case round =>
    obtain ⟨n, hn, rfl, rfl, rfl, rfl, rfl, rfl, rfl, rfl, rfl, hM⟩ := hrel
    by_cases hlt : n < 64
    · have hc := hM.out.1.cell n (by rw [HW.out]; exact hlt)
      have hk := hM.out.2.2.1.cell n (by exact hlt)
      obtain ⟨x, hx⟩ : ∃ x, ws.getD n 0 = x := ⟨_, rfl⟩
      obtain ⟨y, hy⟩ : ∃ x, Sha.kL.getD n 0 = x := ⟨_, rfl⟩
      rw [hx] at hc; rw [hy] at hk
      have hR : Sha.rnds ws s (n + 1) = Sha.rnd (Sha.rnds ws s n) y x := by rw [← hx, ← hy]; rfl
      have HR := Lib.hid hR
      have i0 : (0 : Int) ≤ (n : Int) := by omega
      have i1 : (n : Int) < 64 := by omega
      clear hx hy hR
      obtain ⟨⟨a, b, c, d, e, f, g, h⟩, hS⟩ : ∃ S, Sha.rnds ws s n = S := ⟨_, rfl⟩
      rw [hS] at HR ⊢
      clear hS
      go_wp2_with fail
      go_quiet ((go_at_call 68; exact Calls.quiet_of_same ((rot_c _ _ (by omega) (by omega) _).mono fun _ _ ⟨h1, h2⟩ => ⟨h1, h2.symm⟩)))
      go_wp2_with (go_at_call 68; refine (rot_c _ _ (by omega) (by omega) _).mono ?_; rintro e w1 ⟨rfl, rfl⟩)
      exact ⟨⟨n + 1, by omega, by go_num, by rw [HR.out]; rfl, by rw [HR.out]; rfl, by rw [HR.out]; rfl, by rw [HR.out]; rfl, by rw [HR.out]; rfl, by rw [HR.out]; rfl, by rw [HR.out]; rfl, by rw [HR.out]; rfl, Lib.hid (hM.out.drewN _)⟩, by simp only [intOf]; omega⟩
    · obtain rfl : n = 64 := by omega
      clear HW HC hs
      obtain ⟨S, hS⟩ : ∃ S, Sha.rnds ws s 64 = S := ⟨_, rfl⟩
      have HS := Lib.hid hS
      rw [hS]
      clear hS
      go_wp2_with (refine store_blk hM.out.2.1 rfl _ _ rfl rfl (Sha.S8.list S) rfl rfl (by kernel_rfl) ?_)
      refine bodyPost_ret (Blk.result (hM.out.2.1.row (Sha.S8.list S)) Tryd.results63 _ rfl 8 82 (by kernel_rfl) (by kernel_rfl)) rfl ⟨by rw [HS.out]; rfl, Below.setRow hM.out.2.2.2 (by omega) _⟩
end Go.Proofs.YtkjdfjpfghpofaaDoor
