/- The words of a block: schedule. -/
import Derived.Test.YtkjdfjpfghpofaaDoorGb
namespace Go.Proofs.YtkjdfjpfghpofaaDoor
open Go.RowKit

theorem zeros_new (w : World) (T : TypeId) (cs : Array Value) (k : IntKind) (n b : Nat) (hb : b = w.heap.size) (hc : cs = ((List.replicate n 0).map (Value.int k)).toArray) : Blk k (w.alloc (.cells cs T)) b T (List.replicate n 0) := hb ▸ Blk.new w _ cs hc

set_option maxRecDepth 100000 in
set_option maxHeartbeats 1000000 in
theorem sched_c (s : ByteArray) (h : s.size = 64) (w : World) :
    Calls Tryd.prog 64 #[.string s] w fun e w' => e = .returned (.agg (((Sha.grow s 64).map (Value.int .u32)).toArray)) ∧ Below w.heap.size w w' := by
  go_enter Tryd.func64, Tryd.ntmps64
  go_wp2
  go_loopw [5, 15] (fun _ i wr => ∃ n : Nat, n ≤ 16 ∧ i = .int .i64 n ∧ Hid (Blk .u32 wr (w.heap.size + 1) 93 (Sha.grow s n)) ∧ Hid (Blk .u32 wr w.heap.size 93 (List.replicate 64 0)) ∧ Hid (Below w.heap.size w wr)) (fun _ i _ => 16 - (intOf i).toNat)
  case atStart => 
    refine ⟨0, by omega, rfl, ?_, ?_, ?_⟩
    · apply Lib.hid; exact zeros_new _ _ _ .u32 64 _ (by simp) (by rfl)
    · apply Lib.hid; refine Blk.alloc ?_ _; exact zeros_new _ _ _ .u32 64 _ rfl (by rfl)
    · apply Lib.hid; (repeat' (first | (with_reducible exact Below.refl _ _) | (with_reducible assumption) | (with_reducible refine bdn ?_ _) | (with_reducible refine Below.drew ?_) | (with_reducible refine Below.alloc ?_ ?_ _) | (with_reducible refine Below.setCell ?_ ?_ _) | go_size))
  case round =>
    obtain ⟨n, hn, rfl, hA, hR, hB⟩ := hrel
    have hN : Hid (n ≤ 16) := Lib.hid hn
    by_cases hlt : n < 16
    · have hc := hA.out.cell n (by rw [Sha.grow_length]; omega)
      have hf := hA.out.free n
      obtain ⟨x, hx⟩ : ∃ x, (Sha.grow s n).getD n 0 = x := ⟨_, rfl⟩
      rw [hx] at hc; clear hx
      go_wp2_with fail
      refine (wordOf_c _ (by simp; omega) _).mono ?_; rintro e w1 ⟨rfl, nq, rfl⟩
      rw [Sha.blkW_extract s n hlt]
      go_wp2
      go_roundw
      case rel => exact ⟨n + 1, by omega, by go_num, Lib.hid (by rw [← Sha.grow_word s n hlt]; exact (hA.out.drewN nq).set n _), Lib.hid ((hR.out.drewN nq).other _ _ (by simp)), Lib.hid ((bdn hB.out nq).setCell (by simp) _)⟩
      case measure => simp [intOf]; omega
    · obtain rfl : n = 16 := by omega
      go_wp2_with fail
      rw [show ((16 : Nat) : Int) = 16 from rfl]
      go_loopw [6, 7, 8, 9, 10] (fun i _ _ _ _ wr => ∃ n : Nat, 16 ≤ n ∧ n ≤ 64 ∧ i = .int .i64 n ∧ Hid (Blk .u32 wr (w.heap.size + 1) 93 (Sha.grow s n)) ∧ Hid (Blk .u32 wr w.heap.size 93 (List.replicate 64 0)) ∧ Hid (Below w.heap.size w wr)) (fun i _ _ _ _ _ => 64 - (intOf i).toNat)
      case atStart => exact ⟨16, by omega, by omega, rfl, hA, hR, hB⟩
      clear hA hR hB
      case round =>
        obtain ⟨n, hlo, hn, rfl, hA, hR, hB⟩ := hrel
        by_cases hlt : n < 64
        · have hc := hA.out.cell n (by rw [Sha.grow_length]; omega)
          have hf := hA.out.free n
          obtain ⟨x, hx⟩ : ∃ x, (Sha.grow s n).getD n 0 = x := ⟨_, rfl⟩
          rw [hx] at hc; clear hx
          have c15 := hA.out.cell (n - 15) (by rw [Sha.grow_length]; omega)
          have c2 := hA.out.cell (n - 2) (by rw [Sha.grow_length]; omega)
          have c16 := hA.out.cell (n - 16) (by rw [Sha.grow_length]; omega)
          have c7 := hA.out.cell (n - 7) (by rw [Sha.grow_length]; omega)
          obtain ⟨x15, e15⟩ : ∃ x, (Sha.grow s n).getD (n - 15) 0 = x := ⟨_, rfl⟩
          obtain ⟨x2, e2⟩ : ∃ x, (Sha.grow s n).getD (n - 2) 0 = x := ⟨_, rfl⟩
          obtain ⟨x16, e16⟩ : ∃ x, (Sha.grow s n).getD (n - 16) 0 = x := ⟨_, rfl⟩
          obtain ⟨x7, e7⟩ : ∃ x, (Sha.grow s n).getD (n - 7) 0 = x := ⟨_, rfl⟩
          rw [e15] at c15; rw [e2] at c2; rw [e16] at c16; rw [e7] at c7
          have E := Lib.hid (And.intro e15 (And.intro e2 (And.intro e16 e7))); clear e15 e2 e16 e7
          have i0 : (0 : Int) ≤ (n : Int) - 15 := by omega
          have i1 : (n : Int) - 15 < 64 := by omega
          have i2 : ((n : Int) - 15).toNat = n - 15 := by omega
          have i3 : (0 : Int) ≤ (n : Int) - 2 := by omega
          have i4 : (n : Int) - 2 < 64 := by omega
          have i5 : ((n : Int) - 2).toNat = n - 2 := by omega
          have i6 : (0 : Int) ≤ (n : Int) - 16 := by omega
          have i7 : (n : Int) - 16 < 64 := by omega
          have i8 : ((n : Int) - 16).toNat = n - 16 := by omega
          have i9 : (0 : Int) ≤ (n : Int) - 7 := by omega
          have ia : (n : Int) - 7 < 64 := by omega
          have ib : ((n : Int) - 7).toNat = n - 7 := by omega
          have w0 : IntKind.i64.wrap ((n : Int) - 15) = (n : Int) - 15 := by rw [IntKind.wrap_i64]; omega
          have w1 : IntKind.i64.wrap ((n : Int) - 2) = (n : Int) - 2 := by rw [IntKind.wrap_i64]; omega
          have w2 : IntKind.i64.wrap ((n : Int) - 16) = (n : Int) - 16 := by rw [IntKind.wrap_i64]; omega
          have w3 : IntKind.i64.wrap ((n : Int) - 7) = (n : Int) - 7 := by rw [IntKind.wrap_i64]; omega
          go_wp2_with fail
          go_quiet (fail)
          go_wp2_with (first
            | ((with_reducible refine (rot_c x15 7 (by omega) (by omega) _).mono ?_); rintro e w1 ⟨rfl, rfl⟩)
            | ((with_reducible refine (rot_c x15 18 (by omega) (by omega) _).mono ?_); rintro e w1 ⟨rfl, rfl⟩)
            | ((with_reducible refine (rot_c x2 17 (by omega) (by omega) _).mono ?_); rintro e w1 ⟨rfl, rfl⟩)
            | ((with_reducible refine (rot_c x2 19 (by omega) (by omega) _).mono ?_); rintro e w1 ⟨rfl, rfl⟩))
          go_region
          go_wp2
          go_roundw
          case rel =>
            refine ⟨n + 1, by omega, by omega, by go_num, Lib.hid ?_, Lib.hid ?_, Lib.hid ?_⟩
            · rw [← Sha.grow_ext s n (by omega)]
              have e := Blk.set hA.out n (Sha.ext (Sha.grow s n) n)
              unfold Sha.ext Sha.sig0 Sha.sig1 at e ⊢
              rw [E.out.1, E.out.2.1, E.out.2.2.1, E.out.2.2.2] at e ⊢
              exact e
            · exact Blk.other hR.out ⟨w.heap.size + 1, n, none⟩ _ (Nat.ne_of_lt (Nat.lt_succ_self _))
            · exact Below.setCell (p := ⟨w.heap.size + 1, n, none⟩) (bdn hB.out _) (Nat.le_succ _) _
          case measure => simp only [intOf]; omega
        · obtain rfl : n = 64 := by omega
          have hA' := hA.out
          have hR' := hR.out
          have hlen := Sha.grow_length s 64
          obtain ⟨l, hl⟩ : ∃ l, Sha.grow s 64 = l := ⟨_, rfl⟩
          rw [hl] at hA' hlen
          have HL := Lib.hid (And.intro hA' (And.intro hR' (And.intro hlen hl)))
          clear hA' hR' hlen hl hA hR
          go_wp2_with (first
            | refine load_blk HL.out.1 rfl _ rfl rfl 64 82 (by kernel_rfl) (by rw [HL.out.2.2.1]; kernel_rfl) ?_
            | refine store_blk HL.out.2.1 rfl _ _ rfl rfl l rfl (by rw [HL.out.2.2.1]; rfl) (by kernel_rfl) ?_)
          refine bodyPost_ret (Blk.result (HL.out.2.1.row l) Tryd.results64 _ rfl 64 82 (by kernel_rfl) (by rw [HL.out.2.2.1]; kernel_rfl)) rfl ⟨by rw [HL.out.2.2.2], Below.setRow hB.out (Nat.le_refl _) _⟩
end Go.Proofs.YtkjdfjpfghpofaaDoor
