/- The bytes of a state: hashOf. -/
import Derived.Test.YtkjdfjpfghpofaaDoorGe
import Derived.Test.YtkjdfjpfghpofaaDoorGq
namespace Go.Proofs.YtkjdfjpfghpofaaDoor
open Go.RowKit

/-- A hash as a value. -/
def hashV (l : List Int) : Value := .agg (l.map (Value.int .u8)).toArray

/-- What stands in memory while the bytes are laid. -/
def HashW (w : World) (s : Sha.S8) (l : List Int) (wr : World) : Prop :=
  Blk .u32 wr w.heap.size 84 s.list ∧ Blk .u8 wr (w.heap.size + 1) 24 (List.replicate 32 0) ∧ Blk .u8 wr (w.heap.size + 1 + 1) 24 l ∧ Below w.heap.size w wr
theorem hashW_start (w : World) (s : Sha.S8) (xs zs ys : Array Value) (hx : xs = (s.list.map (Value.int .u32)).toArray) (hz : zs = ((List.replicate 32 0).map (Value.int .u8)).toArray) (hy : ys = ((List.replicate 32 0).map (Value.int .u8)).toArray) :
    HashW w s (List.replicate 32 0) (((w.alloc (.cells xs 84)).alloc (.cells zs 24)).alloc (.cells ys 24)) := by
  have hB : Below w.heap.size w (((w.alloc (.cells xs 84)).alloc (.cells zs 24)).alloc (.cells ys 24)) := by (repeat' (first | (with_reducible exact Below.refl _ _) | (with_reducible assumption) | (with_reducible refine bdn ?_ _) | (with_reducible refine Below.drew ?_) | (with_reducible refine Below.alloc ?_ ?_ _) | (with_reducible refine Below.setCell ?_ ?_ _) | go_size))
  exact ⟨((Blk.new w s.list xs hx).alloc _).alloc _, (zeros_new _ _ _ .u8 32 _ (by simp) hz).alloc _, zeros_new _ _ _ .u8 32 _ (by simp) hy, hB⟩
theorem HashW.set {w wr : World} {s : Sha.S8} {l : List Int} (h : HashW w s l wr) (j : Nat) (v : Int) : HashW w s (l.set j v) (wr.setCell ⟨w.heap.size + 1 + 1, j, none⟩ (.int .u8 v)) :=
  ⟨h.1.other _ _ (by omega : w.heap.size ≠ w.heap.size + 1 + 1), h.2.1.other _ _ (by omega : w.heap.size + 1 ≠ w.heap.size + 1 + 1), h.2.2.1.set j v, h.2.2.2.setCell (by omega : w.heap.size ≤ w.heap.size + 1 + 1) _⟩

set_option maxRecDepth 100000 in
set_option maxHeartbeats 1000000 in
theorem hashOf_c (s : Sha.S8) (w : World) :
    Calls Tryd.prog 55 #[stV s] w fun e w' => e = .returned (hashV (Sha.hashN s.list 32)) ∧ Below w.heap.size w w' := by
  unfold stV
  go_enter Tryd.func55, Tryd.ntmps55
  go_wp2
  go_loopw [4, 5] (fun _ i wr => ∃ n : Nat, n ≤ 32 ∧ i = .int .i64 n ∧ Hid (HashW w s (Sha.hashN s.list n) wr)) (fun _ i _ => 32 - (intOf i).toNat)
  case atStart =>
    refine ⟨0, by omega, rfl, ?_⟩
    apply Lib.hid
    exact hashW_start w s _ _ _ (by rfl) (by rfl) (by rfl)
  case round =>
    obtain ⟨n, hn, rfl, hM⟩ := hrel
    by_cases hlt : n < 32
    · have hc := hM.out.1.cell (n / 4) (by show _ < 8; omega)
      have hd := hM.out.2.2.1.cell n (by rw [Sha.hashN_length]; exact hlt)
      have hf := hM.out.2.2.1.free n
      obtain ⟨x, hx⟩ : ∃ x, s.list.getD (n / 4) 0 = x := ⟨_, rfl⟩
      obtain ⟨y, hy⟩ : ∃ x, (Sha.hashN s.list n).getD n 0 = x := ⟨_, rfl⟩
      rw [hx] at hc; rw [hy] at hd
      have HX := Lib.hid hx
      have HLT := Lib.hid hlt
      clear hx hy
      have i0 : (n : Int) / 4 < 8 := by omega
      have i1 : (0 : Int) ≤ 24 - 8 * ((n : Int) % 4) := by omega
      have i2 : (24 - 8 * ((n : Int) % 4)).toNat = 24 - 8 * (n % 4) := by omega
      go_wp2
      refine ⟨⟨n + 1, HLT.out, by go_num, Lib.hid ?_⟩, by have := HLT.out; simp only [intOf]; omega⟩
      have e := hM.out.set n (s.list.getD (n / 4) 0 / 2 ^ (24 - 8 * (n % 4)) % 256)
      rw [HX.out] at e
      rw [Sha.hashN, HX.out]
      exact e
    · obtain rfl : n = 32 := by omega
      have hlen := Sha.hashN_length s.list 32
      obtain ⟨l, hl⟩ : ∃ l, Sha.hashN s.list 32 = l := ⟨_, rfl⟩
      have HL := Lib.hid hl
      rw [hl] at hM hlen
      have HN := Lib.hid hlen
      clear hl hlen hlt hn
      go_wp2_with (first
        | refine load_blk hM.out.2.2.1 rfl _ rfl rfl 32 5 (by kernel_rfl) (by rw [HN.out]; kernel_rfl) ?_
        | refine store_blk hM.out.2.1 rfl _ _ rfl rfl l rfl HN.out (by kernel_rfl) ?_)
      refine bodyPost_ret (Blk.result (hM.out.2.1.row l) Tryd.results55 _ rfl 32 5 (by kernel_rfl) (by rw [HN.out]; kernel_rfl)) rfl ⟨by rw [HL.out]; rfl, Below.setRow hM.out.2.2.2 (by omega) _⟩
end Go.Proofs.YtkjdfjpfghpofaaDoor
