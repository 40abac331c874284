/- The reference: the constants; the message of a string. -/
import Derived.Test.YtkjdfjpfghpofaaDoorGg
import Derived.Laws.IdiomStrings
namespace Go.Proofs.YtkjdfjpfghpofaaDoor
open Go.RowKit

set_option maxRecDepth 100000 in
set_option maxHeartbeats 1000000 in
theorem rounds_c (w : World) :
    Calls Tryd.prog 65 #[] w fun e w' => e = .returned (.agg (Sha.kL.map (Value.int .u32)).toArray) ∧ Below w.heap.size w w' := by
  have hB : Hid (∀ zs : Array Value, zs = ((List.replicate 64 0).map (Value.int .u32)).toArray → Blk .u32 (w.alloc (.cells zs 93)) w.heap.size 93 (List.replicate 64 0)) := Lib.hid (fun zs hz => zeros_new _ _ _ .u32 64 _ rfl hz)
  go_enter Tryd.func65, Tryd.ntmps65
  go_wp2_with (refine store_blk (hB.out _ (by rfl)) rfl _ _ rfl rfl Sha.kL rfl rfl (by kernel_rfl) ?_)
  exact bodyPost_ret (Blk.result ((hB.out _ (by rfl)).row Sha.kL) Tryd.results65 _ rfl 64 82 (by kernel_rfl) (by kernel_rfl)) rfl ⟨rfl, Below.setRow ((Below.refl _ w).alloc (Nat.le_refl _) _) (Nat.le_refl _) _⟩

theorem byte_str (v : Int) (w : World) : (convert 30 9 (.slice (some ⟨w.heap.size, 0, none⟩) 1 1)).run Tryd.prog (w.alloc (.cells #[.int .u8 v] 5)) = .ok (.string (strOfNums [v])) (w.alloc (.cells #[.int .u8 v] 5)) :=
  run_convert_bytes_arg _ 30 5 (by kernel_rfl) (by kernel_rfl) w.heap.size 0 1 1 [v] rfl (fun i hi => by
    have : i = 0 := by omega
    subst this; simp [go_sem]) 9 (by kernel_rfl)

set_option maxRecDepth 100000 in
set_option maxHeartbeats 1000000 in
theorem padded_c (s : ByteArray) (hs : s.size ≤ 140737488351240) (w : World) :
    Calls Tryd.prog 57 #[.string s] w fun e w' => e = .returned (.string (Sha.msg s)) ∧ Below w.heap.size w w' := by
  have HS := Lib.hid hs
  have kb := byte_str
  have k0 : ∀ w, (Op.stringOp .add s ⟨#[128]⟩).run Tryd.prog w = .ok (.string (s ++ strOfNums [128])) w := fun w => run_string_add_sum w _ _ (by have : (⟨#[128]⟩ : ByteArray).size = 1 := rfl; omega)
  have z8 : (s.size : Int) * 8 < 18446744073709551616 := by omega
  go_enter Tryd.func57, Tryd.ntmps57
  go_wp2_with fail
  go_loopw [3] (fun v wr => ∃ j : Nat, j ≤ Sha.zerosOf s.size ∧ v = .string (s ++ strOfNums (128 :: List.replicate j 0)) ∧ w = wr) (fun v _ => match v with | .string t => s.size + 200 - t.size | _ => 0)
  case atStart => exact ⟨0, by omega, rfl, rfl⟩
  case round =>
    obtain ⟨j, hj, rfl, rfl⟩ := hrel
    have hz : (s ++ strOfNums (128 :: List.replicate j 0)).size = s.size + 1 + j := by rw [ByteArray.size_append, strOfNums_size]; simp; omega
    have hN : s ++ strOfNums (128 :: List.replicate (j + 1) 0) = s ++ strOfNums (128 :: List.replicate j 0) ++ strOfNums [0] := by
      rw [ByteArray.append_assoc, ← Sha.strOfNums_append, List.cons_append, ← List.replicate_succ']
    obtain ⟨T, hT⟩ : ∃ T, s ++ strOfNums (128 :: List.replicate j 0) = T := ⟨_, rfl⟩
    rw [hT] at hz hN ⊢
    have HT := Lib.hid (And.intro hT (And.intro hN hz))
    have hz64 : Sha.zerosOf s.size < 64 := by unfold Sha.zerosOf; omega
    by_cases hlt : j < Sha.zerosOf s.size
    · have hm := Sha.zeros_more s.size j hlt
      have q : ((T.size : Int) % 64 != 56) = true := by rw [hz]; simp; omega
      have k1 : ∀ w, (Op.stringOp .add T ⟨#[0]⟩).run Tryd.prog w = .ok (.string (T ++ strOfNums [0])) w := fun w => run_string_add_sum w _ _ (by
        have h1 : (⟨#[0]⟩ : ByteArray).size = 1 := rfl
        omega)
      have HLT := Lib.hid hlt
      clear hT hN hz hm
      go_wp2_with fail
      exact ⟨⟨j + 1, HLT.out, by rw [HT.out.2.1], trivial⟩, by have h1 := HT.out.2.2; have h2 := HLT.out; have h3 : (T ++ strOfNums [0]).size = T.size + 1 := by { rw [ByteArray.size_append]; rfl }; simp only [h3]; omega⟩
    · obtain rfl : j = Sha.zerosOf s.size := by omega
      have hm := Sha.zeros_end s.size
      have q : ((T.size : Int) % 64 != 56) = false := by rw [hz]; simp; omega
      have hF : Sha.msg s = T ++ strOfNums (Sha.be ((s.size : Int) * 8) 8) := by rw [Sha.msg, Sha.padI_be, Sha.strOfNums_append, ← ByteArray.append_assoc, hT]
      have HF := Lib.hid (And.intro hF (And.intro hz hz64))
      clear hT hN hm hz hlt hj hF HT
      go_wp2_with fail
      go_loopw [3, 5] (fun v i wr => ∃ m : Nat, m ≤ 8 ∧ i = .int .i64 (7 - (m : Int)) ∧ v = .string (T ++ strOfNums (Sha.be ((s.size : Int) * 8) m)) ∧ Hid (Below w.heap.size w wr)) (fun _ i _ => (intOf i + 1).toNat)
      case atStart => exact ⟨0, by omega, rfl, by rw [show strOfNums (Sha.be ((s.size : Int) * 8) 0) = ByteArray.empty from rfl, ByteArray.append_empty], Lib.hid (Below.refl _ _)⟩
      clear hs z8 q k0
      case round =>
        obtain ⟨m, hm, rfl, rfl, hB⟩ := hrel
        by_cases hlm : m < 8
        · have hn : T ++ strOfNums (Sha.be ((s.size : Int) * 8) (m + 1)) = T ++ strOfNums (Sha.be ((s.size : Int) * 8) m) ++ strOfNums [(s.size : Int) * 8 / 2 ^ (8 * (7 - m)) % 256] := by
            rw [Sha.be, Sha.strOfNums_append, ByteArray.append_assoc]
          have hsz : (T ++ strOfNums (Sha.be ((s.size : Int) * 8) m)).size = T.size + m := by rw [ByteArray.size_append, strOfNums_size, Sha.be_length]
          obtain ⟨U, hU⟩ : ∃ U, T ++ strOfNums (Sha.be ((s.size : Int) * 8) m) = U := ⟨_, rfl⟩
          rw [hU] at hn hsz ⊢
          obtain ⟨x, hx⟩ : ∃ x, (s.size : Int) * 8 / 2 ^ (8 * (7 - m)) % 256 = x := ⟨_, rfl⟩
          rw [hx] at hn
          have k1 : ∀ w, (Op.stringOp .add U (strOfNums [x])).run Tryd.prog w = .ok (.string (U ++ strOfNums [x])) w := fun w => run_string_add_sum w _ _ (by
            have h1 : (strOfNums [x]).size = 1 := rfl
            have h2 := HF.out
            have h3 := HS.out
            omega)
          have HN := Lib.hid (And.intro hn (And.intro hlm hx))
          have i1 : (0 : Int) ≤ 7 - (m : Int) := by omega
          have i2 : (8 * (7 - (m : Int))).toNat = 8 * (7 - m) := by omega
          have i3 : (0 : Int) ≤ 8 * (7 - (m : Int)) := by omega
          clear hn hsz hU hlm
          go_wp2_with fail
          exact ⟨⟨m + 1, HN.out.2.1, by rw [show (7 - (m : Int) - 1) = 7 - ((m + 1 : Nat) : Int) by omega], by rw [HN.out.1], Lib.hid (hB.out.alloc hB.out.size _)⟩, by have := HN.out.2.1; simp only [intOf]; omega⟩
        · obtain rfl : m = 8 := by omega
          have i1 : ¬ (0 : Int) ≤ 7 - ((8 : Nat) : Int) := by omega
          go_wp2_with fail
          go_ret
          exact ⟨by rw [HF.out.1]; rfl, hB.out⟩
end Go.Proofs.YtkjdfjpfghpofaaDoor
