/- The text of a hash: Text of the reference. -/
import Derived.Test.YtjhljkcbbipeeaaDoorGg
namespace Go.Proofs.YtjhljkcbbipeeaaDoor
open Go.RowKit

theorem boxed (w : World) (l : List Int) (cs : Array Value) (T : TypeId) (hc : (l.map (Value.int .u8)).toArray = cs) : Blk .u8 (w.alloc (.cells cs T)) w.heap.size T l ∧ Below w.heap.size w (w.alloc (.cells cs T)) :=
  ⟨Blk.new w l cs hc.symm, by (repeat' (first | (with_reducible exact Below.refl _ _) | (with_reducible assumption) | (with_reducible refine bdn ?_ _) | (with_reducible refine Below.drew ?_) | (with_reducible refine Below.alloc ?_ ?_ _) | (with_reducible refine Below.setCell ?_ ?_ _) | go_size))⟩

set_option maxRecDepth 100000 in
set_option maxHeartbeats 1000000 in
theorem refText_c (l : List Int) (hl : Sha.Hash l) (w : World) :
    Calls Tryd.prog 17 #[hashV l] w fun e w' => e = .returned (.string (Sha.text l)) ∧ Below w.heap.size w w' := by
  obtain ⟨cs, hcs⟩ : ∃ cs, (l.map (Value.int .u8)).toArray = cs := ⟨_, rfl⟩
  have hs : cs.size = 32 := by rw [← hcs]; simp [hl.1]
  have HH := Lib.hid hl
  have HW := Lib.hid (boxed w l cs 24 hcs)
  unfold hashV
  rw [hcs]
  clear hl hcs
  go_enter Tryd.func17, Tryd.ntmps17
  go_wp2_with fail
  go_loopw [3, 4] (fun v i wr => ∃ n : Nat, n ≤ 32 ∧ i = .int .i64 n ∧ v = .string (strOfNums (Sha.textN l n)) ∧ Hid (Blk .u8 wr w.heap.size 24 l ∧ Below w.heap.size w wr)) (fun _ i _ => 32 - (intOf i).toNat)
  case atStart => exact ⟨0, by omega, rfl, rfl, HW⟩
  clear HW
  case round =>
    obtain ⟨n, hn, rfl, rfl, hM⟩ := hrel
    by_cases hlt : n < 32
    · have hb := HH.out.2 n
      have hc := hM.out.1.cell n (by rw [HH.out.1]; exact hlt)
      obtain ⟨x, hx⟩ : ∃ x, l.getD n 0 = x := ⟨_, rfl⟩
      rw [hx] at hb hc
      obtain ⟨hb0, hb1⟩ := hb
      obtain ⟨p, hp⟩ : ∃ p : Nat, x / 16 = (p : Int) := ⟨(x / 16).toNat, by omega⟩
      obtain ⟨q, hq⟩ : ∃ p : Nat, x % 16 = (p : Int) := ⟨(x % 16).toNat, by omega⟩
      have hp16 : p < 16 := by omega
      have hq16 : q < 16 := by omega
      have s1 := Sha.digit_str p hp16
      have s2 := Sha.digit_str q hq16
      have hT : Sha.textN l (n + 1) = Sha.textN l n ++ [Sha.hexD (p : Int), Sha.hexD (q : Int)] := by rw [Sha.textN, hx, hp, hq]
      have hT2 : strOfNums (Sha.textN l (n + 1)) = strOfNums (Sha.textN l n) ++ strOfNums [Sha.hexD (p : Int)] ++ strOfNums [Sha.hexD (q : Int)] := by
        rw [hT, show [Sha.hexD (p : Int), Sha.hexD (q : Int)] = [Sha.hexD (p : Int)] ++ [Sha.hexD (q : Int)] from rfl, ← List.append_assoc, Sha.strOfNums_append, Sha.strOfNums_append]
      have z0 : (strOfNums (Sha.textN l n)).size ≤ 64 := by rw [strOfNums_size, Sha.textN_length]; omega
      have z1 : (strOfNums [Sha.hexD (p : Int)]).size = 1 := by rw [strOfNums_size]; rfl
      have z2 : (strOfNums [Sha.hexD (q : Int)]).size = 1 := by rw [strOfNums_size]; rfl
      obtain ⟨T, eT⟩ : ∃ T, strOfNums (Sha.textN l n) = T := ⟨_, rfl⟩
      obtain ⟨E1, e1⟩ : ∃ T, strOfNums [Sha.hexD (p : Int)] = T := ⟨_, rfl⟩
      obtain ⟨E2, e2⟩ : ∃ T, strOfNums [Sha.hexD (q : Int)] = T := ⟨_, rfl⟩
      rw [eT] at hT2 z0; rw [e1] at hT2 z1 s1; rw [e2] at hT2 z2 s2
      rw [eT]
      have k1 : ∀ w, (Op.stringOp .add T E1).run Tryd.prog w = .ok (.string (T ++ E1)) w := fun w => run_string_add_sum w _ _ (by omega)
      have k2 : ∀ w, (Op.stringOp .add (T ++ E1) E2).run Tryd.prog w = .ok (.string (T ++ E1 ++ E2)) w := fun w => run_string_add_sum w _ _ (by rw [ByteArray.size_append]; omega)
      have HT := Lib.hid hT2
      have HLT := Lib.hid hlt
      have i0 : (0 : Int) ≤ (n : Int) := by omega
      have i1 : (n : Int) < 32 := by omega
      have j0 : (p : Int) + 1 ≤ 16 := by omega
      have j1 : (q : Int) + 1 ≤ 16 := by omega
      have j2 : ((p : Int) + 1).toNat = p + 1 := by omega
      have j3 : ((q : Int) + 1).toNat = q + 1 := by omega
      have j4 : ((p : Int) + 1) % 256 = (p : Int) + 1 := by omega
      have j5 : ((q : Int) + 1) % 256 = (q : Int) + 1 := by omega
      have j6 : (p : Int) ≤ (p : Int) + 1 := by omega
      have j7 : (q : Int) ≤ (q : Int) + 1 := by omega
      clear hx hT hT2 z0 z1 z2 eT e1 e2
      go_wp2_with fail
      go_quiet (fail)
      go_wp2_with fail
      exact ⟨⟨n + 1, HLT.out, by go_num, by rw [HT.out], Lib.hid ⟨hM.out.1.drewN _, bdn hM.out.2 _⟩⟩, by have := HLT.out; simp only [intOf]; omega⟩
    · obtain rfl : n = 32 := by omega
      go_wp2_with fail
      go_ret
      exact ⟨rfl, hM.out.2⟩
end Go.Proofs.YtjhljkcbbipeeaaDoor
