/- The reference of layer 1: quick. Conditions: the numbers are ints and not the least one; the second one is not zero. -/
import Derived.Test.YtnccllelmbcdcaaGreatDoorRl
namespace Go.Proofs.YtnccllelmbcdcaaGreatDoor
open Go.RowKit

set_option maxHeartbeats 1600000 in
set_option maxRecDepth 100000 in
theorem quick_any (n d : Int) (hn : I64m n) (hd : I64m d) (hz : d ≠ 0) (w : World) :
    Calls Tryz.prog 51 #[.int .i64 n, .int .i64 d] w fun e w' => e = .returned (ratV (Num.lowN n d) (Num.lowD n d)) ∧ Below w.heap.size w w' := by
  have z1 : IntKind.i64.wrap (-n) = -n := by obtain ⟨a, b⟩ := hn; rw [IntKind.wrap_i64]; omega
  have z2 : IntKind.i64.wrap (-d) = -d := by obtain ⟨a, b⟩ := hd; rw [IntKind.wrap_i64]; omega
  have z3 : IntKind.i64.wrap n = n := by obtain ⟨a, b⟩ := hn; rw [IntKind.wrap_i64]; omega
  have HN := Lib.hid hn; have HD := Lib.hid hd; have HZ := Lib.hid hz
  clear hn hd hz
  go_enter Tryz.func51, Tryz.ntmps51
  by_cases h : d < 0
  · have E1 := Lib.hid (show (-n).tdiv ((Int.gcd n d : Nat) : Int) = Num.lowN n d by have := (Num.quick_eq (n := n) HZ.out).1; rw [if_pos h] at this; exact this)
    have E2 := Lib.hid (show (-d).tdiv ((Int.gcd n d : Nat) : Int) = Num.lowD n d by have := (Num.quick_eq (n := n) HZ.out).2; rw [if_pos h] at this; exact this)
    have hS := Lib.hid (show Num.gcdI (max (-n) n) (-d) = ((Int.gcd n d : Nat) : Int) ∧ 0 ≤ max (-n) n ∧ 0 ≤ (-d) by
      have := HZ.out
      refine ⟨?_, by omega, by omega⟩
      rw [← Num.gcdI_natAbs]; congr 1 <;> omega)
    go_wp2
    clear z1 z2 z3
    go_loop [5, 6] (fun av bv => ∃ a b : Int, av = .int .i64 a ∧ bv = .int .i64 b ∧ 0 ≤ a ∧ 0 ≤ b ∧ b ≤ 9223372036854775807 ∧ Hid (Num.gcdI a b = ((Int.gcd n d : Nat) : Int))) (fun _ bv => (intOf bv).toNat)
    case atStart => exact ⟨_, _, rfl, rfl, hS.out.2.1, hS.out.2.2, by obtain ⟨p, q⟩ := HD.out; omega, Lib.hid hS.out.1⟩
    case round =>
      obtain ⟨a, b, rfl, rfl, a0, b0, b1, hg⟩ := hrel
      by_cases hb : b = 0
      · subst hb
        have hga := Lib.hid (show a = ((Int.gcd n d : Nat) : Int) by have := hg.out; rw [Num.gcd_zero a a0] at this; exact this)
        have hap : 0 < a := by rw [hga.out]; have := Num.gcd_pos_of (n := n) HZ.out; omega
        have ha0 : ¬ a = 0 := by omega
        rw [← hga.out] at E1 E2
        have L := Lib.hid (Num.low_abs (n := n) HZ.out)
        have z4 : (-n).tdiv a = Num.lowN n d := E1.out
        have z5 : (-d).tdiv a = Num.lowD n d := E2.out
        have z6 : IntKind.i64.wrap (Num.lowN n d) = Num.lowN n d := by obtain ⟨p, q⟩ := HN.out; have := L.out.1; rw [IntKind.wrap_i64]; omega
        have z7 : IntKind.i64.wrap (Num.lowD n d) = Num.lowD n d := by obtain ⟨p, q⟩ := HD.out; have := L.out.2; rw [IntKind.wrap_i64]; omega
        go_wp2
        go_region_held3 (fun _ => True) (trivial) (fail)
        all_goals
          go_wp2
          refine bodyPost_ret (v := ratV (Num.lowN n d) (Num.lowD n d)) (by simp [results, Tryz.results51, go_sem]) rfl ⟨rfl, ?_⟩
          (repeat' (first | (with_reducible exact Below.refl _ _) | (with_reducible assumption) | (with_reducible refine bdn ?_ _) | (with_reducible refine Below.drew ?_) | (with_reducible refine Below.alloc ?_ ?_ _) | (with_reducible refine Below.setCell ?_ ?_ _) | go_size))
      · have hp : 0 < b := by omega
        have m0 := Int.emod_nonneg a (b := b) hb
        have m1 := Int.emod_lt_of_pos a hp
        have z4 : a.tmod b = a % b := Int.tmod_eq_emod_of_nonneg a0
        have z5 : IntKind.i64.wrap (a % b) = a % b := by rw [IntKind.wrap_i64]; omega
        have hg2 := Lib.hid (show Num.gcdI b (a % b) = ((Int.gcd n d : Nat) : Int) by rw [Num.gcd_step a b a0 hp]; exact hg.out)
        go_wp2
        go_round
        case rel => exact ⟨_, _, rfl, rfl, b0, m0, by omega, hg2⟩
        case measure => simp [intOf]; omega
  · have E1 := Lib.hid (show n.tdiv ((Int.gcd n d : Nat) : Int) = Num.lowN n d by have := (Num.quick_eq (n := n) HZ.out).1; rw [if_neg h] at this; exact this)
    have E2 := Lib.hid (show d.tdiv ((Int.gcd n d : Nat) : Int) = Num.lowD n d by have := (Num.quick_eq (n := n) HZ.out).2; rw [if_neg h] at this; exact this)
    have hS := Lib.hid (show Num.gcdI (max n (-n)) d = ((Int.gcd n d : Nat) : Int) ∧ 0 ≤ max n (-n) ∧ 0 ≤ d by
      have := HZ.out
      refine ⟨?_, by omega, by omega⟩
      rw [← Num.gcdI_natAbs]; congr 1 <;> omega)
    go_wp2
    clear z1 z2 z3
    go_loop [5, 6] (fun av bv => ∃ a b : Int, av = .int .i64 a ∧ bv = .int .i64 b ∧ 0 ≤ a ∧ 0 ≤ b ∧ b ≤ 9223372036854775807 ∧ Hid (Num.gcdI a b = ((Int.gcd n d : Nat) : Int))) (fun _ bv => (intOf bv).toNat)
    case atStart => exact ⟨_, _, rfl, rfl, hS.out.2.1, hS.out.2.2, by obtain ⟨p, q⟩ := HD.out; omega, Lib.hid hS.out.1⟩
    case round =>
      obtain ⟨a, b, rfl, rfl, a0, b0, b1, hg⟩ := hrel
      by_cases hb : b = 0
      · subst hb
        have hga := Lib.hid (show a = ((Int.gcd n d : Nat) : Int) by have := hg.out; rw [Num.gcd_zero a a0] at this; exact this)
        have hap : 0 < a := by rw [hga.out]; have := Num.gcd_pos_of (n := n) HZ.out; omega
        have ha0 : ¬ a = 0 := by omega
        rw [← hga.out] at E1 E2
        have L := Lib.hid (Num.low_abs (n := n) HZ.out)
        have z4 : n.tdiv a = Num.lowN n d := E1.out
        have z5 : d.tdiv a = Num.lowD n d := E2.out
        have z6 : IntKind.i64.wrap (Num.lowN n d) = Num.lowN n d := by obtain ⟨p, q⟩ := HN.out; have := L.out.1; rw [IntKind.wrap_i64]; omega
        have z7 : IntKind.i64.wrap (Num.lowD n d) = Num.lowD n d := by obtain ⟨p, q⟩ := HD.out; have := L.out.2; rw [IntKind.wrap_i64]; omega
        go_wp2
        go_region_held3 (fun _ => True) (trivial) (fail)
        all_goals
          go_wp2
          refine bodyPost_ret (v := ratV (Num.lowN n d) (Num.lowD n d)) (by simp [results, Tryz.results51, go_sem]) rfl ⟨rfl, ?_⟩
          (repeat' (first | (with_reducible exact Below.refl _ _) | (with_reducible assumption) | (with_reducible refine bdn ?_ _) | (with_reducible refine Below.drew ?_) | (with_reducible refine Below.alloc ?_ ?_ _) | (with_reducible refine Below.setCell ?_ ?_ _) | go_size))
      · have hp : 0 < b := by omega
        have m0 := Int.emod_nonneg a (b := b) hb
        have m1 := Int.emod_lt_of_pos a hp
        have z4 : a.tmod b = a % b := Int.tmod_eq_emod_of_nonneg a0
        have z5 : IntKind.i64.wrap (a % b) = a % b := by rw [IntKind.wrap_i64]; omega
        have hg2 := Lib.hid (show Num.gcdI b (a % b) = ((Int.gcd n d : Nat) : Int) by rw [Num.gcd_step a b a0 hp]; exact hg.out)
        go_wp2
        go_round
        case rel => exact ⟨_, _, rfl, rfl, b0, m0, by omega, hg2⟩
        case measure => simp [intOf]; omega
end Go.Proofs.YtnccllelmbcdcaaGreatDoor
