import Derived.Test.YtokmfgpbfhfafaaGreatDoorMa
import Derived.Test.YtokmfgpbfhfafaaGreatDoorT
import Derived.Laws.IdiomStrings
import Derived.Test.YtokmfgpbfhfafaaGreatDoorSan
/- The reference of layer 1: decimal. Condition: the argument is an int. -/
namespace Go.Proofs.YtokmfgpbfhfafaaGreatDoor
open Go.RowKit

/-- These bytes as a string's value. -/
def strV (l : List UInt8) : ByteArray := ⟨l.toArray⟩
theorem strV_size (l : List UInt8) : (strV l).size = l.length := by simp [strV, ByteArray.size]
theorem strV_append (a b : List UInt8) : strV a ++ strV b = strV (a ++ b) := by
  apply ByteArray.ext
  simp [strV]
theorem itoa_neg {n : Int} (h : n < 0) : Lib.itoa n = 45 :: Lib.decDigits n.natAbs := by unfold Lib.itoa; rw [if_pos h]
theorem itoa_pos {n : Int} (h : ¬ n < 0) : Lib.itoa n = Lib.decDigits n.toNat := by unfold Lib.itoa; rw [if_neg h]
theorem dec_step {u : Nat} (h : ¬ u < 10) : Lib.decDigits u = Lib.decDigits (u / 10) ++ Lib.decDigits (u % 10) := by
  rw [Lib.decDigits, dif_neg h, Lib.decDigits_one (Nat.mod_lt _ (by decide))]
theorem td_neg {n : Int} (h : n < 0) : n.tdiv 10 = -((-n) / 10) ∧ n.tmod 10 = -((-n) % 10) := by
  have e : n = -(-n) := by omega
  constructor
  · conv => lhs; rw [e]
    rw [Int.neg_tdiv, Int.tdiv_eq_ediv_of_nonneg (by omega)]
  · conv => lhs; rw [e]
    rw [Int.neg_tmod, Int.tmod_eq_emod_of_nonneg (by omega)]
theorem td_pos {n : Int} (h : 0 ≤ n) : n.tdiv 10 = n / 10 ∧ n.tmod 10 = n % 10 := ⟨Int.tdiv_eq_ediv_of_nonneg h, Int.tmod_eq_emod_of_nonneg h⟩
theorem itoa_small_neg {n : Int} (h1 : n < 0) : Lib.itoa n = [45] ++ Lib.itoa (-n) := by
  rw [itoa_neg h1, itoa_pos (by omega), show (-n).toNat = n.natAbs by omega]; rfl
theorem itoa_big_neg {n : Int} (h1 : n ≤ -10) : Lib.itoa n = Lib.itoa (n.tdiv 10) ++ Lib.itoa (-(n.tmod 10)) := by
  have e1 : n.tdiv 10 = -((n.natAbs / 10 : Nat) : Int) := by rw [(td_neg (by omega)).1]; omega
  have e2 : -(n.tmod 10) = ((n.natAbs % 10 : Nat) : Int) := by rw [(td_neg (by omega)).2]; omega
  rw [e1, e2, itoa_neg (by omega), itoa_neg (by omega), itoa_pos (by omega), dec_step (by omega)]
  have e3 : (-((n.natAbs / 10 : Nat) : Int)).natAbs = n.natAbs / 10 := by omega
  rw [e3, Int.toNat_natCast]; rfl
theorem itoa_big_pos {n : Int} (h1 : 10 ≤ n) : Lib.itoa n = Lib.itoa (n.tdiv 10) ++ Lib.itoa (n.tmod 10) := by
  have e1 : n.tdiv 10 = ((n.toNat / 10 : Nat) : Int) := by rw [(td_pos (by omega)).1]; omega
  have e2 : n.tmod 10 = ((n.toNat % 10 : Nat) : Int) := by rw [(td_pos (by omega)).2]; omega
  rw [e1, e2, itoa_pos (by omega), itoa_pos (by omega), itoa_pos (by omega), dec_step (by omega), Int.toNat_natCast, Int.toNat_natCast]
theorem itoa_size (n : Int) (h : I64 n) : (strV (Lib.itoa n)).size ≤ 21 := by rw [strV_size]; exact Lib.itoa_length_le n h.1 h.2

set_option maxHeartbeats 4000000 in
set_option maxRecDepth 1000000 in
theorem decimal_digit (n : Int) (h0 : 0 ≤ n) (h1 : n < 10) (w : World) :
    Calls Tryz.prog 61 #[.int .i64 n] w fun e w' => e = .returned (.string (strV (Lib.itoa n))) ∧ Below w.heap.size w w' := by
  have hn : n = 0 ∨ n = 1 ∨ n = 2 ∨ n = 3 ∨ n = 4 ∨ n = 5 ∨ n = 6 ∨ n = 7 ∨ n = 8 ∨ n = 9 := by omega
  have kc : ∀ b : UInt8, (convert 35 9 (.slice (some ⟨w.heap.size, 0, none⟩) 1 1)).run Tryz.prog (w.alloc (.cells #[.int .u8 (b.toNat : Int)] 5)) = .ok (.string ⟨[b].toArray⟩) (w.alloc (.cells #[.int .u8 (b.toNat : Int)] 5)) := fun b =>
    run_convert_bytes_back _ _ _ _ ⟨w.heap.size, 0, none⟩ 1 [b] Tryz.underlying35 Tryz.underlying5 Tryz.underlying9 (fun j hj => by
      have : j = 0 := by simp at hj; omega
      subst this; simp [Addr.add, go_sem])
  rcases hn with rfl | rfl | rfl | rfl | rfl | rfl | rfl | rfl | rfl | rfl
  · have kc := kc 48
    have kc : (convert 35 9 (.slice (some ⟨w.heap.size, 0, none⟩) 1 1)).run Tryz.prog (w.alloc (.cells #[.int .u8 48] 5)) = .ok (.string ⟨#[48]⟩) (w.alloc (.cells #[.int .u8 48] 5)) := kc
    go_enter Tryz.func61, Tryz.ntmps61
    go_wp2
    go_ret
    exact ⟨by rw [show strV (Lib.itoa 0) = ⟨#[48]⟩ from by decide +kernel]; rfl, by (repeat' (first | (with_reducible exact Below.refl _ _) | (with_reducible assumption) | (with_reducible refine bdn ?_ _) | (with_reducible refine Below.drew ?_) | (with_reducible refine Below.alloc ?_ ?_ _) | (with_reducible refine Below.setCell ?_ ?_ _) | go_size))⟩
  · have kc := kc 49
    have kc : (convert 35 9 (.slice (some ⟨w.heap.size, 0, none⟩) 1 1)).run Tryz.prog (w.alloc (.cells #[.int .u8 49] 5)) = .ok (.string ⟨#[49]⟩) (w.alloc (.cells #[.int .u8 49] 5)) := kc
    go_enter Tryz.func61, Tryz.ntmps61
    go_wp2
    go_ret
    exact ⟨by rw [show strV (Lib.itoa 1) = ⟨#[49]⟩ from by decide +kernel]; rfl, by (repeat' (first | (with_reducible exact Below.refl _ _) | (with_reducible assumption) | (with_reducible refine bdn ?_ _) | (with_reducible refine Below.drew ?_) | (with_reducible refine Below.alloc ?_ ?_ _) | (with_reducible refine Below.setCell ?_ ?_ _) | go_size))⟩
  · have kc := kc 50
    have kc : (convert 35 9 (.slice (some ⟨w.heap.size, 0, none⟩) 1 1)).run Tryz.prog (w.alloc (.cells #[.int .u8 50] 5)) = .ok (.string ⟨#[50]⟩) (w.alloc (.cells #[.int .u8 50] 5)) := kc
    go_enter Tryz.func61, Tryz.ntmps61
    go_wp2
    go_ret
    exact ⟨by rw [show strV (Lib.itoa 2) = ⟨#[50]⟩ from by decide +kernel]; rfl, by (repeat' (first | (with_reducible exact Below.refl _ _) | (with_reducible assumption) | (with_reducible refine bdn ?_ _) | (with_reducible refine Below.drew ?_) | (with_reducible refine Below.alloc ?_ ?_ _) | (with_reducible refine Below.setCell ?_ ?_ _) | go_size))⟩
  · have kc := kc 51
    have kc : (convert 35 9 (.slice (some ⟨w.heap.size, 0, none⟩) 1 1)).run Tryz.prog (w.alloc (.cells #[.int .u8 51] 5)) = .ok (.string ⟨#[51]⟩) (w.alloc (.cells #[.int .u8 51] 5)) := kc
    go_enter Tryz.func61, Tryz.ntmps61
    go_wp2
    go_ret
    exact ⟨by rw [show strV (Lib.itoa 3) = ⟨#[51]⟩ from by decide +kernel]; rfl, by (repeat' (first | (with_reducible exact Below.refl _ _) | (with_reducible assumption) | (with_reducible refine bdn ?_ _) | (with_reducible refine Below.drew ?_) | (with_reducible refine Below.alloc ?_ ?_ _) | (with_reducible refine Below.setCell ?_ ?_ _) | go_size))⟩
  · have kc := kc 52
    have kc : (convert 35 9 (.slice (some ⟨w.heap.size, 0, none⟩) 1 1)).run Tryz.prog (w.alloc (.cells #[.int .u8 52] 5)) = .ok (.string ⟨#[52]⟩) (w.alloc (.cells #[.int .u8 52] 5)) := kc
    go_enter Tryz.func61, Tryz.ntmps61
    go_wp2
    go_ret
    exact ⟨by rw [show strV (Lib.itoa 4) = ⟨#[52]⟩ from by decide +kernel]; rfl, by (repeat' (first | (with_reducible exact Below.refl _ _) | (with_reducible assumption) | (with_reducible refine bdn ?_ _) | (with_reducible refine Below.drew ?_) | (with_reducible refine Below.alloc ?_ ?_ _) | (with_reducible refine Below.setCell ?_ ?_ _) | go_size))⟩
  · have kc := kc 53
    have kc : (convert 35 9 (.slice (some ⟨w.heap.size, 0, none⟩) 1 1)).run Tryz.prog (w.alloc (.cells #[.int .u8 53] 5)) = .ok (.string ⟨#[53]⟩) (w.alloc (.cells #[.int .u8 53] 5)) := kc
    go_enter Tryz.func61, Tryz.ntmps61
    go_wp2
    go_ret
    exact ⟨by rw [show strV (Lib.itoa 5) = ⟨#[53]⟩ from by decide +kernel]; rfl, by (repeat' (first | (with_reducible exact Below.refl _ _) | (with_reducible assumption) | (with_reducible refine bdn ?_ _) | (with_reducible refine Below.drew ?_) | (with_reducible refine Below.alloc ?_ ?_ _) | (with_reducible refine Below.setCell ?_ ?_ _) | go_size))⟩
  · have kc := kc 54
    have kc : (convert 35 9 (.slice (some ⟨w.heap.size, 0, none⟩) 1 1)).run Tryz.prog (w.alloc (.cells #[.int .u8 54] 5)) = .ok (.string ⟨#[54]⟩) (w.alloc (.cells #[.int .u8 54] 5)) := kc
    go_enter Tryz.func61, Tryz.ntmps61
    go_wp2
    go_ret
    exact ⟨by rw [show strV (Lib.itoa 6) = ⟨#[54]⟩ from by decide +kernel]; rfl, by (repeat' (first | (with_reducible exact Below.refl _ _) | (with_reducible assumption) | (with_reducible refine bdn ?_ _) | (with_reducible refine Below.drew ?_) | (with_reducible refine Below.alloc ?_ ?_ _) | (with_reducible refine Below.setCell ?_ ?_ _) | go_size))⟩
  · have kc := kc 55
    have kc : (convert 35 9 (.slice (some ⟨w.heap.size, 0, none⟩) 1 1)).run Tryz.prog (w.alloc (.cells #[.int .u8 55] 5)) = .ok (.string ⟨#[55]⟩) (w.alloc (.cells #[.int .u8 55] 5)) := kc
    go_enter Tryz.func61, Tryz.ntmps61
    go_wp2
    go_ret
    exact ⟨by rw [show strV (Lib.itoa 7) = ⟨#[55]⟩ from by decide +kernel]; rfl, by (repeat' (first | (with_reducible exact Below.refl _ _) | (with_reducible assumption) | (with_reducible refine bdn ?_ _) | (with_reducible refine Below.drew ?_) | (with_reducible refine Below.alloc ?_ ?_ _) | (with_reducible refine Below.setCell ?_ ?_ _) | go_size))⟩
  · have kc := kc 56
    have kc : (convert 35 9 (.slice (some ⟨w.heap.size, 0, none⟩) 1 1)).run Tryz.prog (w.alloc (.cells #[.int .u8 56] 5)) = .ok (.string ⟨#[56]⟩) (w.alloc (.cells #[.int .u8 56] 5)) := kc
    go_enter Tryz.func61, Tryz.ntmps61
    go_wp2
    go_ret
    exact ⟨by rw [show strV (Lib.itoa 8) = ⟨#[56]⟩ from by decide +kernel]; rfl, by (repeat' (first | (with_reducible exact Below.refl _ _) | (with_reducible assumption) | (with_reducible refine bdn ?_ _) | (with_reducible refine Below.drew ?_) | (with_reducible refine Below.alloc ?_ ?_ _) | (with_reducible refine Below.setCell ?_ ?_ _) | go_size))⟩
  · have kc := kc 57
    have kc : (convert 35 9 (.slice (some ⟨w.heap.size, 0, none⟩) 1 1)).run Tryz.prog (w.alloc (.cells #[.int .u8 57] 5)) = .ok (.string ⟨#[57]⟩) (w.alloc (.cells #[.int .u8 57] 5)) := kc
    go_enter Tryz.func61, Tryz.ntmps61
    go_wp2
    go_ret
    exact ⟨by rw [show strV (Lib.itoa 9) = ⟨#[57]⟩ from by decide +kernel]; rfl, by (repeat' (first | (with_reducible exact Below.refl _ _) | (with_reducible assumption) | (with_reducible refine bdn ?_ _) | (with_reducible refine Below.drew ?_) | (with_reducible refine Below.alloc ?_ ?_ _) | (with_reducible refine Below.setCell ?_ ?_ _) | go_size))⟩

set_option maxHeartbeats 8000000 in
theorem decimal_any (k : Nat) : ∀ (n : Int) (w : World), n.natAbs ≤ k → I64 n →
    Calls Tryz.prog 61 #[.int .i64 n] w fun e w' => e = .returned (.string (strV (Lib.itoa n))) ∧ Below w.heap.size w w' := by
  induction k with
  | zero =>
    intro n w hk hi
    exact decimal_digit n (by omega) (by omega) w
  | succ k ih =>
    intro n w hk hi
    by_cases h0 : n < 0
    · by_cases h1 : -10 < n
      · have E := Lib.hid (itoa_small_neg h0)
        have k1 : ∀ w, (Op.stringOp .add ⟨#[45]⟩ (strV (Lib.itoa (-n)))).run Tryz.prog w = .ok (.string (⟨#[45]⟩ ++ strV (Lib.itoa (-n)))) w := fun w => run_string_add_sum w _ _ (by have := itoa_size (-n) ⟨by omega, by omega⟩; have : (⟨#[45]⟩ : ByteArray).size = 1 := rfl; omega)
        have z1 : IntKind.i64.wrap (-n) = -n := by rw [IntKind.wrap_i64]; omega
        have C := Lib.hid (fun w => decimal_digit (-n) (by omega) (by omega) w)
        clear hi hk
        go_enter Tryz.func61, Tryz.ntmps61
        go_wp2_with fail
        refine (C.out _).mono ?_; rintro e w1 ⟨rfl, hb⟩
        go_wp2
        go_ret
        exact ⟨by rw [E.out, ← strV_append]; rfl, hb⟩
      · have E := Lib.hid (itoa_big_neg (n := n) (by omega))
        obtain ⟨q, hq⟩ : ∃ q, n.tdiv 10 = q := ⟨_, rfl⟩
        obtain ⟨m, hm⟩ : ∃ m, n.tmod 10 = m := ⟨_, rfl⟩
        have hI := hi
        obtain ⟨i1, i2⟩ := hi
        have T := td_neg h0; rw [hq, hm] at T
        have bq : q < 0 ∧ -9223372036854775808 ≤ q ∧ q.natAbs ≤ k := by omega
        have bm : 0 ≤ -m ∧ -m < 10 := by omega
        rw [hq, hm] at E
        have C1 := Lib.hid (fun w => ih q w bq.2.2 ⟨bq.2.1, by omega⟩)
        have C2 := Lib.hid (fun w => decimal_digit (-m) bm.1 bm.2 w)
        have k1 : ∀ w, (Op.stringOp .add (strV (Lib.itoa q)) (strV (Lib.itoa (-m)))).run Tryz.prog w = .ok (.string (strV (Lib.itoa q) ++ strV (Lib.itoa (-m)))) w := fun w => run_string_add_sum w _ _ (by have := itoa_size q ⟨bq.2.1, by omega⟩; have := itoa_size (-m) ⟨by omega, by omega⟩; omega)
        have z1 : IntKind.i64.wrap (-m) = -m := by rw [IntKind.wrap_i64]; omega
        have z2 : IntKind.i64.wrap q = q := by rw [IntKind.wrap_i64]; omega
        have z3 : IntKind.i64.wrap m = m := by rw [IntKind.wrap_i64]; omega
        have z4 : wrap64 q = q := by unfold wrap64; omega
        clear ih hI i1 i2 hk bq bm T
        go_enter Tryz.func61, Tryz.ntmps61
        go_wp2_with fail
        refine (C1.out _).mono ?_; rintro e w1 ⟨rfl, hb1⟩
        have HB := Lib.hid hb1; clear hb1
        go_wp2_with fail
        refine (C2.out _).mono ?_; rintro e w2 ⟨rfl, hb2⟩
        have HC := Lib.hid (HB.out.trans (hb2.mono HB.out.size)); clear hb2
        go_wp2
        go_ret
        exact ⟨by rw [E.out, ← strV_append]; rfl, HC.out⟩
    · by_cases h1 : n < 10
      · exact decimal_digit n (by omega) h1 w
      · have E := Lib.hid (itoa_big_pos (n := n) (by omega))
        obtain ⟨q, hq⟩ : ∃ q, n.tdiv 10 = q := ⟨_, rfl⟩
        obtain ⟨m, hm⟩ : ∃ m, n.tmod 10 = m := ⟨_, rfl⟩
        have hI := hi
        obtain ⟨i1, i2⟩ := hi
        have T := td_pos (n := n) (by omega); rw [hq, hm] at T
        have bq : 0 < q ∧ q ≤ 9223372036854775807 ∧ q.natAbs ≤ k := by omega
        have bm : 0 ≤ m ∧ m < 10 := by omega
        rw [hq, hm] at E
        have C1 := Lib.hid (fun w => ih q w bq.2.2 ⟨by omega, bq.2.1⟩)
        have C2 := Lib.hid (fun w => decimal_digit m bm.1 bm.2 w)
        have k1 : ∀ w, (Op.stringOp .add (strV (Lib.itoa q)) (strV (Lib.itoa m))).run Tryz.prog w = .ok (.string (strV (Lib.itoa q) ++ strV (Lib.itoa m))) w := fun w => run_string_add_sum w _ _ (by have := itoa_size q ⟨by omega, bq.2.1⟩; have := itoa_size m ⟨by omega, by omega⟩; omega)
        have z2 : IntKind.i64.wrap q = q := by rw [IntKind.wrap_i64]; omega
        have z3 : IntKind.i64.wrap m = m := by rw [IntKind.wrap_i64]; omega
        have z4 : wrap64 q = q := by unfold wrap64; omega
        clear ih hI i1 i2 hk bq bm T
        go_enter Tryz.func61, Tryz.ntmps61
        go_wp2_with fail
        refine (C1.out _).mono ?_; rintro e w1 ⟨rfl, hb1⟩
        have HB := Lib.hid hb1; clear hb1
        go_wp2_with fail
        refine (C2.out _).mono ?_; rintro e w2 ⟨rfl, hb2⟩
        have HC := Lib.hid (HB.out.trans (hb2.mono HB.out.size)); clear hb2
        go_wp2
        go_ret
        exact ⟨by rw [E.out, ← strV_append]; rfl, HC.out⟩
end Go.Proofs.YtokmfgpbfhfafaaGreatDoor

/- The reference of layer 1: Text; what the laws call: same, agrees. Condition: the arguments are ints; the listed variables hold the program's own text. -/
namespace Go.Proofs.YtokmfgpbfhfafaaGreatDoor
open Go.RowKit

set_option maxHeartbeats 1600000 in
theorem refText_no (a b : Int) (ha : I64 a) (hb : I64 b) (h : Num.rtB a b = false) (w : World) :
    Calls Tryz.prog 34 #[ratV a b] w fun e w' => e = .returned (.string ⟨#[]⟩) ∧ Below w.heap.size w w' := by
  have H := Lib.hid (And.intro ha (And.intro hb h)); clear ha hb h
  go_enter Tryz.func34, Tryz.ntmps34
  go_wp2_with fail
  refine (refRight_c a b false H.out.1 H.out.2.1 H.out.2.2 _).mono ?_; rintro e w1 ⟨rfl, hb⟩
  have K1 : Hid (Below w.heap.size w w1) := Lib.hid (Below.trans (by (repeat' (first | (with_reducible exact Below.refl _ _) | (with_reducible assumption) | (with_reducible refine bdn ?_ _) | (with_reducible refine Below.drew ?_) | (with_reducible refine Below.alloc ?_ ?_ _) | (with_reducible refine Below.setCell ?_ ?_ _) | go_size))) (hb.mono (B' := w.heap.size) (by simp)))
  clear hb
  go_wp2
  go_ret
  exact ⟨rfl, K1.out⟩

set_option maxHeartbeats 1600000 in
theorem refText_one (a : Int) (ha : I64 a) (h : Num.rtB a 1 = true) (w : World) :
    Calls Tryz.prog 34 #[ratV a 1] w fun e w' => e = .returned (.string (strV (Lib.itoa a))) ∧ Below w.heap.size w w' := by
  have H := Lib.hid (And.intro ha h); clear ha h
  go_enter Tryz.func34, Tryz.ntmps34
  go_wp2_with fail
  refine (refRight_c a 1 true H.out.1 ⟨by decide, by decide⟩ H.out.2 _).mono ?_; rintro e w1 ⟨rfl, hb⟩
  have x0 := bk hb w.heap.size 0 (v := .int .i64 a) (by simp [go_sem]) (by simp)
  have x1 := bk hb w.heap.size 1 (v := .int .i64 1) (by simp [go_sem]) (by simp)
  have K1 : Hid (Below w.heap.size w w1) := Lib.hid (Below.trans (by (repeat' (first | (with_reducible exact Below.refl _ _) | (with_reducible assumption) | (with_reducible refine bdn ?_ _) | (with_reducible refine Below.drew ?_) | (with_reducible refine Below.alloc ?_ ?_ _) | (with_reducible refine Below.setCell ?_ ?_ _) | go_size))) (hb.mono (B' := w.heap.size) (by simp)))
  clear hb
  go_wp2_with fail
  refine (decimal_any a.natAbs a _ (Nat.le_refl _) H.out.1).mono ?_; rintro e w2 ⟨rfl, hb⟩
  have K2 := Lib.hid (K1.out.trans (hb.mono K1.out.size)); clear hb
  go_wp2
  go_ret
  exact ⟨rfl, K2.out⟩

set_option maxHeartbeats 4000000 in
theorem refText_two (a b : Int) (ha : I64 a) (hb : I64 b) (h : Num.rtB a b = true) (h1 : (b == 1) = false) (w : World) :
    Calls Tryz.prog 34 #[ratV a b] w fun e w' => e = .returned (.string (strV (Lib.itoa a) ++ ⟨#[47]⟩ ++ strV (Lib.itoa b))) ∧ Below w.heap.size w w' := by
  have H := Lib.hid (And.intro ha (And.intro hb h)); clear ha hb h
  obtain ⟨s, hs⟩ : ∃ s, strV (Lib.itoa a) = s := ⟨_, rfl⟩
  obtain ⟨t, ht⟩ : ∃ s, strV (Lib.itoa b) = s := ⟨_, rfl⟩
  have zs : s.size ≤ 21 := by rw [← hs]; exact itoa_size a H.out.1
  have zt : t.size ≤ 21 := by rw [← ht]; exact itoa_size b H.out.2.1
  have k1 : ∀ w, (Op.stringOp .add s ⟨#[47]⟩).run Tryz.prog w = .ok (.string (s ++ ⟨#[47]⟩)) w := fun w => run_string_add_sum w _ _ (by have : (⟨#[47]⟩ : ByteArray).size = 1 := rfl; omega)
  have k2 : ∀ w, (Op.stringOp .add (s ++ ⟨#[47]⟩) t).run Tryz.prog w = .ok (.string (s ++ ⟨#[47]⟩ ++ t)) w := fun w => run_string_add_sum w _ _ (by have : (⟨#[47]⟩ : ByteArray).size = 1 := rfl; rw [ByteArray.size_append']; omega)
  have C1 := Lib.hid (fun w => (hs ▸ decimal_any a.natAbs a w (Nat.le_refl _) H.out.1 : Calls Tryz.prog 61 #[.int .i64 a] w fun e w' => e = .returned (.string s) ∧ Below w.heap.size w w'))
  have C2 := Lib.hid (fun w => (ht ▸ decimal_any b.natAbs b w (Nat.le_refl _) H.out.2.1 : Calls Tryz.prog 61 #[.int .i64 b] w fun e w' => e = .returned (.string t) ∧ Below w.heap.size w w'))
  have HS := Lib.hid (And.intro hs ht)
  rw [hs, ht]
  clear hs ht zs zt
  go_enter Tryz.func34, Tryz.ntmps34
  go_wp2_with fail
  refine (refRight_c a b true H.out.1 H.out.2.1 H.out.2.2 _).mono ?_; rintro e w1 ⟨rfl, hb⟩
  have x0 := bk hb w.heap.size 0 (v := .int .i64 a) (by simp [go_sem]) (by simp)
  have x1 := bk hb w.heap.size 1 (v := .int .i64 b) (by simp [go_sem]) (by simp)
  have x2 := bs (n := w.heap.size) hb (by simp)
  have K1 : Hid (Below w.heap.size w w1) := Lib.hid (Below.trans (by (repeat' (first | (with_reducible exact Below.refl _ _) | (with_reducible assumption) | (with_reducible refine bdn ?_ _) | (with_reducible refine Below.drew ?_) | (with_reducible refine Below.alloc ?_ ?_ _) | (with_reducible refine Below.setCell ?_ ?_ _) | go_size))) (hb.mono (B' := w.heap.size) (by simp)))
  clear hb
  go_wp2_with fail
  go_region_held3 (fun w' => w'.cell? ⟨w.heap.size, 0, none⟩ = some (.int .i64 a) ∧ w'.cell? ⟨w.heap.size, 1, none⟩ = some (.int .i64 b)) (simp [*, go_sem])
    (first
      | (go_at_call_of 61 (Value.int IntKind.i64 a); refine (C1.out _).mono ?_; rintro e w2 ⟨rfl, hb⟩; have e1 := bk hb w.heap.size 0 (v := .int .i64 a) (by first | assumption | (simp [*, go_sem]; done)) (by first | omega | (simp; omega)); have e2 := bk hb w.heap.size 1 (v := .int .i64 b) (by first | assumption | (simp [*, go_sem]; done)) (by first | omega | (simp; omega)); have e3 := bs (n := w.heap.size) hb (by first | omega | (simp; omega)); have K2 : Hid (Below w.heap.size w w2) := Lib.hid (Below.trans (Below.trans K1.out (by (repeat' (first | (with_reducible exact Below.refl _ _) | (with_reducible assumption) | (with_reducible refine bdn ?_ _) | (with_reducible refine Below.drew ?_) | (with_reducible refine Below.alloc ?_ ?_ _) | (with_reducible refine Below.setCell ?_ ?_ _) | go_size)))) (hb.mono (B' := w.heap.size) (by first | omega | (simp; done) | (simp; omega)))); clear hb)
      | (go_at_call_of 61 (Value.int IntKind.i64 b); refine (C2.out _).mono ?_; rintro e w3 ⟨rfl, hb⟩; have f1 := bk hb w.heap.size 0 (v := .int .i64 a) (by first | assumption | (simp [*, go_sem]; done)) (by first | omega | (simp; omega)); have f2 := bk hb w.heap.size 1 (v := .int .i64 b) (by first | assumption | (simp [*, go_sem]; done)) (by first | omega | (simp; omega)); have K3 : Hid (Below w.heap.size w w3) := Lib.hid (Below.trans (Below.trans K2.out (by (repeat' (first | (with_reducible exact Below.refl _ _) | (with_reducible assumption) | (with_reducible refine bdn ?_ _) | (with_reducible refine Below.drew ?_) | (with_reducible refine Below.alloc ?_ ?_ _) | (with_reducible refine Below.setCell ?_ ?_ _) | go_size)))) (hb.mono (B' := w.heap.size) (by first | omega | (simp; done) | (simp; omega)))); clear hb))
  all_goals
    go_wp2
    go_ret
    exact ⟨rfl, by repeat' (first | exact K3.out | refine bdn ?_ _ | refine Below.drew ?_)⟩

theorem refText_any (a b : Int) (ha : I64 a) (hb : I64 b) (w : World) :
    Calls Tryz.prog 34 #[ratV a b] w fun e w' => e = .returned (.string ⟨(textL a b).toArray⟩) ∧ Below w.heap.size w w' := by
  unfold textL
  cases h : Num.rtB a b
  · exact refText_no a b ha hb h w
  · by_cases h1 : b = 1
    · subst h1
      exact refText_one a ha h w
    · have := refText_two a b ha hb h (by simp [h1]) w
      rw [show (⟨#[47]⟩ : ByteArray) = strV [47] from rfl, strV_append, strV_append] at this
      simp only [if_true, if_neg h1]
      exact this
end Go.Proofs.YtokmfgpbfhfafaaGreatDoor

/- What the laws call: agrees: all operations return what the reference returns, for all ints. Condition: the listed variables hold the program's own text. -/
namespace Go.Proofs.YtokmfgpbfhfafaaGreatDoor
open Go.RowKit

theorem Held.one {w : World} {B : Nat} {a b : Int} (h0 : w.cell? ⟨B, 0, none⟩ = some (.int .i64 a)) (h1 : w.cell? ⟨B, 1, none⟩ = some (.int .i64 b)) (h2 : B < w.heap.size) : Held w [(B, a, b)] := fun x hx => by
  rw [List.mem_singleton] at hx; subst hx; exact ⟨h0, h1, h2⟩
theorem Held.more {w : World} {B : Nat} {a b : Int} {L : List (Nat × Int × Int)} (h0 : w.cell? ⟨B, 0, none⟩ = some (.int .i64 a)) (h1 : w.cell? ⟨B, 1, none⟩ = some (.int .i64 b)) (h2 : B < w.heap.size) (h : Held w L) : Held w ((B, a, b) :: L) := fun x hx => by
  rcases List.mem_cons.1 hx with rfl | hx
  · exact ⟨h0, h1, h2⟩
  · exact h x hx
set_option maxHeartbeats 1000000 in
theorem same_yes (n d : Int) (r : Bool) (w : World) :
    Calls Tryz.prog 13 #[ratV n d, .bool r, ratV n d, .bool r] w fun e w' => e = .returned (.bool true) ∧ Below w.heap.size w w' := by
  go_enter Tryz.func13, Tryz.ntmps13
  cases r
  all_goals
    go_wp2
    go_ret
    exact ⟨by simp, by (repeat' (first | (with_reducible exact Below.refl _ _) | (with_reducible assumption) | (with_reducible refine bdn ?_ _) | (with_reducible refine Below.drew ?_) | (with_reducible refine Below.alloc ?_ ?_ _) | (with_reducible refine Below.setCell ?_ ?_ _) | go_size))⟩
theorem right_c (n d : Int) (r : Bool) (hn : I64 n) (hd : I64 d) (h : Num.rtB n d = r) (w : World) :
    Calls Tryz.prog 31 #[ratV n d] w fun e w' => e = .returned (.bool r) ∧ Below w.heap.size w w' := by
  cases r
  · exact (right_not n d hn hd h w).mono fun _ _ ⟨he, nq, hw⟩ => ⟨he, by subst hw; (repeat' (first | (with_reducible exact Below.refl _ _) | (with_reducible assumption) | (with_reducible refine bdn ?_ _) | (with_reducible refine Below.drew ?_) | (with_reducible refine Below.alloc ?_ ?_ _) | (with_reducible refine Below.setCell ?_ ?_ _) | go_size))⟩
  · exact (right_yes n d hn hd h w).mono fun _ _ ⟨he, nq, hw⟩ => ⟨he, by subst hw; (repeat' (first | (with_reducible exact Below.refl _ _) | (with_reducible assumption) | (with_reducible refine bdn ?_ _) | (with_reducible refine Below.drew ?_) | (with_reducible refine Below.alloc ?_ ?_ _) | (with_reducible refine Below.setCell ?_ ?_ _) | go_size))⟩

theorem text_t (a b : Int) (t : ByteArray) (ha : I64 a) (hb : I64 b) (h : (⟨(textL a b).toArray⟩ : ByteArray) = t) (w : World) (ht : Tab w) :
    Calls Tryz.prog 9 #[ratV a b] w fun e w' => e = .returned (.string t) ∧ Below w.heap.size w w' := by
  rw [← h]; exact text_any a b ha hb w ht
theorem refText_t (a b : Int) (t : ByteArray) (ha : I64 a) (hb : I64 b) (h : (⟨(textL a b).toArray⟩ : ByteArray) = t) (w : World) :
    Calls Tryz.prog 34 #[ratV a b] w fun e w' => e = .returned (.string t) ∧ Below w.heap.size w w' := by
  rw [← h]; exact refText_any a b ha hb w

set_option maxRecDepth 100000 in
set_option maxHeartbeats 16000000 in
theorem agrees_any (a b c d : Int) (ha : I64 a) (hb : I64 b) (hc : I64 c) (hd : I64 d) (w : World) (hT : Tab w) :
    Calls Tryz.prog 8 #[ratV a b, ratV c d] w fun e w' => e = .returned (.bool true) ∧ Below w.heap.size w w' := by
  have HI := Lib.hid (And.intro ha (And.intro hb (And.intro hc hd))); have HT := Lib.hid hT; clear ha hb hc hd hT
  obtain ⟨sn, sd, sr, hs⟩ : ∃ x y z, (Num.opN (Num.rtB a b && Num.rtB c d) (a * d + c * b) (b * d), Num.opD (Num.rtB a b && Num.rtB c d) (a * d + c * b) (b * d), Num.opB (Num.rtB a b && Num.rtB c d) (a * d + c * b) (b * d)) = (x, y, z) := ⟨_, _, _, rfl⟩
  have Hs := Lib.hid hs; clear hs
  obtain ⟨tn, td, tr, ht⟩ : ∃ x y z, (Num.opN (Num.rtB a b && Num.rtB c d) (a * d - c * b) (b * d), Num.opD (Num.rtB a b && Num.rtB c d) (a * d - c * b) (b * d), Num.opB (Num.rtB a b && Num.rtB c d) (a * d - c * b) (b * d)) = (x, y, z) := ⟨_, _, _, rfl⟩
  have Ht := Lib.hid ht; clear ht
  obtain ⟨mn, md, mr, hm⟩ : ∃ x y z, (Num.opN (Num.rtB a b && Num.rtB c d) (a * c) (b * d), Num.opD (Num.rtB a b && Num.rtB c d) (a * c) (b * d), Num.opB (Num.rtB a b && Num.rtB c d) (a * c) (b * d)) = (x, y, z) := ⟨_, _, _, rfl⟩
  have Hm := Lib.hid hm; clear hm
  obtain ⟨qn, qd, qr, hq⟩ : ∃ x y z, (Num.opN (Num.rtB a b && Num.rtB c d) (a * d) (b * c), Num.opD (Num.rtB a b && Num.rtB c d) (a * d) (b * c), Num.opB (Num.rtB a b && Num.rtB c d) (a * d) (b * c)) = (x, y, z) := ⟨_, _, _, rfl⟩
  have Hq := Lib.hid hq; clear hq
  obtain ⟨v, hv⟩ : ∃ v, Num.cmpV a b c d = v := ⟨_, rfl⟩
  have HV := Lib.hid hv; clear hv
  obtain ⟨r, hr⟩ : ∃ r, Num.rtB a b = r := ⟨_, rfl⟩
  have HR := Lib.hid hr; clear hr
  obtain ⟨f, hf⟩ : ∃ f, Num.flr a b = f := ⟨_, rfl⟩
  have HF := Lib.hid hf; clear hf
  obtain ⟨tx, htx⟩ : ∃ t, (⟨(textL a b).toArray⟩ : ByteArray) = t := ⟨_, rfl⟩
  have HX := Lib.hid htx; clear htx
  go_enter Tryz.func8, Tryz.ntmps8
  have P0 := Lib.hid (show Held ((w.alloc (.cells #[.int .i64 a, .int .i64 b] 25)).alloc (.cells #[.int .i64 c, .int .i64 d] 25)) [(w.heap.size + 1, c, d), (w.heap.size, a, b)] from Held.more (by simp [go_sem]) (by simp [go_sem]) (by simp) (Held.one (by simp [go_sem]) (by simp [go_sem]) (by simp; omega)))
  have B0 := Lib.hid (show Below w.heap.size w ((w.alloc (.cells #[.int .i64 a, .int .i64 b] 25)).alloc (.cells #[.int .i64 c, .int .i64 d] 25)) by (repeat' (first | (with_reducible exact Below.refl _ _) | (with_reducible assumption) | (with_reducible refine bdn ?_ _) | (with_reducible refine Below.drew ?_) | (with_reducible refine Below.alloc ?_ ?_ _) | (with_reducible refine Below.setCell ?_ ?_ _) | go_size)))
  obtain ⟨xa0, xa1, xa2⟩ := P0.out.get (n := w.heap.size) (a := a) (b := b) (by simp)
  obtain ⟨xb0, xb1, xb2⟩ := P0.out.get (n := w.heap.size + 1) (a := c) (b := d) (by simp)
  go_wp2_with fail
  refine (add_c a b c d sn sd sr HI.out.1 HI.out.2.1 HI.out.2.2.1 HI.out.2.2.2 Hs.out _).mono ?_; rintro e w1 ⟨rfl, hb⟩
  have Q1 := Lib.hid (P0.out.below hb); have D1 := Lib.hid (B0.out.trans (hb.mono B0.out.size)); clear hb xa0 xa1 xa2 xb0 xb1 xb2
  have P1 := Lib.hid (Held.alloc Q1.out sn sd 25); have B1 := Lib.hid (Below.alloc D1.out (Below.size D1.out) (.cells #[.int .i64 sn, .int .i64 sd] 25)); clear Q1 D1 P0 B0
  obtain ⟨xa0, xa1, xa2⟩ := P1.out.get (n := w.heap.size) (a := a) (b := b) (by simp)
  obtain ⟨xb0, xb1, xb2⟩ := P1.out.get (n := w.heap.size + 1) (a := c) (b := d) (by simp)
  go_wp2_with fail
  refine (refAdd_c a b c d sn sd sr HI.out.1 HI.out.2.1 HI.out.2.2.1 HI.out.2.2.2 Hs.out _).mono ?_; rintro e w2 ⟨rfl, hb⟩
  have Q2 := Lib.hid (P1.out.below hb); have D2 := Lib.hid (B1.out.trans (hb.mono B1.out.size)); clear hb xa0 xa1 xa2 xb0 xb1 xb2
  have P2 := Lib.hid (Held.alloc Q2.out sn sd 25); have B2 := Lib.hid (Below.alloc D2.out (Below.size D2.out) (.cells #[.int .i64 sn, .int .i64 sd] 25)); clear Q2 D2 P1 B1
  obtain ⟨xa0, xa1, xa2⟩ := P2.out.get (n := w.heap.size) (a := a) (b := b) (by simp)
  obtain ⟨xb0, xb1, xb2⟩ := P2.out.get (n := w.heap.size + 1) (a := c) (b := d) (by simp)
  go_wp2_with fail
  refine (sub_c a b c d tn td tr HI.out.1 HI.out.2.1 HI.out.2.2.1 HI.out.2.2.2 Ht.out _).mono ?_; rintro e w3 ⟨rfl, hb⟩
  have Q3 := Lib.hid (P2.out.below hb); have D3 := Lib.hid (B2.out.trans (hb.mono B2.out.size)); clear hb xa0 xa1 xa2 xb0 xb1 xb2
  have P3 := Lib.hid (Held.alloc Q3.out tn td 25); have B3 := Lib.hid (Below.alloc D3.out (Below.size D3.out) (.cells #[.int .i64 tn, .int .i64 td] 25)); clear Q3 D3 P2 B2
  obtain ⟨xa0, xa1, xa2⟩ := P3.out.get (n := w.heap.size) (a := a) (b := b) (by simp)
  obtain ⟨xb0, xb1, xb2⟩ := P3.out.get (n := w.heap.size + 1) (a := c) (b := d) (by simp)
  go_wp2_with fail
  refine (refSub_c a b c d tn td tr HI.out.1 HI.out.2.1 HI.out.2.2.1 HI.out.2.2.2 Ht.out _).mono ?_; rintro e w4 ⟨rfl, hb⟩
  have Q4 := Lib.hid (P3.out.below hb); have D4 := Lib.hid (B3.out.trans (hb.mono B3.out.size)); clear hb xa0 xa1 xa2 xb0 xb1 xb2
  have P4 := Lib.hid (Held.alloc Q4.out tn td 25); have B4 := Lib.hid (Below.alloc D4.out (Below.size D4.out) (.cells #[.int .i64 tn, .int .i64 td] 25)); clear Q4 D4 P3 B3
  obtain ⟨xa0, xa1, xa2⟩ := P4.out.get (n := w.heap.size) (a := a) (b := b) (by simp)
  obtain ⟨xb0, xb1, xb2⟩ := P4.out.get (n := w.heap.size + 1) (a := c) (b := d) (by simp)
  go_wp2_with fail
  refine (mul_c a b c d mn md mr HI.out.1 HI.out.2.1 HI.out.2.2.1 HI.out.2.2.2 Hm.out _).mono ?_; rintro e w5 ⟨rfl, hb⟩
  have Q5 := Lib.hid (P4.out.below hb); have D5 := Lib.hid (B4.out.trans (hb.mono B4.out.size)); clear hb xa0 xa1 xa2 xb0 xb1 xb2
  have P5 := Lib.hid (Held.alloc Q5.out mn md 25); have B5 := Lib.hid (Below.alloc D5.out (Below.size D5.out) (.cells #[.int .i64 mn, .int .i64 md] 25)); clear Q5 D5 P4 B4
  obtain ⟨xa0, xa1, xa2⟩ := P5.out.get (n := w.heap.size) (a := a) (b := b) (by simp)
  obtain ⟨xb0, xb1, xb2⟩ := P5.out.get (n := w.heap.size + 1) (a := c) (b := d) (by simp)
  go_wp2_with fail
  refine (refMul_c a b c d mn md mr HI.out.1 HI.out.2.1 HI.out.2.2.1 HI.out.2.2.2 Hm.out _).mono ?_; rintro e w6 ⟨rfl, hb⟩
  have Q6 := Lib.hid (P5.out.below hb); have D6 := Lib.hid (B5.out.trans (hb.mono B5.out.size)); clear hb xa0 xa1 xa2 xb0 xb1 xb2
  have P6 := Lib.hid (Held.alloc Q6.out mn md 25); have B6 := Lib.hid (Below.alloc D6.out (Below.size D6.out) (.cells #[.int .i64 mn, .int .i64 md] 25)); clear Q6 D6 P5 B5
  obtain ⟨xa0, xa1, xa2⟩ := P6.out.get (n := w.heap.size) (a := a) (b := b) (by simp)
  obtain ⟨xb0, xb1, xb2⟩ := P6.out.get (n := w.heap.size + 1) (a := c) (b := d) (by simp)
  go_wp2_with fail
  refine (quo_c a b c d qn qd qr HI.out.1 HI.out.2.1 HI.out.2.2.1 HI.out.2.2.2 Hq.out _).mono ?_; rintro e w7 ⟨rfl, hb⟩
  have Q7 := Lib.hid (P6.out.below hb); have D7 := Lib.hid (B6.out.trans (hb.mono B6.out.size)); clear hb xa0 xa1 xa2 xb0 xb1 xb2
  have P7 := Lib.hid (Held.alloc Q7.out qn qd 25); have B7 := Lib.hid (Below.alloc D7.out (Below.size D7.out) (.cells #[.int .i64 qn, .int .i64 qd] 25)); clear Q7 D7 P6 B6
  obtain ⟨xa0, xa1, xa2⟩ := P7.out.get (n := w.heap.size) (a := a) (b := b) (by simp)
  obtain ⟨xb0, xb1, xb2⟩ := P7.out.get (n := w.heap.size + 1) (a := c) (b := d) (by simp)
  go_wp2_with fail
  refine (refQuo_c a b c d qn qd qr HI.out.1 HI.out.2.1 HI.out.2.2.1 HI.out.2.2.2 Hq.out _).mono ?_; rintro e w8 ⟨rfl, hb⟩
  have Q8 := Lib.hid (P7.out.below hb); have D8 := Lib.hid (B7.out.trans (hb.mono B7.out.size)); clear hb xa0 xa1 xa2 xb0 xb1 xb2
  have P8 := Lib.hid (Held.alloc Q8.out qn qd 25); have B8 := Lib.hid (Below.alloc D8.out (Below.size D8.out) (.cells #[.int .i64 qn, .int .i64 qd] 25)); clear Q8 D8 P7 B7
  obtain ⟨ya0, ya1, ya2⟩ := P8.out.get (n := w1.heap.size) (a := sn) (b := sd) (by simp)
  obtain ⟨yb0, yb1, yb2⟩ := P8.out.get (n := w2.heap.size) (a := sn) (b := sd) (by simp)
  go_wp2_with fail
  refine (same_yes sn sd sr _).mono ?_; rintro e w9 ⟨rfl, hb⟩
  have P9 := Lib.hid (P8.out.below hb); have B9 := Lib.hid (B8.out.trans (hb.mono B8.out.size)); clear hb ya0 ya1 ya2 yb0 yb1 yb2 P8 B8
  obtain ⟨ya0, ya1, ya2⟩ := P9.out.get (n := w3.heap.size) (a := tn) (b := td) (by simp)
  obtain ⟨yb0, yb1, yb2⟩ := P9.out.get (n := w4.heap.size) (a := tn) (b := td) (by simp)
  go_wp2_with fail
  refine (same_yes tn td tr _).mono ?_; rintro e w10 ⟨rfl, hb⟩
  have P10 := Lib.hid (P9.out.below hb); have B10 := Lib.hid (B9.out.trans (hb.mono B9.out.size)); clear hb ya0 ya1 ya2 yb0 yb1 yb2 P9 B9
  obtain ⟨ya0, ya1, ya2⟩ := P10.out.get (n := w5.heap.size) (a := mn) (b := md) (by simp)
  obtain ⟨yb0, yb1, yb2⟩ := P10.out.get (n := w6.heap.size) (a := mn) (b := md) (by simp)
  go_wp2_with fail
  refine (same_yes mn md mr _).mono ?_; rintro e w11 ⟨rfl, hb⟩
  have P11 := Lib.hid (P10.out.below hb); have B11 := Lib.hid (B10.out.trans (hb.mono B10.out.size)); clear hb ya0 ya1 ya2 yb0 yb1 yb2 P10 B10
  obtain ⟨ya0, ya1, ya2⟩ := P11.out.get (n := w7.heap.size) (a := qn) (b := qd) (by simp)
  obtain ⟨yb0, yb1, yb2⟩ := P11.out.get (n := w8.heap.size) (a := qn) (b := qd) (by simp)
  go_wp2_with fail
  refine (same_yes qn qd qr _).mono ?_; rintro e w12 ⟨rfl, hb⟩
  have P12 := Lib.hid (P11.out.below hb); have B12 := Lib.hid (B11.out.trans (hb.mono B11.out.size)); clear hb ya0 ya1 ya2 yb0 yb1 yb2 P11 B11
  obtain ⟨xa0, xa1, xa2⟩ := P12.out.get (n := w.heap.size) (a := a) (b := b) (by simp)
  obtain ⟨xb0, xb1, xb2⟩ := P12.out.get (n := w.heap.size + 1) (a := c) (b := d) (by simp)
  have BU : Hid (BunC w w12 a b c d) := Lib.hid ⟨⟨xa0, xa1, xb0, xb1⟩, xb2, B12.out⟩
  clear P12 B12 xa0 xa1 xa2 xb0 xb1 xb2
  obtain ⟨⟨xx0, xx1, xx2, xx3⟩, xs, -⟩ := BU.out
  go_wp2_with fail
  go_region_held3 (fun w' => w'.cell? ⟨w.heap.size, 0, none⟩ = some (.int .i64 a) ∧ w'.cell? ⟨w.heap.size, 1, none⟩ = some (.int .i64 b) ∧ w'.cell? ⟨w.heap.size + 1, 0, none⟩ = some (.int .i64 c) ∧ w'.cell? ⟨w.heap.size + 1, 1, none⟩ = some (.int .i64 d)) (first | (simp [*, go_sem]; done))
    (first
      | (go_at_call 22; refine (cmp_c a b c d v HI.out.1 HI.out.2.1 HI.out.2.2.1 HI.out.2.2.2 HV.out _).mono ?_; rintro e uu ⟨rfl, hb⟩; clear xx0 xx1 xx2 xx3 xs; replace BU := Lib.hid (BU.out.below (Below.trans (by (repeat' (first | (with_reducible exact Below.refl _ _) | (with_reducible assumption) | (with_reducible refine bdn ?_ _) | (with_reducible refine Below.drew ?_) | (with_reducible refine Below.alloc ?_ ?_ _) | (with_reducible refine Below.setCell ?_ ?_ _) | go_size))) (hb.mono (by first | omega | (simp; done) | (simp; omega))))); clear hb; obtain ⟨⟨xx0, xx1, xx2, xx3⟩, xs, yB⟩ := BU.out; clear yB)
      | (go_at_call 30; refine (refCmp_c a b c d v HI.out.1 HI.out.2.1 HI.out.2.2.1 HI.out.2.2.2 HV.out _).mono ?_; rintro e uu ⟨rfl, hb⟩; clear xx0 xx1 xx2 xx3 xs; replace BU := Lib.hid (BU.out.below (Below.trans (by (repeat' (first | (with_reducible exact Below.refl _ _) | (with_reducible assumption) | (with_reducible refine bdn ?_ _) | (with_reducible refine Below.drew ?_) | (with_reducible refine Below.alloc ?_ ?_ _) | (with_reducible refine Below.setCell ?_ ?_ _) | go_size))) (hb.mono (by first | omega | (simp; done) | (simp; omega))))); clear hb; obtain ⟨⟨xx0, xx1, xx2, xx3⟩, xs, yB⟩ := BU.out; clear yB)
      | (go_at_call 31; refine (right_c a b r HI.out.1 HI.out.2.1 HR.out _).mono ?_; rintro e uu ⟨rfl, hb⟩; clear xx0 xx1 xx2 xx3 xs; replace BU := Lib.hid (BU.out.below (Below.trans (by (repeat' (first | (with_reducible exact Below.refl _ _) | (with_reducible assumption) | (with_reducible refine bdn ?_ _) | (with_reducible refine Below.drew ?_) | (with_reducible refine Below.alloc ?_ ?_ _) | (with_reducible refine Below.setCell ?_ ?_ _) | go_size))) (hb.mono (by first | omega | (simp; done) | (simp; omega))))); clear hb; obtain ⟨⟨xx0, xx1, xx2, xx3⟩, xs, yB⟩ := BU.out; clear yB)
      | (go_at_call 32; refine (refRight_c a b r HI.out.1 HI.out.2.1 HR.out _).mono ?_; rintro e uu ⟨rfl, hb⟩; clear xx0 xx1 xx2 xx3 xs; replace BU := Lib.hid (BU.out.below (Below.trans (by (repeat' (first | (with_reducible exact Below.refl _ _) | (with_reducible assumption) | (with_reducible refine bdn ?_ _) | (with_reducible refine Below.drew ?_) | (with_reducible refine Below.alloc ?_ ?_ _) | (with_reducible refine Below.setCell ?_ ?_ _) | go_size))) (hb.mono (by first | omega | (simp; done) | (simp; omega))))); clear hb; obtain ⟨⟨xx0, xx1, xx2, xx3⟩, xs, yB⟩ := BU.out; clear yB)
      | (go_at_call 21; refine (floor_c a b f HI.out.1 HI.out.2.1 HF.out _).mono ?_; rintro e uu ⟨rfl, hb⟩; clear xx0 xx1 xx2 xx3 xs; replace BU := Lib.hid (BU.out.below (Below.trans (by (repeat' (first | (with_reducible exact Below.refl _ _) | (with_reducible assumption) | (with_reducible refine bdn ?_ _) | (with_reducible refine Below.drew ?_) | (with_reducible refine Below.alloc ?_ ?_ _) | (with_reducible refine Below.setCell ?_ ?_ _) | go_size))) (hb.mono (by first | omega | (simp; done) | (simp; omega))))); clear hb; obtain ⟨⟨xx0, xx1, xx2, xx3⟩, xs, yB⟩ := BU.out; clear yB)
      | (go_at_call 33; refine (refFloor_c a b f HI.out.1 HI.out.2.1 HF.out _).mono ?_; rintro e uu ⟨rfl, hb⟩; clear xx0 xx1 xx2 xx3 xs; replace BU := Lib.hid (BU.out.below (Below.trans (by (repeat' (first | (with_reducible exact Below.refl _ _) | (with_reducible assumption) | (with_reducible refine bdn ?_ _) | (with_reducible refine Below.drew ?_) | (with_reducible refine Below.alloc ?_ ?_ _) | (with_reducible refine Below.setCell ?_ ?_ _) | go_size))) (hb.mono (by first | omega | (simp; done) | (simp; omega))))); clear hb; obtain ⟨⟨xx0, xx1, xx2, xx3⟩, xs, yB⟩ := BU.out; clear yB)
      | (go_at_call 9; refine (text_t a b tx HI.out.1 HI.out.2.1 HX.out _ (HT.out.below (BU.out.2.2.trans (by (repeat' (first | (with_reducible exact Below.refl _ _) | (with_reducible assumption) | (with_reducible refine bdn ?_ _) | (with_reducible refine Below.drew ?_) | (with_reducible refine Below.alloc ?_ ?_ _) | (with_reducible refine Below.setCell ?_ ?_ _) | go_size)))))).mono ?_; rintro e uu ⟨rfl, hb⟩; clear xx0 xx1 xx2 xx3 xs; replace BU := Lib.hid (BU.out.below (Below.trans (by (repeat' (first | (with_reducible exact Below.refl _ _) | (with_reducible assumption) | (with_reducible refine bdn ?_ _) | (with_reducible refine Below.drew ?_) | (with_reducible refine Below.alloc ?_ ?_ _) | (with_reducible refine Below.setCell ?_ ?_ _) | go_size))) (hb.mono (by first | omega | (simp; done) | (simp; omega))))); clear hb; obtain ⟨⟨xx0, xx1, xx2, xx3⟩, xs, yB⟩ := BU.out; clear yB)
      | (go_at_call 34; refine (refText_t a b tx HI.out.1 HI.out.2.1 HX.out _).mono ?_; rintro e uu ⟨rfl, hb⟩; clear xx0 xx1 xx2 xx3 xs; replace BU := Lib.hid (BU.out.below (Below.trans (by (repeat' (first | (with_reducible exact Below.refl _ _) | (with_reducible assumption) | (with_reducible refine bdn ?_ _) | (with_reducible refine Below.drew ?_) | (with_reducible refine Below.alloc ?_ ?_ _) | (with_reducible refine Below.setCell ?_ ?_ _) | go_size))) (hb.mono (by first | omega | (simp; done) | (simp; omega))))); clear hb; obtain ⟨⟨xx0, xx1, xx2, xx3⟩, xs, yB⟩ := BU.out; clear yB))
  all_goals
    go_wp2
    go_ret
    exact ⟨by first | rfl | simp, by repeat' (first | exact BU.out.2.2 | refine bdn ?_ _ | refine Below.drew ?_)⟩
end Go.Proofs.YtokmfgpbfhfafaaGreatDoor

/- RatioSums: for every two numbers that are made, all operations agree with the reference's. Conditions: the arguments are ints; the listed variables hold the program's own text. -/
namespace Go.Proofs.YtokmfgpbfhfafaaGreatDoor
open Go.RowKit

theorem Rt.i {a b : Int} (h : Rt a b) : I64 a ∧ I64 b := ⟨⟨h.2.1, h.2.2.1⟩, ⟨by have := h.2.2.2.1; omega, h.2.2.2.2⟩⟩

set_option maxRecDepth 100000 in
set_option maxHeartbeats 4000000 in
theorem sumsLaw (x0 x1 x2 y0 y1 y2 : Int) (hx0 : I64 x0) (hx1 : I64 x1) (hy0 : I64 y0) (hy1 : I64 y1) (w : World) (hT : Tab w) (hM : Max w) :
    Calls Tryz.prog 3 #[.agg #[.int .i64 x0, .int .i64 x1, .int .i64 x2], .agg #[.int .i64 y0, .int .i64 y1, .int .i64 y2]] w fun e w' => e = .returned (.bool true) ∧ Below w.heap.size w w' := by
  have HT := Lib.hid hT; have HM := Lib.hid hM; have HX := Lib.hid (And.intro hx0 hx1); have HY := Lib.hid (And.intro hy0 hy1); clear hT hM hx0 hx1 hy0 hy1
  go_enter Tryz.func3, Tryz.ntmps3
  go_wp2_with fail
  refine (sanity_any _ (HT.out.below (by (repeat' (first | (with_reducible exact Below.refl _ _) | (with_reducible assumption) | (with_reducible refine bdn ?_ _) | (with_reducible refine Below.drew ?_) | (with_reducible refine Below.alloc ?_ ?_ _) | (with_reducible refine Below.setCell ?_ ?_ _) | go_size)))) (HM.out.below (by (repeat' (first | (with_reducible exact Below.refl _ _) | (with_reducible assumption) | (with_reducible refine bdn ?_ _) | (with_reducible refine Below.drew ?_) | (with_reducible refine Below.alloc ?_ ?_ _) | (with_reducible refine Below.setCell ?_ ?_ _) | go_size))))).mono ?_; rintro e w1 ⟨rfl, hb⟩
  have p0 := bk hb w.heap.size 0 (v := .int .i64 x0) (by first | (simp [go_sem]; done) | (simp [go_sem]; omega)) (by first | (simp; done) | (simp; omega))
  have p1 := bk hb w.heap.size 1 (v := .int .i64 x1) (by first | (simp [go_sem]; done) | (simp [go_sem]; omega)) (by first | (simp; done) | (simp; omega))
  have p2 := bk hb w.heap.size 2 (v := .int .i64 x2) (by first | (simp [go_sem]; done) | (simp [go_sem]; omega)) (by first | (simp; done) | (simp; omega))
  have q0 := bk hb (w.heap.size + 1) 0 (v := .int .i64 y0) (by first | (simp [go_sem]; done) | (simp [go_sem]; omega)) (by first | (simp; done) | (simp; omega))
  have q1 := bk hb (w.heap.size + 1) 1 (v := .int .i64 y1) (by first | (simp [go_sem]; done) | (simp [go_sem]; omega)) (by first | (simp; done) | (simp; omega))
  have q2 := bk hb (w.heap.size + 1) 2 (v := .int .i64 y2) (by first | (simp [go_sem]; done) | (simp [go_sem]; omega)) (by first | (simp; done) | (simp; omega))
  have D1 : Hid (Below w.heap.size w w1) := Lib.hid (Below.trans (by (repeat' (first | (with_reducible exact Below.refl _ _) | (with_reducible assumption) | (with_reducible refine bdn ?_ _) | (with_reducible refine Below.drew ?_) | (with_reducible refine Below.alloc ?_ ?_ _) | (with_reducible refine Below.setCell ?_ ?_ _) | go_size))) (hb.mono (B' := w.heap.size) (by simp; omega)))
  have S1 : w.heap.size + 1 < w1.heap.size := by have := hb.size; simp at this; omega
  clear hb
  go_wp2_with fail
  refine (made_any x0 x1 x2 HX.out.1.1 HX.out.1.2 HX.out.2.1 HX.out.2.2 _).mono ?_; rintro e w2 ⟨an, ad, rfl, hR, hb⟩
  have Ran := Lib.hid hR; clear hR
  have E2 := Lib.hid (D1.out.trans (hb.mono D1.out.size))
  have U2 : w.heap.size + 1 < w2.heap.size := by have := hb.size; omega
  replace q0 := bk hb (w.heap.size + 1) 0 q0 (by omega)
  replace q1 := bk hb (w.heap.size + 1) 1 q1 (by omega)
  replace q2 := bk hb (w.heap.size + 1) 2 q2 (by omega)
  clear hb p0 p1 p2 S1
  have P2 := Lib.hid (Held.alloc (Held.nil w2) an ad 25)
  have B2 := Lib.hid (Below.alloc E2.out (Below.size E2.out) (.cells #[.int .i64 an, .int .i64 ad] 25))
  go_wp2_with fail
  refine (made_any y0 y1 y2 HY.out.1.1 HY.out.1.2 HY.out.2.1 HY.out.2.2 _).mono ?_; rintro e w3 ⟨bn, bd, rfl, hR, hb⟩
  have Rbn := Lib.hid hR; clear hR
  have Q3 := Lib.hid (P2.out.below hb)
  have E3 := Lib.hid (B2.out.trans (hb.mono B2.out.size))
  clear hb q0 q1 q2 U2
  have P3 := Lib.hid (Held.alloc Q3.out bn bd 25)
  have B3 := Lib.hid (Below.alloc E3.out (Below.size E3.out) (.cells #[.int .i64 bn, .int .i64 bd] 25))
  obtain ⟨a0, a1, a2⟩ := P3.out.get (n := w2.heap.size) (a := an) (b := ad) (by simp)
  obtain ⟨b0, b1, b2⟩ := P3.out.get (n := w3.heap.size) (a := bn) (b := bd) (by simp)
  go_wp2_with fail
  refine (agrees_any an ad bn bd Ran.out.i.1 Ran.out.i.2 Rbn.out.i.1 Rbn.out.i.2 _ (HT.out.below B3.out)).mono ?_; rintro e w4 ⟨rfl, hb⟩
  have Q4 := Lib.hid (P3.out.below hb); have D4 := Lib.hid (B3.out.trans (hb.mono B3.out.size)); clear hb
  clear a0 a1 a2 b0 b1 b2
  obtain ⟨a0, a1, a2⟩ := Q4.out.get (n := w2.heap.size) (a := an) (b := ad) (by simp)
  obtain ⟨b0, b1, b2⟩ := Q4.out.get (n := w3.heap.size) (a := bn) (b := bd) (by simp)
  go_wp2_with fail
  refine (agrees_any bn bd an ad Rbn.out.i.1 Rbn.out.i.2 Ran.out.i.1 Ran.out.i.2 _ (HT.out.below D4.out)).mono ?_; rintro e w5 ⟨rfl, hb⟩
  have Q5 := Lib.hid (Q4.out.below hb); have D5 := Lib.hid (D4.out.trans (hb.mono D4.out.size)); clear hb
  clear a0 a1 a2 b0 b1 b2
  obtain ⟨a0, a1, a2⟩ := Q5.out.get (n := w2.heap.size) (a := an) (b := ad) (by simp)
  go_wp2_with fail
  refine (agrees_any an ad an ad Ran.out.i.1 Ran.out.i.2 Ran.out.i.1 Ran.out.i.2 _ (HT.out.below D5.out)).mono ?_; rintro e w6 ⟨rfl, hb⟩
  have Q6 := Lib.hid (Q5.out.below hb); have D6 := Lib.hid (D5.out.trans (hb.mono D5.out.size)); clear hb
  clear a0 a1 a2
  go_wp2
  go_ret
  exact ⟨by simp, D6.out⟩
end Go.Proofs.YtokmfgpbfhfafaaGreatDoor

/- RatioRaw: for every two pairs of ints, right or not, and a number that is made, all operations agree with the reference's. Conditions: the arguments are ints; the listed variables hold the program's own text. -/
namespace Go.Proofs.YtokmfgpbfhfafaaGreatDoor
open Go.RowKit

set_option maxRecDepth 100000 in
set_option maxHeartbeats 4000000 in
theorem rawLaw (an ad bn bd z0 z1 z2 : Int) (han : I64 an) (had : I64 ad) (hbn : I64 bn) (hbd : I64 bd) (hz0 : I64 z0) (hz1 : I64 z1) (w : World) (hT : Tab w) (hM : Max w) :
    Calls Tryz.prog 4 #[ratV an ad, ratV bn bd, .agg #[.int .i64 z0, .int .i64 z1, .int .i64 z2]] w fun e w' => e = .returned (.bool true) ∧ Below w.heap.size w w' := by
  have HT := Lib.hid hT; have HM := Lib.hid hM; have HA := Lib.hid (And.intro han had); have HB := Lib.hid (And.intro hbn hbd); have HZ := Lib.hid (And.intro hz0 hz1); clear hT hM han had hbn hbd hz0 hz1
  go_enter Tryz.func4, Tryz.ntmps4
  go_wp2_with fail
  have P0 := Lib.hid (show Held (((w.alloc (.cells #[.int .i64 an, .int .i64 ad] 25)).alloc (.cells #[.int .i64 bn, .int .i64 bd] 25)).alloc (.cells #[.int .i64 z0, .int .i64 z1, .int .i64 z2] 22)) [(w.heap.size + 1, bn, bd), (w.heap.size, an, ad)] from Held.more (by simp [go_sem]) (by simp [go_sem]) (by first | (simp; done) | (simp; omega)) (Held.one (by simp [go_sem]) (by simp [go_sem]) (by first | (simp; done) | (simp; omega))))
  refine (sanity_any _ (HT.out.below (by (repeat' (first | (with_reducible exact Below.refl _ _) | (with_reducible assumption) | (with_reducible refine bdn ?_ _) | (with_reducible refine Below.drew ?_) | (with_reducible refine Below.alloc ?_ ?_ _) | (with_reducible refine Below.setCell ?_ ?_ _) | go_size)))) (HM.out.below (by (repeat' (first | (with_reducible exact Below.refl _ _) | (with_reducible assumption) | (with_reducible refine bdn ?_ _) | (with_reducible refine Below.drew ?_) | (with_reducible refine Below.alloc ?_ ?_ _) | (with_reducible refine Below.setCell ?_ ?_ _) | go_size))))).mono ?_; rintro e w1 ⟨rfl, hb⟩
  have q0 := bk hb (w.heap.size + 1 + 1) 0 (v := .int .i64 z0) (by first | (simp [go_sem]; done) | (simp [go_sem]; omega)) (by first | (simp; done) | (simp; omega))
  have q1 := bk hb (w.heap.size + 1 + 1) 1 (v := .int .i64 z1) (by first | (simp [go_sem]; done) | (simp [go_sem]; omega)) (by first | (simp; done) | (simp; omega))
  have q2 := bk hb (w.heap.size + 1 + 1) 2 (v := .int .i64 z2) (by first | (simp [go_sem]; done) | (simp [go_sem]; omega)) (by first | (simp; done) | (simp; omega))
  have D1 : Hid (Below w.heap.size w w1) := Lib.hid (Below.trans (by (repeat' (first | (with_reducible exact Below.refl _ _) | (with_reducible assumption) | (with_reducible refine bdn ?_ _) | (with_reducible refine Below.drew ?_) | (with_reducible refine Below.alloc ?_ ?_ _) | (with_reducible refine Below.setCell ?_ ?_ _) | go_size))) (hb.mono (B' := w.heap.size) (by simp; omega)))
  have Q1 := Lib.hid (P0.out.below hb)
  clear hb P0
  go_wp2_with fail
  refine (made_any z0 z1 z2 HZ.out.1.1 HZ.out.1.2 HZ.out.2.1 HZ.out.2.2 _).mono ?_; rintro e w2 ⟨cn, cd, rfl, hR, hb⟩
  have Rcn := Lib.hid hR; clear hR
  have Q2 := Lib.hid (Q1.out.below hb)
  have E2 := Lib.hid (D1.out.trans (hb.mono D1.out.size))
  clear hb q0 q1 q2
  have P3 := Lib.hid (Held.alloc Q2.out cn cd 25)
  have B3 := Lib.hid (Below.alloc E2.out (Below.size E2.out) (.cells #[.int .i64 cn, .int .i64 cd] 25))
  obtain ⟨a0, a1, a2⟩ := P3.out.get (n := w.heap.size) (a := an) (b := ad) (by simp)
  obtain ⟨b0, b1, b2⟩ := P3.out.get (n := (w.heap.size + 1)) (a := bn) (b := bd) (by simp)
  go_wp2_with fail
  refine (agrees_any an ad bn bd HA.out.1 HA.out.2 HB.out.1 HB.out.2 _ (HT.out.below B3.out)).mono ?_; rintro e w4 ⟨rfl, hb⟩
  have Q4 := Lib.hid (P3.out.below hb); have D4 := Lib.hid (B3.out.trans (hb.mono B3.out.size)); clear hb
  clear a0 a1 a2 b0 b1 b2
  obtain ⟨a0, a1, a2⟩ := Q4.out.get (n := w.heap.size) (a := an) (b := ad) (by simp)
  obtain ⟨c0, c1, c2⟩ := Q4.out.get (n := w2.heap.size) (a := cn) (b := cd) (by simp)
  go_wp2_with fail
  refine (agrees_any an ad cn cd HA.out.1 HA.out.2 Rcn.out.i.1 Rcn.out.i.2 _ (HT.out.below D4.out)).mono ?_; rintro e w5 ⟨rfl, hb⟩
  have Q5 := Lib.hid (Q4.out.below hb); have D5 := Lib.hid (D4.out.trans (hb.mono D4.out.size)); clear hb
  clear a0 a1 a2 c0 c1 c2
  obtain ⟨c0, c1, c2⟩ := Q5.out.get (n := w2.heap.size) (a := cn) (b := cd) (by simp)
  obtain ⟨b0, b1, b2⟩ := Q5.out.get (n := (w.heap.size + 1)) (a := bn) (b := bd) (by simp)
  go_wp2_with fail
  refine (agrees_any cn cd bn bd Rcn.out.i.1 Rcn.out.i.2 HB.out.1 HB.out.2 _ (HT.out.below D5.out)).mono ?_; rintro e w6 ⟨rfl, hb⟩
  have Q6 := Lib.hid (Q5.out.below hb); have D6 := Lib.hid (D5.out.trans (hb.mono D5.out.size)); clear hb
  clear c0 c1 c2 b0 b1 b2
  go_wp2
  go_ret
  exact ⟨by simp, D6.out⟩
end Go.Proofs.YtokmfgpbfhfafaaGreatDoor

