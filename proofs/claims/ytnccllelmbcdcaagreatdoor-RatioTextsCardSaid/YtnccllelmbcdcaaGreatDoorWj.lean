/-
  The walks of ratio: the closures, whether a number is right, the one place where arguments are checked.
-/
import Derived.Test.YtnccllelmbcdcaaGreatDoorWg
namespace Go.Proofs.YtnccllelmbcdcaaGreatDoor
open Go.RowKit

set_option maxHeartbeats 1000000 in
theorem right_small (n d : Int) (h : ¬ 1 ≤ d) (w : World) :
    Calls Tryz.prog 31 #[ratV n d] w fun e w' => e = .returned (.bool false) ∧ ∃ nq, w' = (w.alloc (.cells #[.int .i64 n, .int .i64 d] 25)).drewN nq := by
  have hd : decide (1 ≤ d) = false := by simp; omega
  clear h
  go_enter Tryz.func31, Tryz.ntmps31
  go_wp2
  go_quiet (fail)
  go_wp2
  go_ret
  exact ⟨rfl, _, rfl⟩

set_option maxHeartbeats 1000000 in
theorem right_raw (n d x y g : Int) (b : Bool) (hd : decide (1 ≤ d) = true) (hb : (g == 1) = b)
    (c1 : ∀ w, Calls Tryz.prog 40 #[.int .i64 n] w fun e w' => e = .returned (.int .u64 x) ∧ w' = w)
    (c2 : ∀ w, Calls Tryz.prog 40 #[.int .i64 d] w fun e w' => e = .returned (.int .u64 y) ∧ w' = w)
    (c3 : ∀ w, Calls Tryz.prog 41 #[.int .u64 x, .int .u64 y] w fun e w' => e = .returned (.int .u64 g) ∧ ∃ nq, w' = w.drewN nq) (w : World) :
    Calls Tryz.prog 31 #[ratV n d] w fun e w' => e = .returned (.bool b) ∧ ∃ nq, w' = (w.alloc (.cells #[.int .i64 n, .int .i64 d] 25)).drewN nq := by
  have C1 := Lib.hid c1; have C2 := Lib.hid c2; have C3 := Lib.hid c3
  clear c1 c2 c3
  go_enter Tryz.func31, Tryz.ntmps31
  go_wp2
  go_quiet ((first | (go_at_call_of 40 (Value.int IntKind.i64 n); exact Calls.quiet_of_same (C1.out _)) | (go_at_call_of 40 (Value.int IntKind.i64 d); exact Calls.quiet_of_same (C2.out _)) | (go_at_call 41; exact Calls.quiet_of (C3.out _))))
  go_wp2
  go_ret
  exact ⟨rfl, _, rfl⟩

theorem right_any (n d : Int) (h1 : -9223372036854775808 ≤ n) (h2 : n ≤ 9223372036854775807) (h3 : d ≤ 9223372036854775807) (w : World) :
    Calls Tryz.prog 31 #[ratV n d] w fun e w' => e = .returned (.bool (Num.rtB n d)) ∧ ∃ nq, w' = (w.alloc (.cells #[.int .i64 n, .int .i64 d] 25)).drewN nq := by
  by_cases h : 1 ≤ d
  · refine right_raw n d _ _ (Num.gcdI (n.natAbs : Int) (d.natAbs : Int)) _ (by simp [h]) (by unfold Num.rtB; simp only [h, decide_true, Bool.true_and]; rfl) (fun w => (magnitude_any n h1 h2 w).mono fun _ _ h => ⟨h.1, h.2.symm⟩) (fun w => (magnitude_any d (by omega) h3 w).mono fun _ _ h => ⟨h.1, h.2.symm⟩) (fun w => gcd_any _ _ (by omega) (by omega) (by omega) (by omega) w) w
  · have e : Num.rtB n d = false := by unfold Num.rtB; simp; omega
    rw [e]; exact right_small n d h w

set_option maxHeartbeats 1000000 in
theorem compare_ne (s t : Bool) (hst : (s != t) = true) (an ad bn bd : Int) (w : World) :
    Calls Tryz.prog 49 #[fracV s an ad, fracV t bn bd] w fun e w' => e = .returned (.int .i64 (if s then -1 else 1)) ∧ Below w.heap.size w w' := by
  cases s <;> cases t
  · simp at hst
  · go_enter Tryz.func49, Tryz.ntmps49
    go_wp2
    go_ret
    exact ⟨rfl, by (repeat' (first | (with_reducible exact Below.refl _ _) | (with_reducible assumption) | (with_reducible refine bdn ?_ _) | (with_reducible refine Below.drew ?_) | (with_reducible refine Below.alloc ?_ ?_ _) | (with_reducible refine Below.setCell ?_ ?_ _) | go_size))⟩
  · go_enter Tryz.func49, Tryz.ntmps49
    go_wp2
    go_ret
    exact ⟨rfl, by (repeat' (first | (with_reducible exact Below.refl _ _) | (with_reducible assumption) | (with_reducible refine bdn ?_ _) | (with_reducible refine Below.drew ?_) | (with_reducible refine Below.alloc ?_ ?_ _) | (with_reducible refine Below.setCell ?_ ?_ _) | go_size))⟩
  · simp at hst

set_option maxHeartbeats 1000000 in
theorem compare_pos (an ad bn bd v : Int) (c : ∀ w, Calls Tryz.prog 72 #[fracV false an ad, fracV false bn bd] w fun e w' => e = .returned (.int .i64 v) ∧ Below w.heap.size w w') (w : World) :
    Calls Tryz.prog 49 #[fracV false an ad, fracV false bn bd] w fun e w' => e = .returned (.int .i64 v) ∧ Below w.heap.size w w' := by
  have C := Lib.hid c; clear c
  go_enter Tryz.func49, Tryz.ntmps49
  go_wp2_with fail
  refine (C.out _).mono ?_; rintro e w1 ⟨rfl, hb1⟩
  have hB := Lib.hid (hb1.mono (B' := w.heap.size) (by simp; omega)); clear hb1
  go_wp2
  go_ret
  exact ⟨rfl, by refine Below.trans ?_ hB.out; (repeat' (first | (with_reducible exact Below.refl _ _) | (with_reducible assumption) | (with_reducible refine bdn ?_ _) | (with_reducible refine Below.drew ?_) | (with_reducible refine Below.alloc ?_ ?_ _) | (with_reducible refine Below.setCell ?_ ?_ _) | go_size))⟩

set_option maxHeartbeats 1000000 in
theorem compare_neg (an ad bn bd v : Int) (c : ∀ w, Calls Tryz.prog 72 #[fracV true bn bd, fracV true an ad] w fun e w' => e = .returned (.int .i64 v) ∧ Below w.heap.size w w') (w : World) :
    Calls Tryz.prog 49 #[fracV true an ad, fracV true bn bd] w fun e w' => e = .returned (.int .i64 v) ∧ Below w.heap.size w w' := by
  have C := Lib.hid c; clear c
  go_enter Tryz.func49, Tryz.ntmps49
  go_wp2_with fail
  refine (C.out _).mono ?_; rintro e w1 ⟨rfl, hb1⟩
  have hB := Lib.hid (hb1.mono (B' := w.heap.size) (by simp; omega)); clear hb1
  go_wp2
  go_ret
  exact ⟨rfl, by refine Below.trans ?_ hB.out; (repeat' (first | (with_reducible exact Below.refl _ _) | (with_reducible assumption) | (with_reducible refine bdn ?_ _) | (with_reducible refine Below.drew ?_) | (with_reducible refine Below.alloc ?_ ?_ _) | (with_reducible refine Below.setCell ?_ ?_ _) | go_size))⟩

theorem compare_any (s t : Bool) (an ad bn bd : Int) (h1 : 0 ≤ an) (h2 : an < 18446744073709551616) (h3 : 0 < ad) (h4 : ad < 18446744073709551616) (h5 : 0 ≤ bn) (h6 : bn < 18446744073709551616) (h7 : 0 < bd) (h8 : bd < 18446744073709551616)
    (hs : s = true → 0 < an) (ht : t = true → 0 < bn) (w : World) :
    Calls Tryz.prog 49 #[fracV s an ad, fracV t bn bd] w fun e w' => e = .returned (.int .i64 (Num.cmpI (Num.sgn s an * bd) (Num.sgn t bn * ad))) ∧ Below w.heap.size w w' := by
  have p1 := Int.mul_nonneg h1 (Int.le_of_lt h7)
  have p2 := Int.mul_nonneg h5 (Int.le_of_lt h3)
  cases s <;> cases t
  · exact compare_pos an ad bn bd _ (fun w => cmpMag_any false false an ad bn bd h1 h2 (by omega) h4 h5 h6 (by omega) h8 w) w
  · have e : Num.cmpI (Num.sgn false an * bd) (Num.sgn true bn * ad) = 1 := by
      have := Int.mul_pos (ht rfl) h3
      unfold Num.cmpI Num.sgn; simp only [Bool.false_eq_true, if_false, if_true]
      rw [Int.neg_mul, if_neg (by omega), if_neg (by omega)]
    rw [e]; exact compare_ne false true rfl an ad bn bd w
  · have e : Num.cmpI (Num.sgn true an * bd) (Num.sgn false bn * ad) = -1 := by
      have := Int.mul_pos (hs rfl) h7
      unfold Num.cmpI Num.sgn; simp only [Bool.false_eq_true, if_false, if_true]
      rw [Int.neg_mul, if_neg (by omega), if_pos (by omega)]
    rw [e]; exact compare_ne true false rfl an ad bn bd w
  · have e : Num.cmpI (Num.sgn true an * bd) (Num.sgn true bn * ad) = Num.cmpI (bn * ad) (an * bd) := by
      unfold Num.cmpI Num.sgn; simp only [if_true]
      rw [Int.neg_mul, Int.neg_mul]
      generalize an * bd = x at *
      generalize bn * ad = y at *
      rcases Int.lt_trichotomy x y with a | a | a
      · rw [if_neg (show ¬ -x = -y by omega), if_neg (show ¬ -x < -y by omega), if_neg (show ¬ y = x by omega), if_neg (show ¬ y < x by omega)]
      · rw [if_pos (show -x = -y by omega), if_pos a.symm]
      · rw [if_neg (show ¬ -x = -y by omega), if_pos (show -x < -y by omega), if_neg (show ¬ y = x by omega), if_pos a]
    rw [e]; exact compare_neg an ad bn bd _ (fun w => cmpMag_any true true bn bd an ad h5 h6 (by omega) h8 h1 h2 (by omega) h4 w) w
end Go.Proofs.YtnccllelmbcdcaaGreatDoor
