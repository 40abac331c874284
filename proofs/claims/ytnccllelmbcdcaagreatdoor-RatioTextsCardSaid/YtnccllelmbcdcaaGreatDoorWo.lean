/-
  The operations of ratio, for all arguments.
-/
import Derived.Test.YtnccllelmbcdcaaGreatDoorWm
import Derived.Test.YtnccllelmbcdcaaGreatDoorWi
namespace Go.Proofs.YtnccllelmbcdcaaGreatDoor
open Go.RowKit


theorem right_yes (n d : Int) (h1 : I64 n) (h2 : I64 d) (h : Num.rtB n d = true) (w : World) :
    Calls Tryz.prog 31 #[ratV n d] w fun e w' => e = .returned (.bool true) ∧ ∃ nq, w' = (w.alloc (.cells #[.int .i64 n, .int .i64 d] 25)).drewN nq := h ▸ right_any n d h1.1 h1.2 h2.2 w
theorem right_not (n d : Int) (h1 : I64 n) (h2 : I64 d) (h : Num.rtB n d = false) (w : World) :
    Calls Tryz.prog 31 #[ratV n d] w fun e w' => e = .returned (.bool false) ∧ ∃ nq, w' = (w.alloc (.cells #[.int .i64 n, .int .i64 d] 25)).drewN nq := h ▸ right_any n d h1.1 h1.2 h2.2 w
theorem frac_any (n d : Int) (h1 : I64 n) (h2 : I64 d) (w : World) :
    Calls Tryz.prog 67 #[ratV n d] w fun e w' => e = .returned (fracV (decide (n < 0)) (n.natAbs : Int) (d.natAbs : Int)) ∧ Below w.heap.size w w' := fractionOf_any n d h1.1 h1.2 h2.1 h2.2 w

set_option maxHeartbeats 1000000 in
theorem operate_no1 (f : Value) (a b c d : Int)
    (hr1 : ∀ w, Calls Tryz.prog 31 #[ratV a b] w fun e w' => e = .returned (.bool false) ∧ ∃ nq, w' = (w.alloc (.cells #[.int .i64 a, .int .i64 b] 25)).drewN nq) (w : World) :
    Calls Tryz.prog 43 #[ratV a b, ratV c d, f] w fun e w' => e = .returned (.tuple #[ratV 0 1, .bool false]) ∧ Below w.heap.size w w' := by
  have R1 := Lib.hid hr1
  clear hr1
  go_enter Tryz.func43, Tryz.ntmps43
  go_wp2_with fail
  refine (R1.out _).mono ?_; rintro e w' ⟨rfl, nq, rfl⟩
  go_wp2_with fail
  refine (noNumber_any _).mono ?_; rintro e w2 ⟨rfl, hb2⟩
  obtain ⟨sa, sb, sc, sd, se⟩ := box2 hb2 (w.heap.size + 1 + 1) (a := .int .i64 0) (b := .int .i64 0) (by simp [go_sem]) (by simp [go_sem]) (by simp [go_sem]) (by simp [go_sem]) (by simp) (by simp)
  have hB2 := hb2.mono (B' := w.heap.size) (by simp; omega); clear hb2
  go_wp2
  refine bodyPost_ret (v := .tuple #[ratV 0 1, .bool false]) (by simp [results, Tryz.results43, go_sem, sa, sb]) rfl ⟨rfl, ?_⟩
  refine Below.setCell (Below.setCell (Below.trans ?_ hB2) ?_ _) ?_ _ <;> (repeat' (first | (with_reducible exact Below.refl _ _) | (with_reducible assumption) | (with_reducible refine bdn ?_ _) | (with_reducible refine Below.drew ?_) | (with_reducible refine Below.alloc ?_ ?_ _) | (with_reducible refine Below.setCell ?_ ?_ _) | go_size))
set_option maxHeartbeats 1000000 in
theorem operate_no2 (f : Value) (a b c d : Int)
    (hr1 : ∀ w, Calls Tryz.prog 31 #[ratV a b] w fun e w' => e = .returned (.bool true) ∧ ∃ nq, w' = (w.alloc (.cells #[.int .i64 a, .int .i64 b] 25)).drewN nq)
    (hr2 : ∀ w, Calls Tryz.prog 31 #[ratV c d] w fun e w' => e = .returned (.bool false) ∧ ∃ nq, w' = (w.alloc (.cells #[.int .i64 c, .int .i64 d] 25)).drewN nq) (w : World) :
    Calls Tryz.prog 43 #[ratV a b, ratV c d, f] w fun e w' => e = .returned (.tuple #[ratV 0 1, .bool false]) ∧ Below w.heap.size w w' := by
  have R1 := Lib.hid hr1; have R2 := Lib.hid hr2
  clear hr1 hr2
  go_enter Tryz.func43, Tryz.ntmps43
  go_wp2_with fail
  refine (R1.out _).mono ?_; rintro e w' ⟨rfl, nq, rfl⟩
  go_wp2_with fail
  refine (R2.out _).mono ?_; rintro e w' ⟨rfl, nq1, rfl⟩
  go_wp2_with fail
  refine (noNumber_any _).mono ?_; rintro e w2 ⟨rfl, hb2⟩
  obtain ⟨sa, sb, sc, sd, se⟩ := box2 hb2 (w.heap.size + 1 + 1) (a := .int .i64 0) (b := .int .i64 0) (by simp [go_sem]) (by simp [go_sem]) (by simp [go_sem]) (by simp [go_sem]) (by simp) (by simp)
  have hB2 := hb2.mono (B' := w.heap.size) (by simp; omega); clear hb2
  go_wp2
  refine bodyPost_ret (v := .tuple #[ratV 0 1, .bool false]) (by simp [results, Tryz.results43, go_sem, sa, sb]) rfl ⟨rfl, ?_⟩
  refine Below.setCell (Below.setCell (Below.trans ?_ hB2) ?_ _) ?_ _ <;> (repeat' (first | (with_reducible exact Below.refl _ _) | (with_reducible assumption) | (with_reducible refine bdn ?_ _) | (with_reducible refine Below.drew ?_) | (with_reducible refine Below.alloc ?_ ?_ _) | (with_reducible refine Below.setCell ?_ ?_ _) | go_size))
theorem rt_parts {n d : Int} (h1 : I64 n) (h2 : I64 d) (h : Num.rtB n d = true) : 1 ≤ d ∧ (d.natAbs : Int) = d ∧ Num.gcdI (n.natAbs : Int) (d.natAbs : Int) = 1 ∧ 0 ≤ (n.natAbs : Int) ∧ (n.natAbs : Int) ≤ 9223372036854775808 ∧ d ≤ 9223372036854775807 := by
  unfold Num.rtB at h
  simp only [Bool.and_eq_true, decide_eq_true_eq] at h
  have := h1.1; have := h1.2; have := h2.2
  exact ⟨h.1, by omega, h.2, by omega, by omega, by omega⟩

theorem opNo (n d : Int) : Num.opN false n d = 0 ∧ Num.opD false n d = 1 ∧ Num.opB false n d = false := ⟨rfl, rfl, rfl⟩

theorem operate_sum_any (a b c d : Int) (ha : I64 a) (hb : I64 b) (hc : I64 c) (hd : I64 d) (w : World) :
    Calls Tryz.prog 43 #[ratV a b, ratV c d, .func (.func 44) #[] #[]] w fun e w' => e = .returned (.tuple #[ratV (Num.opN (Num.rtB a b && Num.rtB c d) (a * d + c * b) (b * d)) (Num.opD (Num.rtB a b && Num.rtB c d) (a * d + c * b) (b * d)), .bool (Num.opB (Num.rtB a b && Num.rtB c d) (a * d + c * b) (b * d))]) ∧ Below w.heap.size w w' := by
  cases r1 : Num.rtB a b
  · exact operate_no1 _ a b c d (fun w => right_not a b ha hb r1 w) w
  cases r2 : Num.rtB c d
  · exact operate_no2 _ a b c d (fun w => right_yes a b ha hb r1 w) (fun w => right_not c d hc hd r2 w) w
  obtain ⟨p1, p2, p3, p4, p5, p6⟩ := rt_parts ha hb r1
  obtain ⟨q1, q2, q3, q4, q5, q6⟩ := rt_parts hc hd r2
  refine operate_sum a b c d _ _ _ (fun w => right_yes a b ha hb r1 w) (fun w => right_yes c d hc hd r2 w) _ _ _ _ _ _ (fun w => frac_any a b ha hb w) (fun w => frac_any c d hc hd w) (fun w => ?_) w
  have := sum_any (decide (a < 0)) (decide (c < 0)) (a.natAbs : Int) (b.natAbs : Int) (c.natAbs : Int) (d.natAbs : Int) p4 p5 (by omega) (by omega) q4 q5 (by omega) (by omega) p3 q3 w
  rw [Num.sgn_abs, Num.sgn_abs] at this
  simp only [Num.opN, Num.opD, Num.opB, Bool.and_self, if_true, Bool.true_and]
  rw [p2, q2] at this ⊢
  exact this

theorem operate_sub_any (a b c d : Int) (ha : I64 a) (hb : I64 b) (hc : I64 c) (hd : I64 d) (w : World) :
    Calls Tryz.prog 43 #[ratV a b, ratV c d, .func (.func 58) #[] #[]] w fun e w' => e = .returned (.tuple #[ratV (Num.opN (Num.rtB a b && Num.rtB c d) (a * d - c * b) (b * d)) (Num.opD (Num.rtB a b && Num.rtB c d) (a * d - c * b) (b * d)), .bool (Num.opB (Num.rtB a b && Num.rtB c d) (a * d - c * b) (b * d))]) ∧ Below w.heap.size w w' := by
  cases r1 : Num.rtB a b
  · exact operate_no1 _ a b c d (fun w => right_not a b ha hb r1 w) w
  cases r2 : Num.rtB c d
  · exact operate_no2 _ a b c d (fun w => right_yes a b ha hb r1 w) (fun w => right_not c d hc hd r2 w) w
  obtain ⟨p1, p2, p3, p4, p5, p6⟩ := rt_parts ha hb r1
  obtain ⟨q1, q2, q3, q4, q5, q6⟩ := rt_parts hc hd r2
  refine operate_sub a b c d _ _ _ (fun w => right_yes a b ha hb r1 w) (fun w => right_yes c d hc hd r2 w) _ _ _ _ _ _ (fun w => frac_any a b ha hb w) (fun w => frac_any c d hc hd w) (fun w => subClosure_raw _ _ _ _ _ _ _ _ _ (fun w => ?_) w) w
  have := sum_any (decide (a < 0)) (!decide (c < 0)) (a.natAbs : Int) (b.natAbs : Int) (c.natAbs : Int) (d.natAbs : Int) p4 p5 (by omega) (by omega) q4 q5 (by omega) (by omega) p3 q3 w
  rw [Num.sgn_abs, Num.sgn_abs_neg] at this
  simp only [Num.opN, Num.opD, Num.opB, Bool.and_self, if_true, Bool.true_and]
  have e : a * d - c * b = a * d + -c * b := by rw [Int.neg_mul, Int.sub_eq_add_neg]
  rw [e]
  rw [p2, q2] at this ⊢
  exact this

theorem operate_mul_any (a b c d : Int) (ha : I64 a) (hb : I64 b) (hc : I64 c) (hd : I64 d) (w : World) :
    Calls Tryz.prog 43 #[ratV a b, ratV c d, .func (.func 45) #[] #[]] w fun e w' => e = .returned (.tuple #[ratV (Num.opN (Num.rtB a b && Num.rtB c d) (a * c) (b * d)) (Num.opD (Num.rtB a b && Num.rtB c d) (a * c) (b * d)), .bool (Num.opB (Num.rtB a b && Num.rtB c d) (a * c) (b * d))]) ∧ Below w.heap.size w w' := by
  cases r1 : Num.rtB a b
  · exact operate_no1 _ a b c d (fun w => right_not a b ha hb r1 w) w
  cases r2 : Num.rtB c d
  · exact operate_no2 _ a b c d (fun w => right_yes a b ha hb r1 w) (fun w => right_not c d hc hd r2 w) w
  obtain ⟨p1, p2, p3, p4, p5, p6⟩ := rt_parts ha hb r1
  obtain ⟨q1, q2, q3, q4, q5, q6⟩ := rt_parts hc hd r2
  refine operate_mul a b c d _ _ _ (fun w => right_yes a b ha hb r1 w) (fun w => right_yes c d hc hd r2 w) _ _ _ _ _ _ (fun w => frac_any a b ha hb w) (fun w => frac_any c d hc hd w) (fun w => ?_) w
  simp only [Num.opN, Num.opD, Num.opB, Bool.and_self, if_true, Bool.true_and]
  refine product_any (decide (a < 0)) (decide (c < 0)) (a.natAbs : Int) (b.natAbs : Int) (c.natAbs : Int) (d.natAbs : Int) p4 p5 (by omega) (by omega) q4 q5 (by omega) (by omega) p3 q3 (a * c) (b * d) ?_ ?_ w
  · have := Int.mul_pos (a := b) (b := d) (by omega) (by omega); omega
  · rw [Num.sgn_abs, Num.sgn_abs, p2, q2]

theorem gcd_comm (a b : Int) : Num.gcdI a b = Num.gcdI b a := by unfold Num.gcdI; rw [Nat.gcd_comm]
theorem ok_zero (n : Int) : Num.okB n 0 = false := by simp [Num.okB]

theorem operate_quo_any (a b c d : Int) (ha : I64 a) (hb : I64 b) (hc : I64 c) (hd : I64 d) (w : World) :
    Calls Tryz.prog 43 #[ratV a b, ratV c d, .func (.func 46) #[] #[]] w fun e w' => e = .returned (.tuple #[ratV (Num.opN (Num.rtB a b && Num.rtB c d) (a * d) (b * c)) (Num.opD (Num.rtB a b && Num.rtB c d) (a * d) (b * c)), .bool (Num.opB (Num.rtB a b && Num.rtB c d) (a * d) (b * c))]) ∧ Below w.heap.size w w' := by
  cases r1 : Num.rtB a b
  · exact operate_no1 _ a b c d (fun w => right_not a b ha hb r1 w) w
  cases r2 : Num.rtB c d
  · exact operate_no2 _ a b c d (fun w => right_yes a b ha hb r1 w) (fun w => right_not c d hc hd r2 w) w
  obtain ⟨p1, p2, p3, p4, p5, p6⟩ := rt_parts ha hb r1
  obtain ⟨q1, q2, q3, q4, q5, q6⟩ := rt_parts hc hd r2
  simp only [Num.opN, Num.opD, Num.opB, Bool.and_self, if_true, Bool.true_and]
  by_cases hz : c = 0
  · subst hz
    rw [Int.mul_zero]
    unfold Num.resN Num.resD; rw [ok_zero]
    refine operate_quo a b 0 d _ _ _ (fun w => right_yes a b ha hb r1 w) (fun w => right_yes 0 d hc hd r2 w) _ _ _ _ _ _ (fun w => frac_any a b ha hb w) (fun w => frac_any 0 d hc hd w) (fun w => ?_) w
    exact quoClosure_zero _ _ _ _ _ w
  · refine operate_quo a b c d _ _ _ (fun w => right_yes a b ha hb r1 w) (fun w => right_yes c d hc hd r2 w) _ _ _ _ _ _ (fun w => frac_any a b ha hb w) (fun w => frac_any c d hc hd w) (fun w => quoClosure_raw _ _ _ _ _ _ _ _ _ (by simp; omega) (fun w => ?_) w) w
    refine product_any (decide (a < 0)) (decide (c < 0)) (a.natAbs : Int) (b.natAbs : Int) (d.natAbs : Int) (c.natAbs : Int) p4 p5 (by omega) (by omega) (by omega) (by omega) (by omega) (by omega) p3 (by rw [gcd_comm]; exact q3) (a * d) (b * c) ?_ ?_ w
    · intro h0; rcases Int.mul_eq_zero.1 h0 with h | h <;> omega
    · rw [Num.sgn_abs, p2, q2]
      have e : Num.sgn (decide (c < 0)) d * c = d * (c.natAbs : Int) := by
        unfold Num.sgn
        by_cases h : c < 0
        · have : (c.natAbs : Int) = -c := by omega
          simp only [h, decide_true, if_true, this]; grind
        · have : (c.natAbs : Int) = c := by omega
          simp only [h, decide_false, this]; rfl
      generalize Num.sgn (decide (c < 0)) d = z at *
      have : a * z * (b * c) = a * b * (z * c) := by grind
      rw [this, e]; grind

def Num.cmpV (a b c d : Int) : Int := if Num.rtB a b && Num.rtB c d then Num.cmpI (a * d) (c * b) else 0
theorem operate_cmp_any (a b c d : Int) (ha : I64 a) (hb : I64 b) (hc : I64 c) (hd : I64 d) (w : World) :
    Calls Tryz.prog 43 #[ratV a b, ratV c d, .func (.func 48) #[] #[]] w fun e w' => e = .returned (.tuple #[ratV (Num.cmpV a b c d) 1, .bool (Num.rtB a b && Num.rtB c d)]) ∧ Below w.heap.size w w' := by
  unfold Num.cmpV
  cases r1 : Num.rtB a b
  · exact operate_no1 _ a b c d (fun w => right_not a b ha hb r1 w) w
  cases r2 : Num.rtB c d
  · exact operate_no2 _ a b c d (fun w => right_yes a b ha hb r1 w) (fun w => right_not c d hc hd r2 w) w
  obtain ⟨p1, p2, p3, p4, p5, p6⟩ := rt_parts ha hb r1
  obtain ⟨q1, q2, q3, q4, q5, q6⟩ := rt_parts hc hd r2
  refine operate_cmp a b c d _ _ _ (fun w => right_yes a b ha hb r1 w) (fun w => right_yes c d hc hd r2 w) _ _ _ _ _ _ (fun w => frac_any a b ha hb w) (fun w => frac_any c d hc hd w) (fun w => cmpClosure_raw _ _ _ _ _ _ _ (fun w => ?_) w) w
  have := compare_any (decide (a < 0)) (decide (c < 0)) (a.natAbs : Int) (b.natAbs : Int) (c.natAbs : Int) (d.natAbs : Int) p4 (by omega) (by omega) (by omega) q4 (by omega) (by omega) (by omega) (by simp; omega) (by simp; omega) w
  rw [Num.sgn_abs, Num.sgn_abs] at this
  simp only [Bool.and_self, if_true]
  rw [p2, q2] at this ⊢
  exact this
end Go.Proofs.YtnccllelmbcdcaaGreatDoor
