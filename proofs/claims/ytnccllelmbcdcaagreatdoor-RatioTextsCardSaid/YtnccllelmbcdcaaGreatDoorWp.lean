/-
  The exported operations of ratio but for texts, for all arguments.
-/
import Derived.Test.YtnccllelmbcdcaaGreatDoorWo
namespace Go.Proofs.YtnccllelmbcdcaaGreatDoor
open Go.RowKit

set_option maxHeartbeats 1000000 in
theorem add_any (a b c d : Int) (ha : I64 a) (hb : I64 b) (hc : I64 c) (hd : I64 d) (w : World) :
    Calls Tryz.prog 15 #[ratV a b, ratV c d] w fun e w' => e = .returned (.tuple #[ratV (Num.opN (Num.rtB a b && Num.rtB c d) (a * d + c * b) (b * d)) (Num.opD (Num.rtB a b && Num.rtB c d) (a * d + c * b) (b * d)), .bool (Num.opB (Num.rtB a b && Num.rtB c d) (a * d + c * b) (b * d))]) ∧ Below w.heap.size w w' := by
  have C := Lib.hid (fun w => operate_sum_any a b c d ha hb hc hd w)
  generalize (Num.opN (Num.rtB a b && Num.rtB c d) (a * d + c * b) (b * d)) = rn at *
  generalize (Num.opD (Num.rtB a b && Num.rtB c d) (a * d + c * b) (b * d)) = rd at *
  generalize (Num.opB (Num.rtB a b && Num.rtB c d) (a * d + c * b) (b * d)) = rb at *
  clear ha hb hc hd
  go_enter Tryz.func15, Tryz.ntmps15
  go_wp2_with fail
  refine (C.out _).mono ?_; rintro e w2 ⟨rfl, hb2⟩
  obtain ⟨sa, sb, sc, sd, se⟩ := box2 hb2 (w.heap.size + 1 + 1) (a := .int .i64 0) (b := .int .i64 0) (by simp [go_sem]) (by simp [go_sem]) (by simp [go_sem]) (by simp [go_sem]) (by simp) (by simp)
  have hB2 := hb2.mono (B' := w.heap.size) (by simp; omega); clear hb2
  go_wp2
  refine bodyPost_ret (v := .tuple #[ratV rn rd, .bool rb]) (by simp [results, Tryz.results15, go_sem, sa, sb]) rfl ⟨rfl, ?_⟩
  refine Below.setCell (Below.setCell (Below.trans ?_ hB2) ?_ _) ?_ _ <;> (repeat' (first | (with_reducible exact Below.refl _ _) | (with_reducible assumption) | (with_reducible refine bdn ?_ _) | (with_reducible refine Below.drew ?_) | (with_reducible refine Below.alloc ?_ ?_ _) | (with_reducible refine Below.setCell ?_ ?_ _) | go_size))

set_option maxHeartbeats 1000000 in
theorem sub_any (a b c d : Int) (ha : I64 a) (hb : I64 b) (hc : I64 c) (hd : I64 d) (w : World) :
    Calls Tryz.prog 26 #[ratV a b, ratV c d] w fun e w' => e = .returned (.tuple #[ratV (Num.opN (Num.rtB a b && Num.rtB c d) (a * d - c * b) (b * d)) (Num.opD (Num.rtB a b && Num.rtB c d) (a * d - c * b) (b * d)), .bool (Num.opB (Num.rtB a b && Num.rtB c d) (a * d - c * b) (b * d))]) ∧ Below w.heap.size w w' := by
  have C := Lib.hid (fun w => operate_sub_any a b c d ha hb hc hd w)
  generalize (Num.opN (Num.rtB a b && Num.rtB c d) (a * d - c * b) (b * d)) = rn at *
  generalize (Num.opD (Num.rtB a b && Num.rtB c d) (a * d - c * b) (b * d)) = rd at *
  generalize (Num.opB (Num.rtB a b && Num.rtB c d) (a * d - c * b) (b * d)) = rb at *
  clear ha hb hc hd
  go_enter Tryz.func26, Tryz.ntmps26
  go_wp2_with fail
  refine (C.out _).mono ?_; rintro e w2 ⟨rfl, hb2⟩
  obtain ⟨sa, sb, sc, sd, se⟩ := box2 hb2 (w.heap.size + 1 + 1) (a := .int .i64 0) (b := .int .i64 0) (by simp [go_sem]) (by simp [go_sem]) (by simp [go_sem]) (by simp [go_sem]) (by simp) (by simp)
  have hB2 := hb2.mono (B' := w.heap.size) (by simp; omega); clear hb2
  go_wp2
  refine bodyPost_ret (v := .tuple #[ratV rn rd, .bool rb]) (by simp [results, Tryz.results26, go_sem, sa, sb]) rfl ⟨rfl, ?_⟩
  refine Below.setCell (Below.setCell (Below.trans ?_ hB2) ?_ _) ?_ _ <;> (repeat' (first | (with_reducible exact Below.refl _ _) | (with_reducible assumption) | (with_reducible refine bdn ?_ _) | (with_reducible refine Below.drew ?_) | (with_reducible refine Below.alloc ?_ ?_ _) | (with_reducible refine Below.setCell ?_ ?_ _) | go_size))

set_option maxHeartbeats 1000000 in
theorem mul_any (a b c d : Int) (ha : I64 a) (hb : I64 b) (hc : I64 c) (hd : I64 d) (w : World) :
    Calls Tryz.prog 17 #[ratV a b, ratV c d] w fun e w' => e = .returned (.tuple #[ratV (Num.opN (Num.rtB a b && Num.rtB c d) (a * c) (b * d)) (Num.opD (Num.rtB a b && Num.rtB c d) (a * c) (b * d)), .bool (Num.opB (Num.rtB a b && Num.rtB c d) (a * c) (b * d))]) ∧ Below w.heap.size w w' := by
  have C := Lib.hid (fun w => operate_mul_any a b c d ha hb hc hd w)
  generalize (Num.opN (Num.rtB a b && Num.rtB c d) (a * c) (b * d)) = rn at *
  generalize (Num.opD (Num.rtB a b && Num.rtB c d) (a * c) (b * d)) = rd at *
  generalize (Num.opB (Num.rtB a b && Num.rtB c d) (a * c) (b * d)) = rb at *
  clear ha hb hc hd
  go_enter Tryz.func17, Tryz.ntmps17
  go_wp2_with fail
  refine (C.out _).mono ?_; rintro e w2 ⟨rfl, hb2⟩
  obtain ⟨sa, sb, sc, sd, se⟩ := box2 hb2 (w.heap.size + 1 + 1) (a := .int .i64 0) (b := .int .i64 0) (by simp [go_sem]) (by simp [go_sem]) (by simp [go_sem]) (by simp [go_sem]) (by simp) (by simp)
  have hB2 := hb2.mono (B' := w.heap.size) (by simp; omega); clear hb2
  go_wp2
  refine bodyPost_ret (v := .tuple #[ratV rn rd, .bool rb]) (by simp [results, Tryz.results17, go_sem, sa, sb]) rfl ⟨rfl, ?_⟩
  refine Below.setCell (Below.setCell (Below.trans ?_ hB2) ?_ _) ?_ _ <;> (repeat' (first | (with_reducible exact Below.refl _ _) | (with_reducible assumption) | (with_reducible refine bdn ?_ _) | (with_reducible refine Below.drew ?_) | (with_reducible refine Below.alloc ?_ ?_ _) | (with_reducible refine Below.setCell ?_ ?_ _) | go_size))

set_option maxHeartbeats 1000000 in
theorem quo_any (a b c d : Int) (ha : I64 a) (hb : I64 b) (hc : I64 c) (hd : I64 d) (w : World) :
    Calls Tryz.prog 18 #[ratV a b, ratV c d] w fun e w' => e = .returned (.tuple #[ratV (Num.opN (Num.rtB a b && Num.rtB c d) (a * d) (b * c)) (Num.opD (Num.rtB a b && Num.rtB c d) (a * d) (b * c)), .bool (Num.opB (Num.rtB a b && Num.rtB c d) (a * d) (b * c))]) ∧ Below w.heap.size w w' := by
  have C := Lib.hid (fun w => operate_quo_any a b c d ha hb hc hd w)
  generalize (Num.opN (Num.rtB a b && Num.rtB c d) (a * d) (b * c)) = rn at *
  generalize (Num.opD (Num.rtB a b && Num.rtB c d) (a * d) (b * c)) = rd at *
  generalize (Num.opB (Num.rtB a b && Num.rtB c d) (a * d) (b * c)) = rb at *
  clear ha hb hc hd
  go_enter Tryz.func18, Tryz.ntmps18
  go_wp2_with fail
  refine (C.out _).mono ?_; rintro e w2 ⟨rfl, hb2⟩
  obtain ⟨sa, sb, sc, sd, se⟩ := box2 hb2 (w.heap.size + 1 + 1) (a := .int .i64 0) (b := .int .i64 0) (by simp [go_sem]) (by simp [go_sem]) (by simp [go_sem]) (by simp [go_sem]) (by simp) (by simp)
  have hB2 := hb2.mono (B' := w.heap.size) (by simp; omega); clear hb2
  go_wp2
  refine bodyPost_ret (v := .tuple #[ratV rn rd, .bool rb]) (by simp [results, Tryz.results18, go_sem, sa, sb]) rfl ⟨rfl, ?_⟩
  refine Below.setCell (Below.setCell (Below.trans ?_ hB2) ?_ _) ?_ _ <;> (repeat' (first | (with_reducible exact Below.refl _ _) | (with_reducible assumption) | (with_reducible refine bdn ?_ _) | (with_reducible refine Below.drew ?_) | (with_reducible refine Below.alloc ?_ ?_ _) | (with_reducible refine Below.setCell ?_ ?_ _) | go_size))

set_option maxHeartbeats 1000000 in
theorem cmp_any (a b c d : Int) (ha : I64 a) (hb : I64 b) (hc : I64 c) (hd : I64 d) (w : World) :
    Calls Tryz.prog 22 #[ratV a b, ratV c d] w fun e w' => e = .returned (.int .i64 (Num.cmpV a b c d)) ∧ Below w.heap.size w w' := by
  have C := Lib.hid (fun w => operate_cmp_any a b c d ha hb hc hd w)
  generalize Num.cmpV a b c d = v at *
  generalize (Num.rtB a b && Num.rtB c d) = rb at *
  clear ha hb hc hd
  go_enter Tryz.func22, Tryz.ntmps22
  go_wp2_with fail
  refine (C.out _).mono ?_; rintro e w2 ⟨rfl, hb2⟩
  have hB2 := hb2.mono (B' := w.heap.size) (by simp; omega); clear hb2
  have hsz : w.heap.size ≤ w2.heap.size := by have := hB2.size; simp at this; omega
  go_wp2
  go_ret
  exact ⟨rfl, by repeat' (first | (with_reducible refine Below.trans ?_ hB2) | (with_reducible exact Below.refl _ _) | (with_reducible refine bdn ?_ _) | (with_reducible refine Below.drew ?_) | (with_reducible refine Below.alloc ?_ ?_ _) | (with_reducible refine Below.setCell ?_ ?_ _) | go_size)⟩

def Num.flr (a b : Int) : Int := if Num.rtB a b then a / b else 0
theorem Num.flr_pos {a b : Int} (hb : 1 ≤ b) : (a.tmod b < 0 → a.tdiv b - 1 = a / b) ∧ (¬ a.tmod b < 0 → a.tdiv b = a / b) := by
  have h1 := Int.tmod_add_mul_tdiv a b
  have h3 := Int.emod_nonneg a (b := b) (by omega)
  have h4 := Int.emod_lt_of_pos a (b := b) (by omega)
  have h2 := Int.emod_add_mul_ediv a b
  have hn : (b.natAbs : Int) = b := by omega
  have e : a.tmod b = _ := Int.tmod_eq_emod
  by_cases hc : 0 ≤ a ∨ b ∣ a
  · rw [if_pos hc] at e
    have e' : a.tmod b = a % b := by simpa using e
    rw [e'] at h1 ⊢
    have : b * a.tdiv b = b * (a / b) := by omega
    have := Int.eq_of_mul_eq_mul_left (by omega) this
    exact ⟨fun h => by omega, fun _ => this⟩
  · rw [if_neg hc] at e
    rw [hn] at e
    have : b * a.tdiv b = b * (a / b + 1) := by rw [Int.mul_add]; omega
    have := Int.eq_of_mul_eq_mul_left (by omega) this
    exact ⟨fun _ => by omega, fun h => by omega⟩

set_option maxHeartbeats 1000000 in
theorem floor_no (a b : Int) (hr : ∀ w, Calls Tryz.prog 31 #[ratV a b] w fun e w' => e = .returned (.bool false) ∧ ∃ nq, w' = (w.alloc (.cells #[.int .i64 a, .int .i64 b] 25)).drewN nq) (w : World) :
    Calls Tryz.prog 21 #[ratV a b] w fun e w' => e = .returned (.int .i64 0) ∧ Below w.heap.size w w' := by
  have R := Lib.hid hr; clear hr
  go_enter Tryz.func21, Tryz.ntmps21
  go_wp2_with fail
  refine (R.out _).mono ?_; rintro e w' ⟨rfl, nq, rfl⟩
  go_wp2
  go_ret
  exact ⟨rfl, by (repeat' (first | (with_reducible exact Below.refl _ _) | (with_reducible assumption) | (with_reducible refine bdn ?_ _) | (with_reducible refine Below.drew ?_) | (with_reducible refine Below.alloc ?_ ?_ _) | (with_reducible refine Below.setCell ?_ ?_ _) | go_size))⟩
set_option maxHeartbeats 1000000 in
theorem floor_raw (a b f : Int) (hr : ∀ w, Calls Tryz.prog 31 #[ratV a b] w fun e w' => e = .returned (.bool true) ∧ ∃ nq, w' = (w.alloc (.cells #[.int .i64 a, .int .i64 b] 25)).drewN nq)
    (hb : ¬ b = 0) (f1 : a.tmod b < 0 → wrap64 (wrap64 (a.tdiv b) - 1) = f) (f2 : ¬ a.tmod b < 0 → wrap64 (a.tdiv b) = f) (w : World) :
    Calls Tryz.prog 21 #[ratV a b] w fun e w' => e = .returned (.int .i64 f) ∧ Below w.heap.size w w' := by
  have R := Lib.hid hr; have F1 := Lib.hid f1; have F2 := Lib.hid f2; clear hr f1 f2
  go_enter Tryz.func21, Tryz.ntmps21
  go_wp2_with fail
  refine (R.out _).mono ?_; rintro e w' ⟨rfl, nq, rfl⟩
  go_wp2
  · go_ret
    exact ⟨ret_int (F1.out (by first | assumption | omega)), by (repeat' (first | (with_reducible exact Below.refl _ _) | (with_reducible assumption) | (with_reducible refine bdn ?_ _) | (with_reducible refine Below.drew ?_) | (with_reducible refine Below.alloc ?_ ?_ _) | (with_reducible refine Below.setCell ?_ ?_ _) | go_size))⟩
  · go_ret
    exact ⟨ret_int (F2.out (by first | assumption | omega)), by (repeat' (first | (with_reducible exact Below.refl _ _) | (with_reducible assumption) | (with_reducible refine bdn ?_ _) | (with_reducible refine Below.drew ?_) | (with_reducible refine Below.alloc ?_ ?_ _) | (with_reducible refine Below.setCell ?_ ?_ _) | go_size))⟩

theorem floor_any (a b : Int) (ha : I64 a) (hb : I64 b) (w : World) :
    Calls Tryz.prog 21 #[ratV a b] w fun e w' => e = .returned (.int .i64 (Num.flr a b)) ∧ Below w.heap.size w w' := by
  unfold Num.flr
  cases r1 : Num.rtB a b
  · exact floor_no a b (fun w => right_not a b ha hb r1 w) w
  obtain ⟨p1, p2, p3, p4, p5, p6⟩ := rt_parts ha hb r1
  have F := Num.flr_pos (a := a) p1
  have l1 : -9223372036854775808 ≤ a / b := by
    have := ha.1
    rcases Int.lt_or_le a 0 with h | h
    · have : b * (-9223372036854775808) ≤ 1 * (-9223372036854775808) := Int.mul_le_mul_of_nonpos_right (by omega) (by omega)
      exact Int.le_ediv_of_mul_le (by omega) (by rw [Int.mul_comm]; omega)
    · have := Int.ediv_nonneg h (b := b) (by omega); omega
  have l2 : a / b ≤ 9223372036854775807 := by
    have := ha.2
    rcases Int.lt_or_le a 0 with h | h
    · have := Int.ediv_neg_of_neg_of_pos h (b := b) (by omega); omega
    · have := Int.ediv_le_self b h; omega
  refine floor_raw a b _ (fun w => right_yes a b ha hb r1 w) (by omega) (fun h => ?_) (fun h => ?_) w
  · have e := F.1 h
    rw [← IntWalk.i64_left, ← IntWalk.i64_left, IntKind.wrap_i64, IntKind.wrap_i64]; simp only [if_true]; omega
  · have e := F.2 h
    rw [← IntWalk.i64_left, IntKind.wrap_i64]; simp only [if_true]; omega

set_option maxHeartbeats 1000000 in
theorem make_zero (n : Int) (w : World) :
    Calls Tryz.prog 14 #[.int .i64 n, .int .i64 0] w fun e w' => e = .returned (.tuple #[ratV 0 1, .bool false]) ∧ Below w.heap.size w w' := by
  go_enter Tryz.func14, Tryz.ntmps14
  go_wp2_with fail
  refine (noNumber_any _).mono ?_; rintro e w2 ⟨rfl, hb2⟩
  obtain ⟨sa, sb, sc, sd, se⟩ := box2 hb2 w.heap.size (a := .int .i64 0) (b := .int .i64 0) (by simp [go_sem]) (by simp [go_sem]) (by simp [go_sem]) (by simp [go_sem]) (by simp) (by simp)
  have hB2 := hb2.mono (B' := w.heap.size) (by simp); clear hb2
  go_wp2
  refine bodyPost_ret (v := .tuple #[ratV 0 1, .bool false]) (by simp [results, Tryz.results14, go_sem, sa, sb]) rfl ⟨rfl, ?_⟩
  refine Below.setCell (Below.setCell (Below.trans ?_ hB2) ?_ _) ?_ _ <;> (repeat' (first | (with_reducible exact Below.refl _ _) | (with_reducible assumption) | (with_reducible refine bdn ?_ _) | (with_reducible refine Below.drew ?_) | (with_reducible refine Below.alloc ?_ ?_ _) | (with_reducible refine Below.setCell ?_ ?_ _) | go_size))

set_option maxHeartbeats 1000000 in
theorem make_raw (n d x y g xq yq rn rd : Int) (rb : Bool) (hd : (d == 0) = false) (gz : ¬ g = 0)
    (c1 : ∀ w, Calls Tryz.prog 40 #[.int .i64 n] w fun e w' => e = .returned (.int .u64 x) ∧ w' = w)
    (c2 : ∀ w, Calls Tryz.prog 40 #[.int .i64 d] w fun e w' => e = .returned (.int .u64 y) ∧ w' = w)
    (c3 : ∀ w, Calls Tryz.prog 41 #[.int .u64 x, .int .u64 y] w fun e w' => e = .returned (.int .u64 g) ∧ ∃ nq, w' = w.drewN nq)
    (q1 : IntKind.u64.wrap (x.tdiv g) = xq) (q2 : IntKind.u64.wrap (y.tdiv g) = yq)
    (c4 : ∀ w, Calls Tryz.prog 42 #[.bool (decide (n < 0) != decide (d < 0)), .agg #[.int .u64 0, .int .u64 xq], .agg #[.int .u64 0, .int .u64 yq]] w fun e w' => e = .returned (.tuple #[ratV rn rd, .bool rb]) ∧ Below w.heap.size w w') (w : World) :
    Calls Tryz.prog 14 #[.int .i64 n, .int .i64 d] w fun e w' => e = .returned (.tuple #[ratV rn rd, .bool rb]) ∧ Below w.heap.size w w' := by
  have C1 := Lib.hid c1; have C2 := Lib.hid c2; have C3 := Lib.hid c3; have C4 := Lib.hid c4
  clear c1 c2 c3 c4
  go_enter Tryz.func14, Tryz.ntmps14
  go_wp2_with fail
  refine (C1.out _).mono ?_; rintro e w' ⟨rfl, rfl⟩
  go_wp2_with fail
  refine (C2.out _).mono ?_; rintro e w' ⟨rfl, rfl⟩
  go_wp2_with fail
  refine (C3.out _).mono ?_; rintro e w' ⟨rfl, nq, rfl⟩
  go_upto_region 5 with fail
  go_region_held3 (fun _ => True) (trivial)
    (first | (go_at_call 42; refine (C4.out _).mono ?_; rintro e w6 ⟨rfl, hb6⟩; obtain ⟨ya, yb, yc, yd, ye⟩ := box2 hb6 w.heap.size (a := .int .i64 0) (b := .int .i64 0) (by simp [go_sem]) (by simp [go_sem]) (by simp [go_sem]) (by simp [go_sem]) (by simp) (by simp); have hB6 := hb6.mono (B' := w.heap.size) (by simp); clear hb6))
  all_goals
    go_wp2
    refine bodyPost_ret (v := .tuple #[ratV rn rd, .bool rb]) (by simp [results, Tryz.results14, go_sem, ya, yb]) rfl ⟨rfl, ?_⟩
    repeat' (first | (with_reducible exact Below.refl _ _) | (with_reducible refine Below.trans ?_ hB6) | (with_reducible refine bdn ?_ _) | (with_reducible refine Below.drew ?_) | (with_reducible refine Below.alloc ?_ ?_ _) | (with_reducible refine Below.setCell ?_ ?_ _) | go_size)

theorem Num.make_low {n d g : Int} (hd : d ≠ 0) (hg : g = Num.gcdI (n.natAbs : Int) (d.natAbs : Int)) :
    Num.gcdI ((n.natAbs : Int) / g) ((d.natAbs : Int) / g) = 1 ∧ 0 < (d.natAbs : Int) / g ∧ 0 ≤ (n.natAbs : Int) / g ∧
      Num.sgn (decide (n < 0) != decide (d < 0)) ((n.natAbs : Int) / g) * d = n * ((d.natAbs : Int) / g) := by
  have hp : 0 < Nat.gcd n.natAbs d.natAbs := Nat.gcd_pos_of_pos_right _ (by omega)
  have c1 : Nat.gcd (n.natAbs / Nat.gcd n.natAbs d.natAbs) (d.natAbs / Nat.gcd n.natAbs d.natAbs) = 1 := Nat.coprime_div_gcd_div_gcd hp
  have d1 : n.natAbs = Nat.gcd n.natAbs d.natAbs * (n.natAbs / Nat.gcd n.natAbs d.natAbs) := (Nat.mul_div_cancel' (Nat.gcd_dvd_left ..)).symm
  have d2 : d.natAbs = Nat.gcd n.natAbs d.natAbs * (d.natAbs / Nat.gcd n.natAbs d.natAbs) := (Nat.mul_div_cancel' (Nat.gcd_dvd_right ..)).symm
  unfold Num.gcdI at hg
  rw [Int.toNat_natCast, Int.toNat_natCast] at hg
  subst hg
  rw [← Int.natCast_ediv, ← Int.natCast_ediv]
  generalize Nat.gcd n.natAbs d.natAbs = g at *
  generalize n.natAbs / g = x at *
  generalize d.natAbs / g = y at *
  have hy : 0 < y := by rcases Nat.eq_zero_or_pos y with h | h; · subst h; simp at d2; omega
                        · exact h
  refine ⟨?_, by omega, by omega, ?_⟩
  · unfold Num.gcdI; rw [Int.toNat_natCast, Int.toNat_natCast]; exact_mod_cast c1
  · have e1 : n = Num.sgn (decide (n < 0)) ((g : Int) * x) := by
      conv => lhs; rw [← Num.sgn_abs n, d1]
      simp
    have e2 : d = Num.sgn (decide (d < 0)) ((g : Int) * y) := by
      conv => lhs; rw [← Num.sgn_abs d, d2]
      simp
    generalize decide (n < 0) = s at *
    generalize decide (d < 0) = t at *
    rw [e1, e2]
    cases s <;> cases t <;> simp [Num.sgn] <;> grind

theorem make_any (n d : Int) (hn : I64 n) (hd : I64 d) (w : World) :
    Calls Tryz.prog 14 #[.int .i64 n, .int .i64 d] w fun e w' => e = .returned (.tuple #[ratV (Num.resN n d) (Num.resD n d), .bool (Num.okB n d)]) ∧ Below w.heap.size w w' := by
  by_cases hz : d = 0
  · subst hz
    unfold Num.resN Num.resD; rw [ok_zero]
    exact make_zero n w
  obtain ⟨n1, n2⟩ := hn
  obtain ⟨d1, d2⟩ := hd
  have L := Num.make_low (n := n) hz rfl
  have G := Num.gcd_pos (a := (n.natAbs : Int)) (b := (d.natAbs : Int)) (by omega) (by omega)
  have F := Num.fit_eq (n := n) (d := d) (s := (decide (n < 0) != decide (d < 0))) hz L.2.2.1 L.2.1 L.1 L.2.2.2
  have X := Num.div_lt (a := (n.natAbs : Int)) (by omega) (by omega) G.1
  have Y := Num.div_lt (a := (d.natAbs : Int)) (by omega) (by omega) G.1
  rw [← F.1, ← F.2.1, ← F.2.2]
  refine make_raw n d _ _ (Num.gcdI (n.natAbs : Int) (d.natAbs : Int)) _ _ _ _ _ (by simp [hz]) (by omega) (fun w => (magnitude_any n n1 n2 w).mono fun _ _ h => ⟨h.1, h.2.symm⟩) (fun w => (magnitude_any d d1 d2 w).mono fun _ _ h => ⟨h.1, h.2.symm⟩) (fun w => gcd_any _ _ (by omega) (by omega) (by omega) (by omega) w)
    (Num.quo_eq (by omega) (by omega) G.1) (Num.quo_eq (by omega) (by omega) G.1) (fun w => ?_) w
  have h1 : ∀ x : Int, 0 ≤ x ∧ x < 18446744073709551616 → Value.agg #[.int .u64 0, .int .u64 x] = wideV x := by
    intro x hx
    have e1 : Num.hi x = 0 := by unfold Num.hi; omega
    have e2 : Num.lo x = x := by unfold Num.lo; omega
    unfold wideV; rw [e1, e2]
  rw [h1 _ X, h1 _ Y]
  exact fit_any _ _ _ L.2.2.1 (Int.le_of_lt L.2.1) w
end Go.Proofs.YtnccllelmbcdcaaGreatDoor
