import Derived.Test.YtokmfgpbfhfafaaGreatDoorRy
import Derived.Test.YtokmfgpbfhfafaaGreatDoorWp
/- The reference of layer 1: both, tiny, Floor. Condition: the arguments are ints. -/
namespace Go.Proofs.YtokmfgpbfhfafaaGreatDoor
open Go.RowKit

theorem refRight_c (n d : Int) (r : Bool) (hn : I64 n) (hd : I64 d) (h : Num.rtB n d = r) (w : World) :
    Calls Tryz.prog 32 #[ratV n d] w fun e w' => e = .returned (.bool r) ∧ Below w.heap.size w w' := by
  rw [← h]; exact refRight_any n d hn.1 hn.2 hd.2 w

set_option maxHeartbeats 1600000 in
theorem both_c (a b c d : Int) (p q : Bool) (ha : I64 a) (hb : I64 b) (hc : I64 c) (hd : I64 d) (h1 : Num.rtB a b = p) (h2 : Num.rtB c d = q) (w : World) :
    Calls Tryz.prog 54 #[ratV a b, ratV c d] w fun e w' => e = .returned (.bool (p && q)) ∧ Below w.heap.size w w' := by
  have H := Lib.hid (And.intro ha (And.intro hb (And.intro hc hd))); have G1 := Lib.hid h1; have G2 := Lib.hid h2
  clear ha hb hc hd h1 h2
  go_enter Tryz.func54, Tryz.ntmps54
  go_wp2_with fail
  refine (refRight_c a b p H.out.1 H.out.2.1 G1.out _).mono ?_; rintro e w1 ⟨rfl, hb⟩
  have x0 := bk hb (w.heap.size + 1) 0 (v := .int .i64 c) (by simp [go_sem]) (by simp)
  have x1 := bk hb (w.heap.size + 1) 1 (v := .int .i64 d) (by simp [go_sem]) (by simp)
  have K1 : Hid (Below w.heap.size w w1) := Lib.hid (Below.trans (by (repeat' (first | (with_reducible exact Below.refl _ _) | (with_reducible assumption) | (with_reducible refine bdn ?_ _) | (with_reducible refine Below.drew ?_) | (with_reducible refine Below.alloc ?_ ?_ _) | (with_reducible refine Below.setCell ?_ ?_ _) | go_size))) (hb.mono (B' := w.heap.size) (by simp; omega)))
  clear hb
  go_wp2_with fail
  refine (refRight_c c d q H.out.2.2.1 H.out.2.2.2 G2.out _).mono ?_; rintro e w2 ⟨rfl, hb⟩
  have K2 := Lib.hid (K1.out.trans (hb.mono K1.out.size))
  clear hb x0 x1
  cases p <;> cases q
  all_goals
    go_wp2
    go_ret
    exact ⟨rfl, K2.out⟩

def tinyB (a b c d : Int) : Bool := smB a && smB b && smB c && smB d
set_option maxHeartbeats 1600000 in
theorem tiny_c (a b c d : Int) (t : Bool) (ht : tinyB a b c d = t) (w : World) :
    Calls Tryz.prog 55 #[ratV a b, ratV c d] w fun e w' => e = .returned (.bool t) ∧ Below w.heap.size w w' := by
  obtain ⟨p, h1⟩ : ∃ p, smB a = p := ⟨_, rfl⟩
  obtain ⟨q, h2⟩ : ∃ p, smB b = p := ⟨_, rfl⟩
  obtain ⟨r, h3⟩ : ∃ p, smB c = p := ⟨_, rfl⟩
  obtain ⟨s, h4⟩ : ∃ p, smB d = p := ⟨_, rfl⟩
  unfold tinyB at ht
  rw [h1, h2, h3, h4] at ht
  have G1 := Lib.hid h1; have G2 := Lib.hid h2; have G3 := Lib.hid h3; have G4 := Lib.hid h4; have HT := Lib.hid ht
  clear h1 h2 h3 h4 ht
  go_enter Tryz.func55, Tryz.ntmps55
  go_wp2_with fail
  refine (small_c a p G1.out _).mono ?_; rintro e w1 ⟨rfl, rfl⟩
  cases p
  · go_wp2
    go_ret
    exact ⟨by rw [← HT.out]; rfl, by (repeat' (first | (with_reducible exact Below.refl _ _) | (with_reducible assumption) | (with_reducible refine bdn ?_ _) | (with_reducible refine Below.drew ?_) | (with_reducible refine Below.alloc ?_ ?_ _) | (with_reducible refine Below.setCell ?_ ?_ _) | go_size))⟩
  · go_wp2_with fail
    refine (small_c b q G2.out _).mono ?_; rintro e w1 ⟨rfl, rfl⟩
    cases q
    · go_wp2
      go_ret
      exact ⟨by rw [← HT.out]; rfl, by (repeat' (first | (with_reducible exact Below.refl _ _) | (with_reducible assumption) | (with_reducible refine bdn ?_ _) | (with_reducible refine Below.drew ?_) | (with_reducible refine Below.alloc ?_ ?_ _) | (with_reducible refine Below.setCell ?_ ?_ _) | go_size))⟩
    · go_wp2_with fail
      refine (small_c c r G3.out _).mono ?_; rintro e w1 ⟨rfl, rfl⟩
      cases r
      · go_wp2
        go_ret
        exact ⟨by rw [← HT.out]; rfl, by (repeat' (first | (with_reducible exact Below.refl _ _) | (with_reducible assumption) | (with_reducible refine bdn ?_ _) | (with_reducible refine Below.drew ?_) | (with_reducible refine Below.alloc ?_ ?_ _) | (with_reducible refine Below.setCell ?_ ?_ _) | go_size))⟩
      · go_wp2_with fail
        refine (small_c d s G4.out _).mono ?_; rintro e w1 ⟨rfl, rfl⟩
        cases s
        all_goals
          go_wp2
          go_ret
          exact ⟨by rw [← HT.out]; rfl, by (repeat' (first | (with_reducible exact Below.refl _ _) | (with_reducible assumption) | (with_reducible refine bdn ?_ _) | (with_reducible refine Below.drew ?_) | (with_reducible refine Below.alloc ?_ ?_ _) | (with_reducible refine Below.setCell ?_ ?_ _) | go_size))⟩

set_option maxHeartbeats 1600000 in
theorem refFloor_c (a b f : Int) (ha : I64 a) (hb : I64 b) (h : Num.flr a b = f) (w : World) :
    Calls Tryz.prog 33 #[ratV a b] w fun e w' => e = .returned (.int .i64 f) ∧ Below w.heap.size w w' := by
  obtain ⟨r, hr⟩ : ∃ r, Num.rtB a b = r := ⟨_, rfl⟩
  have H := Lib.hid (And.intro ha hb); have G := Lib.hid hr; have HF := Lib.hid h; clear ha hb h
  cases r
  · clear hr
    have e0 : f = 0 := by rw [← HF.out]; unfold Num.flr; rw [G.out]; rfl
    have E0 := Lib.hid e0; clear e0
    go_enter Tryz.func33, Tryz.ntmps33
    go_wp2_with fail
    refine (refRight_c a b false H.out.1 H.out.2 G.out _).mono ?_; rintro e w1 ⟨rfl, hb⟩
    have K1 : Hid (Below w.heap.size w w1) := Lib.hid (Below.trans (by (repeat' (first | (with_reducible exact Below.refl _ _) | (with_reducible assumption) | (with_reducible refine bdn ?_ _) | (with_reducible refine Below.drew ?_) | (with_reducible refine Below.alloc ?_ ?_ _) | (with_reducible refine Below.setCell ?_ ?_ _) | go_size))) (hb.mono (B' := w.heap.size) (by simp)))
    clear hb
    go_wp2
    go_ret
    exact ⟨by rw [E0.out]; rfl, K1.out⟩
  · have FA := Num.flr_all hr H.out.1.1 H.out.1.2 H.out.2.2
    rw [HF.out] at FA
    have FB := Lib.hid (And.intro FA.2.2.2.2.1 FA.2.2.2.2.2); clear FA
    have pb := Num.rt_pos hr
    have FP := Num.flr_pos (a := a) pb
    have fe : a / b = f := by rw [← HF.out]; unfold Num.flr; rw [hr]; rfl
    rw [fe] at FP
    have FP := Lib.hid FP; have FE := Lib.hid fe
    clear hr fe
    obtain ⟨q, hq⟩ : ∃ q, a.tdiv b = q := ⟨_, rfl⟩
    obtain ⟨m, hm⟩ : ∃ m, a.tmod b = m := ⟨_, rfl⟩
    have FP2 := FP.out; rw [hq, hm] at FP2
    have ml := (tmod_tmod a b (by omega)).2; rw [hm] at ml
    have pb2 := H.out.2.2
    have z1 : IntKind.i64.wrap m = m := by rw [IntKind.wrap_i64]; omega
    have qb : -9223372036854775808 ≤ q ∧ q ≤ 9223372036854775807 := by
      have e := Int.mul_tdiv_add_tmod a b
      rw [hq, hm] at e
      have ab := H.out.1
      have hab : q.natAbs ≤ a.natAbs := by rw [← hq, Int.natAbs_tdiv]; exact Nat.div_le_self _ _
      obtain ⟨a1, a2⟩ := ab
      by_cases hx : q = 9223372036854775808
      · rw [hx] at e; omega
      · omega
    have z2 : wrap64 q = q := by unfold wrap64; omega
    have Z2 := Lib.hid z2
    have z0 : ¬ b = 0 := by omega
    have FP2 := Lib.hid FP2; have QB := Lib.hid qb; have ML := Lib.hid ml; have PB := Lib.hid (And.intro pb pb2); clear qb ml pb pb2
    go_enter Tryz.func33, Tryz.ntmps33
    go_wp2_with fail
    refine (refRight_c a b true H.out.1 H.out.2 G.out _).mono ?_; rintro e w1 ⟨rfl, hb⟩
    have x0 := bk hb w.heap.size 0 (v := .int .i64 a) (by simp [go_sem]) (by simp)
    have x1 := bk hb w.heap.size 1 (v := .int .i64 b) (by simp [go_sem]) (by simp)
    have K1 : Hid (Below w.heap.size w w1) := Lib.hid (Below.trans (by (repeat' (first | (with_reducible exact Below.refl _ _) | (with_reducible assumption) | (with_reducible refine bdn ?_ _) | (with_reducible refine Below.drew ?_) | (with_reducible refine Below.alloc ?_ ?_ _) | (with_reducible refine Below.setCell ?_ ?_ _) | go_size))) (hb.mono (B' := w.heap.size) (by simp)))
    clear hb
    by_cases h : m < 0
    · have e1 := FP2.out.1 h
      have z3 : wrap64 (q - 1) = f := by rw [e1]; unfold wrap64; have := FB.out; omega
      have z4 : wrap64 f = f := by unfold wrap64; have := FB.out; omega
      have E1 := Lib.hid e1; clear e1
      go_wp2
      go_ret
      exact ⟨by first | rfl | (rw [E1.out]; rfl) | (simp [*]; done), K1.out⟩
    · have e1 := FP2.out.2 (by omega)
      have E1 := Lib.hid e1; clear e1
      go_wp2
      go_ret
      exact ⟨by first | rfl | exact ret_int (Z2.out.trans E1.out) | exact ret_int (by have := FB.out; have := E1.out; unfold wrap64; omega), K1.out⟩
end Go.Proofs.YtokmfgpbfhfafaaGreatDoor

/- The reference of layer 1: Mul. Condition: the arguments are ints. -/
namespace Go.Proofs.YtokmfgpbfhfafaaGreatDoor
open Go.RowKit

/-- What an operation's boxes hold: both arguments, and the result's box, as it was made. -/
def Bun (w u : World) (a b c d : Int) : Prop :=
  (u.cell? ⟨w.heap.size, 0, none⟩ = some (.int .i64 a) ∧ u.cell? ⟨w.heap.size, 1, none⟩ = some (.int .i64 b) ∧ u.cell? ⟨w.heap.size + 1, 0, none⟩ = some (.int .i64 c) ∧ u.cell? ⟨w.heap.size + 1, 1, none⟩ = some (.int .i64 d)) ∧
    (u.cell? ⟨w.heap.size + 1 + 1, 0, none⟩ = some (.int .i64 0) ∧ u.cell? ⟨w.heap.size + 1 + 1, 1, none⟩ = some (.int .i64 0) ∧ u.frozen? ⟨w.heap.size + 1 + 1, 0, none⟩ = false ∧ u.frozen? ⟨w.heap.size + 1 + 1, 1, none⟩ = false) ∧
    w.heap.size + 1 + 1 < u.heap.size ∧ Below w.heap.size w u
theorem Bun.below {w u u' : World} {a b c d : Int} (h : Bun w u a b c d) (hb : Below u.heap.size u u') : Bun w u' a b c d := by
  obtain ⟨⟨h0, h1, h2, h3⟩, ⟨g0, g1, g2, g3⟩, hs, hB⟩ := h
  exact ⟨⟨bk hb _ _ h0 (by omega), bk hb _ _ h1 (by omega), bk hb _ _ h2 (by omega), bk hb _ _ h3 (by omega)⟩, ⟨bk hb _ _ g0 hs, bk hb _ _ g1 hs, bf hb _ _ g2 hs, bf hb _ _ g3 hs⟩, bs hb hs, hB.trans (hb.mono hB.size)⟩
theorem Bun.start (w : World) (a b c d : Int) (t : TypeId) : Bun w (((w.alloc (.cells #[.int .i64 a, .int .i64 b] t)).alloc (.cells #[.int .i64 c, .int .i64 d] t)).alloc (.cells #[.int .i64 0, .int .i64 0] t)) a b c d := by
  refine ⟨⟨?_, ?_, ?_, ?_⟩, ⟨?_, ?_, ?_, ?_⟩, by simp, ?_⟩
  all_goals first | (simp [go_sem]; done) | (repeat' (first | (with_reducible exact Below.refl _ _) | (with_reducible assumption) | (with_reducible refine bdn ?_ _) | (with_reducible refine Below.drew ?_) | (with_reducible refine Below.alloc ?_ ?_ _) | (with_reducible refine Below.setCell ?_ ?_ _) | go_size))
theorem Bun.done {w u : World} {a b c d : Int} (h : Bun w u a b c d) (x y : Value) : Below w.heap.size w ((u.setCell ⟨w.heap.size + 1 + 1, 0, none⟩ x).setCell ⟨w.heap.size + 1 + 1, 1, none⟩ y) :=
  (h.2.2.2.setCell (p := ⟨w.heap.size + 1 + 1, 0, none⟩) (by simp; omega) x).setCell (p := ⟨w.heap.size + 1 + 1, 1, none⟩) (by simp; omega) y

theorem sgn_mul (a b : Int) : Num.sgn (decide (a < 0) != decide (b < 0)) ((a.natAbs : Int) * (b.natAbs : Int)) = a * b := by
  have e : a * b = Num.sgn (decide (a < 0)) (a.natAbs : Int) * Num.sgn (decide (b < 0)) (b.natAbs : Int) := by rw [Num.sgn_abs, Num.sgn_abs]
  rw [e]
  cases decide (a < 0) <;> cases decide (b < 0) <;> simp [Num.sgn] <;> grind
theorem small_mul {a b : Int} (ha : -1000000000 < a ∧ a < 1000000000) (hb : -1000000000 < b ∧ b < 1000000000) : -1000000000000000000 ≤ a * b ∧ a * b ≤ 1000000000000000000 := by
  have h : (a * b).natAbs ≤ 1000000000 * 1000000000 := by rw [Int.natAbs_mul]; exact Nat.mul_le_mul (by omega) (by omega)
  omega
theorem tiny_parts {a b c d : Int} (h : tinyB a b c d = true) : (-1000000000 < a ∧ a < 1000000000) ∧ (-1000000000 < b ∧ b < 1000000000) ∧ (-1000000000 < c ∧ c < 1000000000) ∧ (-1000000000 < d ∧ d < 1000000000) := by
  unfold tinyB at h
  simp only [Bool.and_eq_true] at h
  exact ⟨smB_b h.1.1.1, smB_b h.1.1.2, smB_b h.1.2, smB_b h.2⟩
theorem den_pos {b d : Int} (h : b * d ≠ 0) : 0 < (b.natAbs : Int) * (d.natAbs : Int) := by
  have hb : b ≠ 0 := fun e => h (by rw [e]; simp)
  have hd : d ≠ 0 := fun e => h (by rw [e]; simp)
  exact Int.mul_pos (by omega) (by omega)
theorem abs_lt {a : Int} (h : I64 a) : (a.natAbs : Int) < 18446744073709551616 := by have := h.1; have := h.2; omega
theorem len8 {l : List Int} {a b : Int} (ht : Dig.Trim l) (ha : I64 a) (hb : I64 b) (h : Dig.val l = (a.natAbs : Int) * (b.natAbs : Int)) : l.length ≤ 8 := by
  refine len_of_val ht ?_
  have h8 : Dig.pw 8 = 340282366920938463463374607431768211456 := by decide
  have := Num.mul_small (a := (a.natAbs : Int)) (b := (b.natAbs : Int)) (by omega) (abs_lt ha) (by omega) (abs_lt hb)
  omega

set_option maxHeartbeats 8000000 in
set_option maxRecDepth 100000 in
theorem refMul_no (a b c d : Int) (ha : I64 a) (hb : I64 b) (hc : I64 c) (hd : I64 d) (p q : Bool) (h1 : Num.rtB a b = p) (h2 : Num.rtB c d = q) (hpq : (p && q) = false) (w : World) :
    Calls Tryz.prog 28 #[ratV a b, ratV c d] w fun e w' => e = .returned (.tuple #[ratV 0 1, .bool false]) ∧ Below w.heap.size w w' := by
  have HI := Lib.hid (And.intro ha (And.intro hb (And.intro hc hd))); clear ha hb hc hd
  have G1 := Lib.hid h1; have G2 := Lib.hid h2; clear h1 h2
  go_enter Tryz.func28, Tryz.ntmps28
  have B0 := Lib.hid (Bun.start w a b c d 25)
  obtain ⟨⟨xx0, xx1, xx2, xx3⟩, -, -, -⟩ := B0.out
  go_wp2_with fail
  refine (both_c a b c d p q HI.out.1 HI.out.2.1 HI.out.2.2.1 HI.out.2.2.2 G1.out G2.out _).mono ?_; rintro e w1 ⟨rfl, hb⟩
  have B1 := Lib.hid (B0.out.below hb); clear hb xx0 xx1 xx2 xx3
  obtain ⟨⟨xx0, xx1, xx2, xx3⟩, -, -, -⟩ := B1.out
  rw [hpq]
  go_wp2_with fail
  refine (refOf_any 0 _).mono ?_; rintro e w2 ⟨rfl, hb⟩
  have B2 := Lib.hid (B1.out.below hb); clear hb xx0 xx1 xx2 xx3
  obtain ⟨-, ⟨yy0, yy1, yy2, yy3⟩, yz, -⟩ := B2.out
  go_wp2
  exact bodyPost_ret (v := .tuple #[ratV 0 1, .bool false]) (by simp [results, Tryz.results28, go_sem, yy0, yy1]) rfl ⟨rfl, B2.out.done _ _⟩

set_option maxHeartbeats 8000000 in
set_option maxRecDepth 100000 in
theorem refMul_tiny (a b c d : Int) (ha : I64 a) (hb : I64 b) (hc : I64 c) (hd : I64 d) (h1 : Num.rtB a b = true) (h2 : Num.rtB c d = true) (ht : tinyB a b c d = true) (hD : b * d ≠ 0) (w : World) :
    Calls Tryz.prog 28 #[ratV a b, ratV c d] w fun e w' => e = .returned (.tuple #[ratV (Num.lowN (a * c) (b * d)) (Num.lowD (a * c) (b * d)), .bool true]) ∧ Below w.heap.size w w' := by
  have HI := Lib.hid (And.intro ha (And.intro hb (And.intro hc hd))); clear ha hb hc hd
  have G1 := Lib.hid h1; have G2 := Lib.hid h2; have G3 := Lib.hid ht; have G4 := Lib.hid hD
  have TP := tiny_parts ht
  have s1 := small_mul TP.1 TP.2.2.1
  have s2 := small_mul TP.2.1 TP.2.2.2
  have z1 : IntKind.i64.wrap (a * c) = a * c := by rw [IntKind.wrap_i64]; omega
  have z2 : IntKind.i64.wrap (b * d) = b * d := by rw [IntKind.wrap_i64]; omega
  have QN := Lib.hid (show I64m (a * c) from ⟨by omega, by omega⟩); have QD := Lib.hid (show I64m (b * d) from ⟨by omega, by omega⟩)
  clear h1 h2 ht hD TP s1 s2
  go_enter Tryz.func28, Tryz.ntmps28
  have B0 := Lib.hid (Bun.start w a b c d 25)
  obtain ⟨⟨xx0, xx1, xx2, xx3⟩, -, -, -⟩ := B0.out
  go_wp2_with fail
  refine (both_c a b c d true true HI.out.1 HI.out.2.1 HI.out.2.2.1 HI.out.2.2.2 G1.out G2.out _).mono ?_; rintro e w1 ⟨rfl, hb⟩
  have B1 := Lib.hid (B0.out.below hb); clear hb xx0 xx1 xx2 xx3
  obtain ⟨⟨xx0, xx1, xx2, xx3⟩, -, -, -⟩ := B1.out
  go_wp2_with fail
  refine (tiny_c a b c d true G3.out _).mono ?_; rintro e w2 ⟨rfl, hb⟩
  have B2 := Lib.hid (B1.out.below hb); clear hb xx0 xx1 xx2 xx3
  obtain ⟨⟨xx0, xx1, xx2, xx3⟩, -, -, -⟩ := B2.out
  go_wp2_with fail
  refine (quick_any (a * c) (b * d) QN.out QD.out G4.out _).mono ?_; rintro e w3 ⟨rfl, hb⟩
  have B3 := Lib.hid (B2.out.below hb); clear hb xx0 xx1 xx2 xx3 z1 z2
  obtain ⟨-, ⟨yy0, yy1, yy2, yy3⟩, yz, -⟩ := B3.out
  go_wp2
  exact bodyPost_ret (v := .tuple #[ratV (Num.lowN (a * c) (b * d)) (Num.lowD (a * c) (b * d)), .bool true]) (by simp [results, Tryz.results28, go_sem, yy0, yy1]) rfl ⟨rfl, B3.out.done _ _⟩

set_option maxHeartbeats 8000000 in
set_option maxRecDepth 100000 in
theorem refMul_large (a b c d : Int) (ha : I64 a) (hb : I64 b) (hc : I64 c) (hd : I64 d) (h1 : Num.rtB a b = true) (h2 : Num.rtB c d = true) (ht : tinyB a b c d = false) (hD : b * d ≠ 0) (w : World) :
    Calls Tryz.prog 28 #[ratV a b, ratV c d] w fun e w' => e = .returned (.tuple #[ratV (Num.resN (a * c) (b * d)) (Num.resD (a * c) (b * d)), .bool (Num.okB (a * c) (b * d))]) ∧ Below w.heap.size w w' := by
  have HI := Lib.hid (And.intro ha (And.intro hb (And.intro hc hd))); clear ha hb hc hd
  have G1 := Lib.hid h1; have G2 := Lib.hid h2; have G3 := Lib.hid ht; have G4 := Lib.hid hD
  clear h1 h2 ht hD
  go_enter Tryz.func28, Tryz.ntmps28
  have B0 := Lib.hid (Bun.start w a b c d 25)
  obtain ⟨⟨xx0, xx1, xx2, xx3⟩, -, -, -⟩ := B0.out
  go_wp2_with fail
  refine (both_c a b c d true true HI.out.1 HI.out.2.1 HI.out.2.2.1 HI.out.2.2.2 G1.out G2.out _).mono ?_; rintro e w1 ⟨rfl, hb⟩
  have B1 := Lib.hid (B0.out.below hb); clear hb xx0 xx1 xx2 xx3
  obtain ⟨⟨xx0, xx1, xx2, xx3⟩, -, -, -⟩ := B1.out
  go_wp2_with fail
  refine (tiny_c a b c d false G3.out _).mono ?_; rintro e w2 ⟨rfl, hb⟩
  have BU := Lib.hid (B1.out.below hb); clear hb xx0 xx1 xx2 xx3
  obtain ⟨⟨xx0, xx1, xx2, xx3⟩, -, -, -⟩ := BU.out
  go_wp2_with fail
  go_region_held3 (fun w' => w'.cell? ⟨w.heap.size, 0, none⟩ = some (.int .i64 a) ∧ w'.cell? ⟨w.heap.size, 1, none⟩ = some (.int .i64 b) ∧ w'.cell? ⟨w.heap.size + 1, 0, none⟩ = some (.int .i64 c) ∧ w'.cell? ⟨w.heap.size + 1, 1, none⟩ = some (.int .i64 d)) (first | (simp [*, go_sem]; done))
    (first
      | (go_at_call_of 53 (Value.int IntKind.i64 a); refine (of_row a HI.out.1.1 HI.out.1.2 _).mono ?_; rintro e uu ⟨va, la, rfl, hv, ho, ht, hval, hb⟩; have Va := Lib.hid (And.intro ho (And.intro hval (len_short ht (by rw [hval]; exact abs_lt HI.out.1)))); have Ra := Lib.hid hv; clear hv ho ht hval; (try replace Rm := Lib.hid ((Rm.out.below (by (repeat' (first | (with_reducible exact Below.refl _ _) | (with_reducible assumption) | (with_reducible refine bdn ?_ _) | (with_reducible refine Below.drew ?_) | (with_reducible refine Below.alloc ?_ ?_ _) | (with_reducible refine Below.setCell ?_ ?_ _) | go_size)))).below hb)); (try replace Rb := Lib.hid ((Rb.out.below (by (repeat' (first | (with_reducible exact Below.refl _ _) | (with_reducible assumption) | (with_reducible refine bdn ?_ _) | (with_reducible refine Below.drew ?_) | (with_reducible refine Below.alloc ?_ ?_ _) | (with_reducible refine Below.setCell ?_ ?_ _) | go_size)))).below hb)); (try replace Rc := Lib.hid ((Rc.out.below (by (repeat' (first | (with_reducible exact Below.refl _ _) | (with_reducible assumption) | (with_reducible refine bdn ?_ _) | (with_reducible refine Below.drew ?_) | (with_reducible refine Below.alloc ?_ ?_ _) | (with_reducible refine Below.setCell ?_ ?_ _) | go_size)))).below hb)); (try replace Rd := Lib.hid ((Rd.out.below (by (repeat' (first | (with_reducible exact Below.refl _ _) | (with_reducible assumption) | (with_reducible refine bdn ?_ _) | (with_reducible refine Below.drew ?_) | (with_reducible refine Below.alloc ?_ ?_ _) | (with_reducible refine Below.setCell ?_ ?_ _) | go_size)))).below hb)); clear xx0 xx1 xx2 xx3; replace BU := Lib.hid (BU.out.below (Below.trans (by (repeat' (first | (with_reducible exact Below.refl _ _) | (with_reducible assumption) | (with_reducible refine bdn ?_ _) | (with_reducible refine Below.drew ?_) | (with_reducible refine Below.alloc ?_ ?_ _) | (with_reducible refine Below.setCell ?_ ?_ _) | go_size))) (hb.mono (by first | omega | (simp; done) | (simp; omega))))); clear hb; obtain ⟨⟨xx0, xx1, xx2, xx3⟩, ⟨yy0, yy1, yy2, yy3⟩, yz, yB⟩ := BU.out; clear yB yy0 yy1 yy2 yy3 yz)
      | (go_at_call_of 53 (Value.int IntKind.i64 b); refine (of_row b HI.out.2.1.1 HI.out.2.1.2 _).mono ?_; rintro e uu ⟨vb, lb, rfl, hv, ho, ht, hval, hb⟩; have Vb := Lib.hid (And.intro ho (And.intro hval (len_short ht (by rw [hval]; exact abs_lt HI.out.2.1)))); have Rb := Lib.hid hv; clear hv ho ht hval; (try replace Rm := Lib.hid ((Rm.out.below (by (repeat' (first | (with_reducible exact Below.refl _ _) | (with_reducible assumption) | (with_reducible refine bdn ?_ _) | (with_reducible refine Below.drew ?_) | (with_reducible refine Below.alloc ?_ ?_ _) | (with_reducible refine Below.setCell ?_ ?_ _) | go_size)))).below hb)); (try replace Ra := Lib.hid ((Ra.out.below (by (repeat' (first | (with_reducible exact Below.refl _ _) | (with_reducible assumption) | (with_reducible refine bdn ?_ _) | (with_reducible refine Below.drew ?_) | (with_reducible refine Below.alloc ?_ ?_ _) | (with_reducible refine Below.setCell ?_ ?_ _) | go_size)))).below hb)); (try replace Rc := Lib.hid ((Rc.out.below (by (repeat' (first | (with_reducible exact Below.refl _ _) | (with_reducible assumption) | (with_reducible refine bdn ?_ _) | (with_reducible refine Below.drew ?_) | (with_reducible refine Below.alloc ?_ ?_ _) | (with_reducible refine Below.setCell ?_ ?_ _) | go_size)))).below hb)); (try replace Rd := Lib.hid ((Rd.out.below (by (repeat' (first | (with_reducible exact Below.refl _ _) | (with_reducible assumption) | (with_reducible refine bdn ?_ _) | (with_reducible refine Below.drew ?_) | (with_reducible refine Below.alloc ?_ ?_ _) | (with_reducible refine Below.setCell ?_ ?_ _) | go_size)))).below hb)); clear xx0 xx1 xx2 xx3; replace BU := Lib.hid (BU.out.below (Below.trans (by (repeat' (first | (with_reducible exact Below.refl _ _) | (with_reducible assumption) | (with_reducible refine bdn ?_ _) | (with_reducible refine Below.drew ?_) | (with_reducible refine Below.alloc ?_ ?_ _) | (with_reducible refine Below.setCell ?_ ?_ _) | go_size))) (hb.mono (by first | omega | (simp; done) | (simp; omega))))); clear hb; obtain ⟨⟨xx0, xx1, xx2, xx3⟩, ⟨yy0, yy1, yy2, yy3⟩, yz, yB⟩ := BU.out; clear yB yy0 yy1 yy2 yy3 yz)
      | (go_at_call_of 53 (Value.int IntKind.i64 c); refine (of_row c HI.out.2.2.1.1 HI.out.2.2.1.2 _).mono ?_; rintro e uu ⟨vc, lc, rfl, hv, ho, ht, hval, hb⟩; have Vc := Lib.hid (And.intro ho (And.intro hval (len_short ht (by rw [hval]; exact abs_lt HI.out.2.2.1)))); have Rc := Lib.hid hv; clear hv ho ht hval; (try replace Rm := Lib.hid ((Rm.out.below (by (repeat' (first | (with_reducible exact Below.refl _ _) | (with_reducible assumption) | (with_reducible refine bdn ?_ _) | (with_reducible refine Below.drew ?_) | (with_reducible refine Below.alloc ?_ ?_ _) | (with_reducible refine Below.setCell ?_ ?_ _) | go_size)))).below hb)); (try replace Ra := Lib.hid ((Ra.out.below (by (repeat' (first | (with_reducible exact Below.refl _ _) | (with_reducible assumption) | (with_reducible refine bdn ?_ _) | (with_reducible refine Below.drew ?_) | (with_reducible refine Below.alloc ?_ ?_ _) | (with_reducible refine Below.setCell ?_ ?_ _) | go_size)))).below hb)); (try replace Rb := Lib.hid ((Rb.out.below (by (repeat' (first | (with_reducible exact Below.refl _ _) | (with_reducible assumption) | (with_reducible refine bdn ?_ _) | (with_reducible refine Below.drew ?_) | (with_reducible refine Below.alloc ?_ ?_ _) | (with_reducible refine Below.setCell ?_ ?_ _) | go_size)))).below hb)); (try replace Rd := Lib.hid ((Rd.out.below (by (repeat' (first | (with_reducible exact Below.refl _ _) | (with_reducible assumption) | (with_reducible refine bdn ?_ _) | (with_reducible refine Below.drew ?_) | (with_reducible refine Below.alloc ?_ ?_ _) | (with_reducible refine Below.setCell ?_ ?_ _) | go_size)))).below hb)); clear xx0 xx1 xx2 xx3; replace BU := Lib.hid (BU.out.below (Below.trans (by (repeat' (first | (with_reducible exact Below.refl _ _) | (with_reducible assumption) | (with_reducible refine bdn ?_ _) | (with_reducible refine Below.drew ?_) | (with_reducible refine Below.alloc ?_ ?_ _) | (with_reducible refine Below.setCell ?_ ?_ _) | go_size))) (hb.mono (by first | omega | (simp; done) | (simp; omega))))); clear hb; obtain ⟨⟨xx0, xx1, xx2, xx3⟩, ⟨yy0, yy1, yy2, yy3⟩, yz, yB⟩ := BU.out; clear yB yy0 yy1 yy2 yy3 yz)
      | (go_at_call_of 53 (Value.int IntKind.i64 d); refine (of_row d HI.out.2.2.2.1 HI.out.2.2.2.2 _).mono ?_; rintro e uu ⟨vd, ld, rfl, hv, ho, ht, hval, hb⟩; have Vd := Lib.hid (And.intro ho (And.intro hval (len_short ht (by rw [hval]; exact abs_lt HI.out.2.2.2)))); have Rd := Lib.hid hv; clear hv ho ht hval; (try replace Rm := Lib.hid ((Rm.out.below (by (repeat' (first | (with_reducible exact Below.refl _ _) | (with_reducible assumption) | (with_reducible refine bdn ?_ _) | (with_reducible refine Below.drew ?_) | (with_reducible refine Below.alloc ?_ ?_ _) | (with_reducible refine Below.setCell ?_ ?_ _) | go_size)))).below hb)); (try replace Ra := Lib.hid ((Ra.out.below (by (repeat' (first | (with_reducible exact Below.refl _ _) | (with_reducible assumption) | (with_reducible refine bdn ?_ _) | (with_reducible refine Below.drew ?_) | (with_reducible refine Below.alloc ?_ ?_ _) | (with_reducible refine Below.setCell ?_ ?_ _) | go_size)))).below hb)); (try replace Rb := Lib.hid ((Rb.out.below (by (repeat' (first | (with_reducible exact Below.refl _ _) | (with_reducible assumption) | (with_reducible refine bdn ?_ _) | (with_reducible refine Below.drew ?_) | (with_reducible refine Below.alloc ?_ ?_ _) | (with_reducible refine Below.setCell ?_ ?_ _) | go_size)))).below hb)); (try replace Rc := Lib.hid ((Rc.out.below (by (repeat' (first | (with_reducible exact Below.refl _ _) | (with_reducible assumption) | (with_reducible refine bdn ?_ _) | (with_reducible refine Below.drew ?_) | (with_reducible refine Below.alloc ?_ ?_ _) | (with_reducible refine Below.setCell ?_ ?_ _) | go_size)))).below hb)); clear xx0 xx1 xx2 xx3; replace BU := Lib.hid (BU.out.below (Below.trans (by (repeat' (first | (with_reducible exact Below.refl _ _) | (with_reducible assumption) | (with_reducible refine bdn ?_ _) | (with_reducible refine Below.drew ?_) | (with_reducible refine Below.alloc ?_ ?_ _) | (with_reducible refine Below.setCell ?_ ?_ _) | go_size))) (hb.mono (by first | omega | (simp; done) | (simp; omega))))); clear hb; obtain ⟨⟨xx0, xx1, xx2, xx3⟩, ⟨yy0, yy1, yy2, yy3⟩, yz, yB⟩ := BU.out; clear yB yy0 yy1 yy2 yy3 yz)
      | (go_at_call 57; (with_reducible refine (mul_row _ _ va vc la lc _ (Ra.out.below (by (repeat' (first | (with_reducible exact Below.refl _ _) | (with_reducible assumption) | (with_reducible refine bdn ?_ _) | (with_reducible refine Below.drew ?_) | (with_reducible refine Below.alloc ?_ ?_ _) | (with_reducible refine Below.setCell ?_ ?_ _) | go_size)))) (Rc.out.below (by (repeat' (first | (with_reducible exact Below.refl _ _) | (with_reducible assumption) | (with_reducible refine bdn ?_ _) | (with_reducible refine Below.drew ?_) | (with_reducible refine Below.alloc ?_ ?_ _) | (with_reducible refine Below.setCell ?_ ?_ _) | go_size)))) Va.out.2.2 Vc.out.2.2 Va.out.1 Vc.out.1).mono ?_); rintro e uu ⟨vm, lm, rfl, hv, ho, ht, hval, hb⟩; rw [Va.out.2.1, Vc.out.2.1] at hval; have Vm := Lib.hid (And.intro ho (And.intro ht (And.intro hval (len8 ht HI.out.1 HI.out.2.2.1 hval)))); have Rm := Lib.hid hv; clear hv ho ht hval Ra Rc Va Vc; clear xx0 xx1 xx2 xx3; replace BU := Lib.hid (BU.out.below (Below.trans (by (repeat' (first | (with_reducible exact Below.refl _ _) | (with_reducible assumption) | (with_reducible refine bdn ?_ _) | (with_reducible refine Below.drew ?_) | (with_reducible refine Below.alloc ?_ ?_ _) | (with_reducible refine Below.setCell ?_ ?_ _) | go_size))) (hb.mono (by first | omega | (simp; done) | (simp; omega))))); clear hb; obtain ⟨⟨xx0, xx1, xx2, xx3⟩, ⟨yy0, yy1, yy2, yy3⟩, yz, yB⟩ := BU.out; clear yB yy0 yy1 yy2 yy3 yz)
      | (go_at_call 57; (with_reducible refine (mul_row _ _ vb vd lb ld _ (Rb.out.below (by (repeat' (first | (with_reducible exact Below.refl _ _) | (with_reducible assumption) | (with_reducible refine bdn ?_ _) | (with_reducible refine Below.drew ?_) | (with_reducible refine Below.alloc ?_ ?_ _) | (with_reducible refine Below.setCell ?_ ?_ _) | go_size)))) (Rd.out.below (by (repeat' (first | (with_reducible exact Below.refl _ _) | (with_reducible assumption) | (with_reducible refine bdn ?_ _) | (with_reducible refine Below.drew ?_) | (with_reducible refine Below.alloc ?_ ?_ _) | (with_reducible refine Below.setCell ?_ ?_ _) | go_size)))) Vb.out.2.2 Vd.out.2.2 Vb.out.1 Vd.out.1).mono ?_); rintro e uu ⟨vk, lk, rfl, hv, ho, ht, hval, hb⟩; rw [Vb.out.2.1, Vd.out.2.1] at hval; have Vk := Lib.hid (And.intro ho (And.intro ht (And.intro hval (len8 ht HI.out.2.1 HI.out.2.2.2 hval)))); have Rk := Lib.hid hv; clear hv ho ht hval Rb Rd Vb Vd; (try replace Rm := Lib.hid ((Rm.out.below (by (repeat' (first | (with_reducible exact Below.refl _ _) | (with_reducible assumption) | (with_reducible refine bdn ?_ _) | (with_reducible refine Below.drew ?_) | (with_reducible refine Below.alloc ?_ ?_ _) | (with_reducible refine Below.setCell ?_ ?_ _) | go_size)))).below hb)); clear xx0 xx1 xx2 xx3; replace BU := Lib.hid (BU.out.below (Below.trans (by (repeat' (first | (with_reducible exact Below.refl _ _) | (with_reducible assumption) | (with_reducible refine bdn ?_ _) | (with_reducible refine Below.drew ?_) | (with_reducible refine Below.alloc ?_ ?_ _) | (with_reducible refine Below.setCell ?_ ?_ _) | go_size))) (hb.mono (by first | omega | (simp; done) | (simp; omega))))); clear hb; obtain ⟨⟨xx0, xx1, xx2, xx3⟩, ⟨yy0, yy1, yy2, yy3⟩, yz, yB⟩ := BU.out; clear yB yy0 yy1 yy2 yy3 yz)
      | (go_at_call 52; refine (lowest_row _ _ vm vk lm lk _ (Rm.out.below (by (repeat' (first | (with_reducible exact Below.refl _ _) | (with_reducible assumption) | (with_reducible refine bdn ?_ _) | (with_reducible refine Below.drew ?_) | (with_reducible refine Below.alloc ?_ ?_ _) | (with_reducible refine Below.setCell ?_ ?_ _) | go_size)))) (Rk.out.below (by (repeat' (first | (with_reducible exact Below.refl _ _) | (with_reducible assumption) | (with_reducible refine bdn ?_ _) | (with_reducible refine Below.drew ?_) | (with_reducible refine Below.alloc ?_ ?_ _) | (with_reducible refine Below.setCell ?_ ?_ _) | go_size)))) (by have := Vm.out.2.2.2; omega) (by have := Vk.out.2.2.2; omega) Vm.out.1 Vk.out.1 (by rw [Vk.out.2.2.1]; exact den_pos G4.out)).mono ?_; rintro e uu ⟨he, hb⟩; rw [Vm.out.2.2.1, Vk.out.2.2.1, sgn_mul, sgn_mul] at he; subst he; clear xx0 xx1 xx2 xx3; replace BU := Lib.hid (BU.out.below (Below.trans (by (repeat' (first | (with_reducible exact Below.refl _ _) | (with_reducible assumption) | (with_reducible refine bdn ?_ _) | (with_reducible refine Below.drew ?_) | (with_reducible refine Below.alloc ?_ ?_ _) | (with_reducible refine Below.setCell ?_ ?_ _) | go_size))) (hb.mono (by first | omega | (simp; done) | (simp; omega))))); clear hb; obtain ⟨⟨xx0, xx1, xx2, xx3⟩, ⟨yy0, yy1, yy2, yy3⟩, yz, yB⟩ := BU.out; clear yB))
  all_goals
    go_wp2
    refine bodyPost_ret (v := .tuple #[ratV (Num.resN (a * c) (b * d)) (Num.resD (a * c) (b * d)), .bool (Num.okB (a * c) (b * d))]) (by simp [results, Tryz.results28, go_sem, yy0, yy1]) rfl ⟨rfl, ?_⟩
    repeat' (first | exact BU.out.done _ _ | exact BU.out.2.2.2 | (with_reducible refine bdn ?_ _) | (with_reducible refine Below.drew ?_) | (with_reducible refine Below.setCell ?_ ?_ _) | (simp; done) | (simp; omega))

theorem refMul_c (a b c d rn rd : Int) (rb : Bool) (ha : I64 a) (hb : I64 b) (hc : I64 c) (hd : I64 d) (h : (Num.opN (Num.rtB a b && Num.rtB c d) (a * c) (b * d), Num.opD (Num.rtB a b && Num.rtB c d) (a * c) (b * d), Num.opB (Num.rtB a b && Num.rtB c d) (a * c) (b * d)) = (rn, rd, rb)) (w : World) :
    Calls Tryz.prog 28 #[ratV a b, ratV c d] w fun e w' => e = .returned (.tuple #[ratV rn rd, .bool rb]) ∧ Below w.heap.size w w' := by
  simp only [Prod.mk.injEq] at h
  rw [← h.1, ← h.2.1, ← h.2.2]
  cases h1 : (Num.rtB a b && Num.rtB c d)
  · exact refMul_no a b c d ha hb hc hd _ _ rfl rfl h1 w
  · have p1 : Num.rtB a b = true := by cases e : Num.rtB a b <;> simp_all
    have p2 : Num.rtB c d = true := by cases e : Num.rtB c d <;> simp_all
    have b1 := Num.rt_pos p1; have d1 := Num.rt_pos p2
    have hD : b * d ≠ 0 := Int.mul_ne_zero (by omega) (by omega)
    cases ht : tinyB a b c d
    · exact refMul_large a b c d ha hb hc hd p1 p2 ht hD w
    · have := refMul_tiny a b c d ha hb hc hd p1 p2 ht hD w
      have T := tiny_parts ht
      have s1 := small_mul T.1 T.2.2.1; have s2 := small_mul T.2.1 T.2.2.2
      obtain ⟨e1, e2, e3⟩ := Num.ok_small (n := a * c) (d := b * d) hD (by omega) (by omega)
      unfold Num.opN Num.opD Num.opB
      rw [e1, e2, e3]; exact this
end Go.Proofs.YtokmfgpbfhfafaaGreatDoor

/- The reference of layer 1: Quo. Condition: the arguments are ints. -/
namespace Go.Proofs.YtokmfgpbfhfafaaGreatDoor
open Go.RowKit

set_option maxHeartbeats 8000000 in
set_option maxRecDepth 100000 in
theorem refQuo_no (a b c d : Int) (ha : I64 a) (hb : I64 b) (hc : I64 c) (hd : I64 d) (p q : Bool) (h1 : Num.rtB a b = p) (h2 : Num.rtB c d = q) (hpq : (p && q) = false) (w : World) :
    Calls Tryz.prog 29 #[ratV a b, ratV c d] w fun e w' => e = .returned (.tuple #[ratV 0 1, .bool false]) ∧ Below w.heap.size w w' := by
  have HI := Lib.hid (And.intro ha (And.intro hb (And.intro hc hd))); clear ha hb hc hd
  have G1 := Lib.hid h1; have G2 := Lib.hid h2; clear h1 h2
  go_enter Tryz.func29, Tryz.ntmps29
  have B0 := Lib.hid (Bun.start w a b c d 25)
  obtain ⟨⟨xx0, xx1, xx2, xx3⟩, -, -, -⟩ := B0.out
  go_wp2_with fail
  refine (both_c a b c d p q HI.out.1 HI.out.2.1 HI.out.2.2.1 HI.out.2.2.2 G1.out G2.out _).mono ?_; rintro e w1 ⟨rfl, hb⟩
  have B1 := Lib.hid (B0.out.below hb); clear hb xx0 xx1 xx2 xx3
  obtain ⟨⟨xx0, xx1, xx2, xx3⟩, -, -, -⟩ := B1.out
  rw [hpq]
  go_wp2_with fail
  refine (refOf_any 0 _).mono ?_; rintro e w2 ⟨rfl, hb⟩
  have B2 := Lib.hid (B1.out.below hb); clear hb xx0 xx1 xx2 xx3
  obtain ⟨-, ⟨yy0, yy1, yy2, yy3⟩, yz, -⟩ := B2.out
  go_wp2
  exact bodyPost_ret (v := .tuple #[ratV 0 1, .bool false]) (by simp [results, Tryz.results29, go_sem, yy0, yy1]) rfl ⟨rfl, B2.out.done _ _⟩

set_option maxHeartbeats 8000000 in
set_option maxRecDepth 100000 in
theorem refQuo_zero (a b c d : Int) (ha : I64 a) (hb : I64 b) (hc : I64 c) (hd : I64 d) (h1 : Num.rtB a b = true) (h2 : Num.rtB c d = true) (hz : c = 0) (w : World) :
    Calls Tryz.prog 29 #[ratV a b, ratV c d] w fun e w' => e = .returned (.tuple #[ratV 0 1, .bool false]) ∧ Below w.heap.size w w' := by
  have HI := Lib.hid (And.intro ha (And.intro hb (And.intro hc hd))); clear ha hb hc hd
  have G1 := Lib.hid h1; have G2 := Lib.hid h2; clear h1 h2
  subst hz
  go_enter Tryz.func29, Tryz.ntmps29
  have B0 := Lib.hid (Bun.start w a b 0 d 25)
  obtain ⟨⟨xx0, xx1, xx2, xx3⟩, -, -, -⟩ := B0.out
  go_wp2_with fail
  refine (both_c a b 0 d true true HI.out.1 HI.out.2.1 HI.out.2.2.1 HI.out.2.2.2 G1.out G2.out _).mono ?_; rintro e w1 ⟨rfl, hb⟩
  have B1 := Lib.hid (B0.out.below hb); clear hb xx0 xx1 xx2 xx3
  obtain ⟨⟨xx0, xx1, xx2, xx3⟩, -, -, -⟩ := B1.out
  go_wp2_with fail
  refine (refOf_any 0 _).mono ?_; rintro e w2 ⟨rfl, hb⟩
  have B2 := Lib.hid (B1.out.below hb); clear hb xx0 xx1 xx2 xx3
  obtain ⟨-, ⟨yy0, yy1, yy2, yy3⟩, yz, -⟩ := B2.out
  go_wp2
  exact bodyPost_ret (v := .tuple #[ratV 0 1, .bool false]) (by simp [results, Tryz.results29, go_sem, yy0, yy1]) rfl ⟨rfl, B2.out.done _ _⟩

set_option maxHeartbeats 8000000 in
set_option maxRecDepth 100000 in
theorem refQuo_tiny (a b c d : Int) (ha : I64 a) (hb : I64 b) (hc : I64 c) (hd : I64 d) (h1 : Num.rtB a b = true) (h2 : Num.rtB c d = true) (ht : tinyB a b c d = true) (hD : b * c ≠ 0) (hz : c ≠ 0) (w : World) :
    Calls Tryz.prog 29 #[ratV a b, ratV c d] w fun e w' => e = .returned (.tuple #[ratV (Num.lowN (a * d) (b * c)) (Num.lowD (a * d) (b * c)), .bool true]) ∧ Below w.heap.size w w' := by
  have HI := Lib.hid (And.intro ha (And.intro hb (And.intro hc hd))); clear ha hb hc hd
  have G1 := Lib.hid h1; have G2 := Lib.hid h2; have G3 := Lib.hid ht; have G4 := Lib.hid hD
  have TP := tiny_parts ht
  have hz2 : (c == 0) = false := by simp [hz]
  have s1 := small_mul TP.1 TP.2.2.2
  have s2 := small_mul TP.2.1 TP.2.2.1
  have z1 : IntKind.i64.wrap (a * d) = a * d := by rw [IntKind.wrap_i64]; omega
  have z2 : IntKind.i64.wrap (b * c) = b * c := by rw [IntKind.wrap_i64]; omega
  have QN := Lib.hid (show I64m (a * d) from ⟨by omega, by omega⟩); have QD := Lib.hid (show I64m (b * c) from ⟨by omega, by omega⟩)
  clear h1 h2 ht hD TP s1 s2
  go_enter Tryz.func29, Tryz.ntmps29
  have B0 := Lib.hid (Bun.start w a b c d 25)
  obtain ⟨⟨xx0, xx1, xx2, xx3⟩, -, -, -⟩ := B0.out
  go_wp2_with fail
  refine (both_c a b c d true true HI.out.1 HI.out.2.1 HI.out.2.2.1 HI.out.2.2.2 G1.out G2.out _).mono ?_; rintro e w1 ⟨rfl, hb⟩
  have B1 := Lib.hid (B0.out.below hb); clear hb xx0 xx1 xx2 xx3
  obtain ⟨⟨xx0, xx1, xx2, xx3⟩, -, -, -⟩ := B1.out
  go_wp2_with fail
  refine (tiny_c a b c d true G3.out _).mono ?_; rintro e w2 ⟨rfl, hb⟩
  have B2 := Lib.hid (B1.out.below hb); clear hb xx0 xx1 xx2 xx3
  obtain ⟨⟨xx0, xx1, xx2, xx3⟩, -, -, -⟩ := B2.out
  go_wp2_with fail
  refine (quick_any (a * d) (b * c) QN.out QD.out G4.out _).mono ?_; rintro e w3 ⟨rfl, hb⟩
  have B3 := Lib.hid (B2.out.below hb); clear hb xx0 xx1 xx2 xx3 z1 z2
  obtain ⟨-, ⟨yy0, yy1, yy2, yy3⟩, yz, -⟩ := B3.out
  go_wp2
  exact bodyPost_ret (v := .tuple #[ratV (Num.lowN (a * d) (b * c)) (Num.lowD (a * d) (b * c)), .bool true]) (by simp [results, Tryz.results29, go_sem, yy0, yy1]) rfl ⟨rfl, B3.out.done _ _⟩

set_option maxHeartbeats 8000000 in
set_option maxRecDepth 100000 in
theorem refQuo_large (a b c d : Int) (ha : I64 a) (hb : I64 b) (hc : I64 c) (hd : I64 d) (h1 : Num.rtB a b = true) (h2 : Num.rtB c d = true) (ht : tinyB a b c d = false) (hD : b * c ≠ 0) (hz : c ≠ 0) (w : World) :
    Calls Tryz.prog 29 #[ratV a b, ratV c d] w fun e w' => e = .returned (.tuple #[ratV (Num.resN (a * d) (b * c)) (Num.resD (a * d) (b * c)), .bool (Num.okB (a * d) (b * c))]) ∧ Below w.heap.size w w' := by
  have HI := Lib.hid (And.intro ha (And.intro hb (And.intro hc hd))); clear ha hb hc hd
  have G1 := Lib.hid h1; have G2 := Lib.hid h2; have G3 := Lib.hid ht; have G4 := Lib.hid hD
  clear h1 h2 ht hD
  have hz2 : (c == 0) = false := by simp [hz]
  go_enter Tryz.func29, Tryz.ntmps29
  have B0 := Lib.hid (Bun.start w a b c d 25)
  obtain ⟨⟨xx0, xx1, xx2, xx3⟩, -, -, -⟩ := B0.out
  go_wp2_with fail
  refine (both_c a b c d true true HI.out.1 HI.out.2.1 HI.out.2.2.1 HI.out.2.2.2 G1.out G2.out _).mono ?_; rintro e w1 ⟨rfl, hb⟩
  have B1 := Lib.hid (B0.out.below hb); clear hb xx0 xx1 xx2 xx3
  obtain ⟨⟨xx0, xx1, xx2, xx3⟩, -, -, -⟩ := B1.out
  go_wp2_with fail
  refine (tiny_c a b c d false G3.out _).mono ?_; rintro e w2 ⟨rfl, hb⟩
  have BU := Lib.hid (B1.out.below hb); clear hb xx0 xx1 xx2 xx3
  obtain ⟨⟨xx0, xx1, xx2, xx3⟩, -, -, -⟩ := BU.out
  go_wp2_with fail
  go_region_held3 (fun w' => w'.cell? ⟨w.heap.size, 0, none⟩ = some (.int .i64 a) ∧ w'.cell? ⟨w.heap.size, 1, none⟩ = some (.int .i64 b) ∧ w'.cell? ⟨w.heap.size + 1, 0, none⟩ = some (.int .i64 c) ∧ w'.cell? ⟨w.heap.size + 1, 1, none⟩ = some (.int .i64 d)) (first | (simp [*, go_sem]; done))
    (first
      | (go_at_call_of 53 (Value.int IntKind.i64 a); refine (of_row a HI.out.1.1 HI.out.1.2 _).mono ?_; rintro e uu ⟨va, la, rfl, hv, ho, ht, hval, hb⟩; have Va := Lib.hid (And.intro ho (And.intro hval (len_short ht (by rw [hval]; exact abs_lt HI.out.1)))); have Ra := Lib.hid hv; clear hv ho ht hval; (try replace Rm := Lib.hid ((Rm.out.below (by (repeat' (first | (with_reducible exact Below.refl _ _) | (with_reducible assumption) | (with_reducible refine bdn ?_ _) | (with_reducible refine Below.drew ?_) | (with_reducible refine Below.alloc ?_ ?_ _) | (with_reducible refine Below.setCell ?_ ?_ _) | go_size)))).below hb)); (try replace Rb := Lib.hid ((Rb.out.below (by (repeat' (first | (with_reducible exact Below.refl _ _) | (with_reducible assumption) | (with_reducible refine bdn ?_ _) | (with_reducible refine Below.drew ?_) | (with_reducible refine Below.alloc ?_ ?_ _) | (with_reducible refine Below.setCell ?_ ?_ _) | go_size)))).below hb)); (try replace Rc := Lib.hid ((Rc.out.below (by (repeat' (first | (with_reducible exact Below.refl _ _) | (with_reducible assumption) | (with_reducible refine bdn ?_ _) | (with_reducible refine Below.drew ?_) | (with_reducible refine Below.alloc ?_ ?_ _) | (with_reducible refine Below.setCell ?_ ?_ _) | go_size)))).below hb)); (try replace Rd := Lib.hid ((Rd.out.below (by (repeat' (first | (with_reducible exact Below.refl _ _) | (with_reducible assumption) | (with_reducible refine bdn ?_ _) | (with_reducible refine Below.drew ?_) | (with_reducible refine Below.alloc ?_ ?_ _) | (with_reducible refine Below.setCell ?_ ?_ _) | go_size)))).below hb)); clear xx0 xx1 xx2 xx3; replace BU := Lib.hid (BU.out.below (Below.trans (by (repeat' (first | (with_reducible exact Below.refl _ _) | (with_reducible assumption) | (with_reducible refine bdn ?_ _) | (with_reducible refine Below.drew ?_) | (with_reducible refine Below.alloc ?_ ?_ _) | (with_reducible refine Below.setCell ?_ ?_ _) | go_size))) (hb.mono (by first | omega | (simp; done) | (simp; omega))))); clear hb; obtain ⟨⟨xx0, xx1, xx2, xx3⟩, ⟨yy0, yy1, yy2, yy3⟩, yz, yB⟩ := BU.out; clear yB yy0 yy1 yy2 yy3 yz)
      | (go_at_call_of 53 (Value.int IntKind.i64 b); refine (of_row b HI.out.2.1.1 HI.out.2.1.2 _).mono ?_; rintro e uu ⟨vb, lb, rfl, hv, ho, ht, hval, hb⟩; have Vb := Lib.hid (And.intro ho (And.intro hval (len_short ht (by rw [hval]; exact abs_lt HI.out.2.1)))); have Rb := Lib.hid hv; clear hv ho ht hval; (try replace Rm := Lib.hid ((Rm.out.below (by (repeat' (first | (with_reducible exact Below.refl _ _) | (with_reducible assumption) | (with_reducible refine bdn ?_ _) | (with_reducible refine Below.drew ?_) | (with_reducible refine Below.alloc ?_ ?_ _) | (with_reducible refine Below.setCell ?_ ?_ _) | go_size)))).below hb)); (try replace Ra := Lib.hid ((Ra.out.below (by (repeat' (first | (with_reducible exact Below.refl _ _) | (with_reducible assumption) | (with_reducible refine bdn ?_ _) | (with_reducible refine Below.drew ?_) | (with_reducible refine Below.alloc ?_ ?_ _) | (with_reducible refine Below.setCell ?_ ?_ _) | go_size)))).below hb)); (try replace Rc := Lib.hid ((Rc.out.below (by (repeat' (first | (with_reducible exact Below.refl _ _) | (with_reducible assumption) | (with_reducible refine bdn ?_ _) | (with_reducible refine Below.drew ?_) | (with_reducible refine Below.alloc ?_ ?_ _) | (with_reducible refine Below.setCell ?_ ?_ _) | go_size)))).below hb)); (try replace Rd := Lib.hid ((Rd.out.below (by (repeat' (first | (with_reducible exact Below.refl _ _) | (with_reducible assumption) | (with_reducible refine bdn ?_ _) | (with_reducible refine Below.drew ?_) | (with_reducible refine Below.alloc ?_ ?_ _) | (with_reducible refine Below.setCell ?_ ?_ _) | go_size)))).below hb)); clear xx0 xx1 xx2 xx3; replace BU := Lib.hid (BU.out.below (Below.trans (by (repeat' (first | (with_reducible exact Below.refl _ _) | (with_reducible assumption) | (with_reducible refine bdn ?_ _) | (with_reducible refine Below.drew ?_) | (with_reducible refine Below.alloc ?_ ?_ _) | (with_reducible refine Below.setCell ?_ ?_ _) | go_size))) (hb.mono (by first | omega | (simp; done) | (simp; omega))))); clear hb; obtain ⟨⟨xx0, xx1, xx2, xx3⟩, ⟨yy0, yy1, yy2, yy3⟩, yz, yB⟩ := BU.out; clear yB yy0 yy1 yy2 yy3 yz)
      | (go_at_call_of 53 (Value.int IntKind.i64 c); refine (of_row c HI.out.2.2.1.1 HI.out.2.2.1.2 _).mono ?_; rintro e uu ⟨vc, lc, rfl, hv, ho, ht, hval, hb⟩; have Vc := Lib.hid (And.intro ho (And.intro hval (len_short ht (by rw [hval]; exact abs_lt HI.out.2.2.1)))); have Rc := Lib.hid hv; clear hv ho ht hval; (try replace Rm := Lib.hid ((Rm.out.below (by (repeat' (first | (with_reducible exact Below.refl _ _) | (with_reducible assumption) | (with_reducible refine bdn ?_ _) | (with_reducible refine Below.drew ?_) | (with_reducible refine Below.alloc ?_ ?_ _) | (with_reducible refine Below.setCell ?_ ?_ _) | go_size)))).below hb)); (try replace Ra := Lib.hid ((Ra.out.below (by (repeat' (first | (with_reducible exact Below.refl _ _) | (with_reducible assumption) | (with_reducible refine bdn ?_ _) | (with_reducible refine Below.drew ?_) | (with_reducible refine Below.alloc ?_ ?_ _) | (with_reducible refine Below.setCell ?_ ?_ _) | go_size)))).below hb)); (try replace Rb := Lib.hid ((Rb.out.below (by (repeat' (first | (with_reducible exact Below.refl _ _) | (with_reducible assumption) | (with_reducible refine bdn ?_ _) | (with_reducible refine Below.drew ?_) | (with_reducible refine Below.alloc ?_ ?_ _) | (with_reducible refine Below.setCell ?_ ?_ _) | go_size)))).below hb)); (try replace Rd := Lib.hid ((Rd.out.below (by (repeat' (first | (with_reducible exact Below.refl _ _) | (with_reducible assumption) | (with_reducible refine bdn ?_ _) | (with_reducible refine Below.drew ?_) | (with_reducible refine Below.alloc ?_ ?_ _) | (with_reducible refine Below.setCell ?_ ?_ _) | go_size)))).below hb)); clear xx0 xx1 xx2 xx3; replace BU := Lib.hid (BU.out.below (Below.trans (by (repeat' (first | (with_reducible exact Below.refl _ _) | (with_reducible assumption) | (with_reducible refine bdn ?_ _) | (with_reducible refine Below.drew ?_) | (with_reducible refine Below.alloc ?_ ?_ _) | (with_reducible refine Below.setCell ?_ ?_ _) | go_size))) (hb.mono (by first | omega | (simp; done) | (simp; omega))))); clear hb; obtain ⟨⟨xx0, xx1, xx2, xx3⟩, ⟨yy0, yy1, yy2, yy3⟩, yz, yB⟩ := BU.out; clear yB yy0 yy1 yy2 yy3 yz)
      | (go_at_call_of 53 (Value.int IntKind.i64 d); refine (of_row d HI.out.2.2.2.1 HI.out.2.2.2.2 _).mono ?_; rintro e uu ⟨vd, ld, rfl, hv, ho, ht, hval, hb⟩; have Vd := Lib.hid (And.intro ho (And.intro hval (len_short ht (by rw [hval]; exact abs_lt HI.out.2.2.2)))); have Rd := Lib.hid hv; clear hv ho ht hval; (try replace Rm := Lib.hid ((Rm.out.below (by (repeat' (first | (with_reducible exact Below.refl _ _) | (with_reducible assumption) | (with_reducible refine bdn ?_ _) | (with_reducible refine Below.drew ?_) | (with_reducible refine Below.alloc ?_ ?_ _) | (with_reducible refine Below.setCell ?_ ?_ _) | go_size)))).below hb)); (try replace Ra := Lib.hid ((Ra.out.below (by (repeat' (first | (with_reducible exact Below.refl _ _) | (with_reducible assumption) | (with_reducible refine bdn ?_ _) | (with_reducible refine Below.drew ?_) | (with_reducible refine Below.alloc ?_ ?_ _) | (with_reducible refine Below.setCell ?_ ?_ _) | go_size)))).below hb)); (try replace Rb := Lib.hid ((Rb.out.below (by (repeat' (first | (with_reducible exact Below.refl _ _) | (with_reducible assumption) | (with_reducible refine bdn ?_ _) | (with_reducible refine Below.drew ?_) | (with_reducible refine Below.alloc ?_ ?_ _) | (with_reducible refine Below.setCell ?_ ?_ _) | go_size)))).below hb)); (try replace Rc := Lib.hid ((Rc.out.below (by (repeat' (first | (with_reducible exact Below.refl _ _) | (with_reducible assumption) | (with_reducible refine bdn ?_ _) | (with_reducible refine Below.drew ?_) | (with_reducible refine Below.alloc ?_ ?_ _) | (with_reducible refine Below.setCell ?_ ?_ _) | go_size)))).below hb)); clear xx0 xx1 xx2 xx3; replace BU := Lib.hid (BU.out.below (Below.trans (by (repeat' (first | (with_reducible exact Below.refl _ _) | (with_reducible assumption) | (with_reducible refine bdn ?_ _) | (with_reducible refine Below.drew ?_) | (with_reducible refine Below.alloc ?_ ?_ _) | (with_reducible refine Below.setCell ?_ ?_ _) | go_size))) (hb.mono (by first | omega | (simp; done) | (simp; omega))))); clear hb; obtain ⟨⟨xx0, xx1, xx2, xx3⟩, ⟨yy0, yy1, yy2, yy3⟩, yz, yB⟩ := BU.out; clear yB yy0 yy1 yy2 yy3 yz)
      | (go_at_call 57; (with_reducible refine (mul_row _ _ va vd la ld _ (Ra.out.below (by (repeat' (first | (with_reducible exact Below.refl _ _) | (with_reducible assumption) | (with_reducible refine bdn ?_ _) | (with_reducible refine Below.drew ?_) | (with_reducible refine Below.alloc ?_ ?_ _) | (with_reducible refine Below.setCell ?_ ?_ _) | go_size)))) (Rd.out.below (by (repeat' (first | (with_reducible exact Below.refl _ _) | (with_reducible assumption) | (with_reducible refine bdn ?_ _) | (with_reducible refine Below.drew ?_) | (with_reducible refine Below.alloc ?_ ?_ _) | (with_reducible refine Below.setCell ?_ ?_ _) | go_size)))) Va.out.2.2 Vd.out.2.2 Va.out.1 Vd.out.1).mono ?_); rintro e uu ⟨vm, lm, rfl, hv, ho, ht, hval, hb⟩; rw [Va.out.2.1, Vd.out.2.1] at hval; have Vm := Lib.hid (And.intro ho (And.intro ht (And.intro hval (len8 ht HI.out.1 HI.out.2.2.2 hval)))); have Rm := Lib.hid hv; clear hv ho ht hval Ra Rd Va Vd; clear xx0 xx1 xx2 xx3; replace BU := Lib.hid (BU.out.below (Below.trans (by (repeat' (first | (with_reducible exact Below.refl _ _) | (with_reducible assumption) | (with_reducible refine bdn ?_ _) | (with_reducible refine Below.drew ?_) | (with_reducible refine Below.alloc ?_ ?_ _) | (with_reducible refine Below.setCell ?_ ?_ _) | go_size))) (hb.mono (by first | omega | (simp; done) | (simp; omega))))); clear hb; obtain ⟨⟨xx0, xx1, xx2, xx3⟩, ⟨yy0, yy1, yy2, yy3⟩, yz, yB⟩ := BU.out; clear yB yy0 yy1 yy2 yy3 yz)
      | (go_at_call 57; (with_reducible refine (mul_row _ _ vb vc lb lc _ (Rb.out.below (by (repeat' (first | (with_reducible exact Below.refl _ _) | (with_reducible assumption) | (with_reducible refine bdn ?_ _) | (with_reducible refine Below.drew ?_) | (with_reducible refine Below.alloc ?_ ?_ _) | (with_reducible refine Below.setCell ?_ ?_ _) | go_size)))) (Rc.out.below (by (repeat' (first | (with_reducible exact Below.refl _ _) | (with_reducible assumption) | (with_reducible refine bdn ?_ _) | (with_reducible refine Below.drew ?_) | (with_reducible refine Below.alloc ?_ ?_ _) | (with_reducible refine Below.setCell ?_ ?_ _) | go_size)))) Vb.out.2.2 Vc.out.2.2 Vb.out.1 Vc.out.1).mono ?_); rintro e uu ⟨vk, lk, rfl, hv, ho, ht, hval, hb⟩; rw [Vb.out.2.1, Vc.out.2.1] at hval; have Vk := Lib.hid (And.intro ho (And.intro ht (And.intro hval (len8 ht HI.out.2.1 HI.out.2.2.1 hval)))); have Rk := Lib.hid hv; clear hv ho ht hval Rb Rc Vb Vc; (try replace Rm := Lib.hid ((Rm.out.below (by (repeat' (first | (with_reducible exact Below.refl _ _) | (with_reducible assumption) | (with_reducible refine bdn ?_ _) | (with_reducible refine Below.drew ?_) | (with_reducible refine Below.alloc ?_ ?_ _) | (with_reducible refine Below.setCell ?_ ?_ _) | go_size)))).below hb)); clear xx0 xx1 xx2 xx3; replace BU := Lib.hid (BU.out.below (Below.trans (by (repeat' (first | (with_reducible exact Below.refl _ _) | (with_reducible assumption) | (with_reducible refine bdn ?_ _) | (with_reducible refine Below.drew ?_) | (with_reducible refine Below.alloc ?_ ?_ _) | (with_reducible refine Below.setCell ?_ ?_ _) | go_size))) (hb.mono (by first | omega | (simp; done) | (simp; omega))))); clear hb; obtain ⟨⟨xx0, xx1, xx2, xx3⟩, ⟨yy0, yy1, yy2, yy3⟩, yz, yB⟩ := BU.out; clear yB yy0 yy1 yy2 yy3 yz)
      | (go_at_call 52; refine (lowest_row _ _ vm vk lm lk _ (Rm.out.below (by (repeat' (first | (with_reducible exact Below.refl _ _) | (with_reducible assumption) | (with_reducible refine bdn ?_ _) | (with_reducible refine Below.drew ?_) | (with_reducible refine Below.alloc ?_ ?_ _) | (with_reducible refine Below.setCell ?_ ?_ _) | go_size)))) (Rk.out.below (by (repeat' (first | (with_reducible exact Below.refl _ _) | (with_reducible assumption) | (with_reducible refine bdn ?_ _) | (with_reducible refine Below.drew ?_) | (with_reducible refine Below.alloc ?_ ?_ _) | (with_reducible refine Below.setCell ?_ ?_ _) | go_size)))) (by have := Vm.out.2.2.2; omega) (by have := Vk.out.2.2.2; omega) Vm.out.1 Vk.out.1 (by rw [Vk.out.2.2.1]; exact den_pos G4.out)).mono ?_; rintro e uu ⟨he, hb⟩; rw [Vm.out.2.2.1, Vk.out.2.2.1, sgn_mul, sgn_mul] at he; subst he; clear xx0 xx1 xx2 xx3; replace BU := Lib.hid (BU.out.below (Below.trans (by (repeat' (first | (with_reducible exact Below.refl _ _) | (with_reducible assumption) | (with_reducible refine bdn ?_ _) | (with_reducible refine Below.drew ?_) | (with_reducible refine Below.alloc ?_ ?_ _) | (with_reducible refine Below.setCell ?_ ?_ _) | go_size))) (hb.mono (by first | omega | (simp; done) | (simp; omega))))); clear hb; obtain ⟨⟨xx0, xx1, xx2, xx3⟩, ⟨yy0, yy1, yy2, yy3⟩, yz, yB⟩ := BU.out; clear yB))
  all_goals
    go_wp2
    refine bodyPost_ret (v := .tuple #[ratV (Num.resN (a * d) (b * c)) (Num.resD (a * d) (b * c)), .bool (Num.okB (a * d) (b * c))]) (by simp [results, Tryz.results29, go_sem, yy0, yy1]) rfl ⟨rfl, ?_⟩
    repeat' (first | exact BU.out.done _ _ | exact BU.out.2.2.2 | (with_reducible refine bdn ?_ _) | (with_reducible refine Below.drew ?_) | (with_reducible refine Below.setCell ?_ ?_ _) | (simp; done) | (simp; omega))

theorem refQuo_c (a b c d rn rd : Int) (rb : Bool) (ha : I64 a) (hb : I64 b) (hc : I64 c) (hd : I64 d) (h : (Num.opN (Num.rtB a b && Num.rtB c d) (a * d) (b * c), Num.opD (Num.rtB a b && Num.rtB c d) (a * d) (b * c), Num.opB (Num.rtB a b && Num.rtB c d) (a * d) (b * c)) = (rn, rd, rb)) (w : World) :
    Calls Tryz.prog 29 #[ratV a b, ratV c d] w fun e w' => e = .returned (.tuple #[ratV rn rd, .bool rb]) ∧ Below w.heap.size w w' := by
  simp only [Prod.mk.injEq] at h
  rw [← h.1, ← h.2.1, ← h.2.2]
  cases h1 : (Num.rtB a b && Num.rtB c d)
  · exact refQuo_no a b c d ha hb hc hd _ _ rfl rfl h1 w
  · have p1 : Num.rtB a b = true := by cases e : Num.rtB a b <;> simp_all
    have p2 : Num.rtB c d = true := by cases e : Num.rtB c d <;> simp_all
    have b1 := Num.rt_pos p1; have d1 := Num.rt_pos p2
    by_cases hz : c = 0
    · have := refQuo_zero a b c d ha hb hc hd p1 p2 hz w
      have ho : Num.okB (a * d) (b * c) = false := by rw [hz]; simp [Num.okB]
      unfold Num.opN Num.opD Num.opB Num.resN Num.resD
      rw [ho]; exact this
    have hD : b * c ≠ 0 := Int.mul_ne_zero (by omega) hz
    cases ht : tinyB a b c d
    · exact refQuo_large a b c d ha hb hc hd p1 p2 ht hD hz w
    · have := refQuo_tiny a b c d ha hb hc hd p1 p2 ht hD hz w
      have T := tiny_parts ht
      have s1 := small_mul T.1 T.2.2.2; have s2 := small_mul T.2.1 T.2.2.1
      obtain ⟨e1, e2, e3⟩ := Num.ok_small (n := a * d) (d := b * c) hD (by omega) (by omega)
      unfold Num.opN Num.opD Num.opB
      rw [e1, e2, e3]; exact this
end Go.Proofs.YtokmfgpbfhfafaaGreatDoor

/- The reference of layer 1: Add. Condition: the arguments are ints. -/
namespace Go.Proofs.YtokmfgpbfhfafaaGreatDoor
open Go.RowKit

set_option maxHeartbeats 8000000 in
set_option maxRecDepth 100000 in
theorem refAdd_no (a b c d : Int) (ha : I64 a) (hb : I64 b) (hc : I64 c) (hd : I64 d) (p q : Bool) (h1 : Num.rtB a b = p) (h2 : Num.rtB c d = q) (hpq : (p && q) = false) (w : World) :
    Calls Tryz.prog 25 #[ratV a b, ratV c d] w fun e w' => e = .returned (.tuple #[ratV 0 1, .bool false]) ∧ Below w.heap.size w w' := by
  have HI := Lib.hid (And.intro ha (And.intro hb (And.intro hc hd))); clear ha hb hc hd
  have G1 := Lib.hid h1; have G2 := Lib.hid h2; clear h1 h2
  go_enter Tryz.func25, Tryz.ntmps25
  have B0 := Lib.hid (Bun.start w a b c d 25)
  obtain ⟨⟨xx0, xx1, xx2, xx3⟩, -, -, -⟩ := B0.out
  go_wp2_with fail
  refine (both_c a b c d p q HI.out.1 HI.out.2.1 HI.out.2.2.1 HI.out.2.2.2 G1.out G2.out _).mono ?_; rintro e w1 ⟨rfl, hb⟩
  have B1 := Lib.hid (B0.out.below hb); clear hb xx0 xx1 xx2 xx3
  obtain ⟨⟨xx0, xx1, xx2, xx3⟩, -, -, -⟩ := B1.out
  rw [hpq]
  go_wp2_with fail
  refine (refOf_any 0 _).mono ?_; rintro e w2 ⟨rfl, hb⟩
  have B2 := Lib.hid (B1.out.below hb); clear hb xx0 xx1 xx2 xx3
  obtain ⟨-, ⟨yy0, yy1, yy2, yy3⟩, yz, -⟩ := B2.out
  go_wp2
  exact bodyPost_ret (v := .tuple #[ratV 0 1, .bool false]) (by simp [results, Tryz.results25, go_sem, yy0, yy1]) rfl ⟨rfl, B2.out.done _ _⟩

set_option maxHeartbeats 8000000 in
set_option maxRecDepth 100000 in
theorem refAdd_tiny (a b c d : Int) (ha : I64 a) (hb : I64 b) (hc : I64 c) (hd : I64 d) (h1 : Num.rtB a b = true) (h2 : Num.rtB c d = true) (ht : tinyB a b c d = true) (hD : b * d ≠ 0) (w : World) :
    Calls Tryz.prog 25 #[ratV a b, ratV c d] w fun e w' => e = .returned (.tuple #[ratV (Num.lowN (a * d + c * b) (b * d)) (Num.lowD (a * d + c * b) (b * d)), .bool true]) ∧ Below w.heap.size w w' := by
  have HI := Lib.hid (And.intro ha (And.intro hb (And.intro hc hd))); clear ha hb hc hd
  have G1 := Lib.hid h1; have G2 := Lib.hid h2; have G3 := Lib.hid ht; have G4 := Lib.hid hD
  have TP := tiny_parts ht
  have s1 := small_mul TP.1 TP.2.2.2
  have s2 := small_mul TP.2.2.1 TP.2.1
  have s3 := small_mul TP.2.1 TP.2.2.2
  have z1 : IntKind.i64.wrap (a * d) = a * d := by rw [IntKind.wrap_i64]; omega
  have z2 : IntKind.i64.wrap (c * b) = c * b := by rw [IntKind.wrap_i64]; omega
  have z3 : IntKind.i64.wrap (a * d + c * b) = a * d + c * b := by rw [IntKind.wrap_i64]; omega
  have z4 : IntKind.i64.wrap (b * d) = b * d := by rw [IntKind.wrap_i64]; omega
  have QN := Lib.hid (show I64m (a * d + c * b) from ⟨by omega, by omega⟩); have QD := Lib.hid (show I64m (b * d) from ⟨by omega, by omega⟩)
  clear h1 h2 ht hD TP s1 s2 s3
  go_enter Tryz.func25, Tryz.ntmps25
  have B0 := Lib.hid (Bun.start w a b c d 25)
  obtain ⟨⟨xx0, xx1, xx2, xx3⟩, -, -, -⟩ := B0.out
  go_wp2_with fail
  refine (both_c a b c d true true HI.out.1 HI.out.2.1 HI.out.2.2.1 HI.out.2.2.2 G1.out G2.out _).mono ?_; rintro e w1 ⟨rfl, hb⟩
  have B1 := Lib.hid (B0.out.below hb); clear hb xx0 xx1 xx2 xx3
  obtain ⟨⟨xx0, xx1, xx2, xx3⟩, -, -, -⟩ := B1.out
  go_wp2_with fail
  refine (tiny_c a b c d true G3.out _).mono ?_; rintro e w2 ⟨rfl, hb⟩
  have B2 := Lib.hid (B1.out.below hb); clear hb xx0 xx1 xx2 xx3
  obtain ⟨⟨xx0, xx1, xx2, xx3⟩, -, -, -⟩ := B2.out
  go_wp2_with fail
  refine (quick_any (a * d + c * b) (b * d) QN.out QD.out G4.out _).mono ?_; rintro e w3 ⟨rfl, hb⟩
  have B3 := Lib.hid (B2.out.below hb); clear hb xx0 xx1 xx2 xx3 z1 z2 z3 z4
  obtain ⟨-, ⟨yy0, yy1, yy2, yy3⟩, yz, -⟩ := B3.out
  go_wp2
  exact bodyPost_ret (v := .tuple #[ratV (Num.lowN (a * d + c * b) (b * d)) (Num.lowD (a * d + c * b) (b * d)), .bool true]) (by simp [results, Tryz.results25, go_sem, yy0, yy1]) rfl ⟨rfl, B3.out.done _ _⟩

set_option maxHeartbeats 8000000 in
set_option maxRecDepth 100000 in
theorem refAdd_large (a b c d : Int) (ha : I64 a) (hb : I64 b) (hc : I64 c) (hd : I64 d) (h1 : Num.rtB a b = true) (h2 : Num.rtB c d = true) (ht : tinyB a b c d = false) (hD : b * d ≠ 0) (w : World) :
    Calls Tryz.prog 25 #[ratV a b, ratV c d] w fun e w' => e = .returned (.tuple #[ratV (Num.resN (a * d + c * b) (b * d)) (Num.resD (a * d + c * b) (b * d)), .bool (Num.okB (a * d + c * b) (b * d))]) ∧ Below w.heap.size w w' := by
  have HI := Lib.hid (And.intro ha (And.intro hb (And.intro hc hd))); clear ha hb hc hd
  have G1 := Lib.hid h1; have G2 := Lib.hid h2; have G3 := Lib.hid ht; have G4 := Lib.hid hD
  clear h1 h2 ht hD
  go_enter Tryz.func25, Tryz.ntmps25
  have B0 := Lib.hid (Bun.start w a b c d 25)
  obtain ⟨⟨xx0, xx1, xx2, xx3⟩, -, -, -⟩ := B0.out
  go_wp2_with fail
  refine (both_c a b c d true true HI.out.1 HI.out.2.1 HI.out.2.2.1 HI.out.2.2.2 G1.out G2.out _).mono ?_; rintro e w1 ⟨rfl, hb⟩
  have B1 := Lib.hid (B0.out.below hb); clear hb xx0 xx1 xx2 xx3
  obtain ⟨⟨xx0, xx1, xx2, xx3⟩, -, -, -⟩ := B1.out
  go_wp2_with fail
  refine (tiny_c a b c d false G3.out _).mono ?_; rintro e w2 ⟨rfl, hb⟩
  have BU := Lib.hid (B1.out.below hb); clear hb xx0 xx1 xx2 xx3
  obtain ⟨⟨xx0, xx1, xx2, xx3⟩, -, -, -⟩ := BU.out
  go_wp2_with fail
  go_region_held3 (fun w' => w'.cell? ⟨w.heap.size, 0, none⟩ = some (.int .i64 a) ∧ w'.cell? ⟨w.heap.size, 1, none⟩ = some (.int .i64 b) ∧ w'.cell? ⟨w.heap.size + 1, 0, none⟩ = some (.int .i64 c) ∧ w'.cell? ⟨w.heap.size + 1, 1, none⟩ = some (.int .i64 d)) (first | (simp [*, go_sem]; done))
    (first
      | (go_at_call_of 53 (Value.int IntKind.i64 a); refine (of_row a HI.out.1.1 HI.out.1.2 _).mono ?_; rintro e uu ⟨va, la, rfl, hv, ho, ht, hval, hb⟩; have Va := Lib.hid (And.intro ho (And.intro hval (len_short ht (by rw [hval]; exact abs_lt HI.out.1)))); have Ra := Lib.hid hv; clear hv ho ht hval; (try replace Rm := Lib.hid ((Rm.out.below (by (repeat' (first | (with_reducible exact Below.refl _ _) | (with_reducible assumption) | (with_reducible refine bdn ?_ _) | (with_reducible refine Below.drew ?_) | (with_reducible refine Below.alloc ?_ ?_ _) | (with_reducible refine Below.setCell ?_ ?_ _) | go_size)))).below hb)); (try replace Rn := Lib.hid ((Rn.out.below (by (repeat' (first | (with_reducible exact Below.refl _ _) | (with_reducible assumption) | (with_reducible refine bdn ?_ _) | (with_reducible refine Below.drew ?_) | (with_reducible refine Below.alloc ?_ ?_ _) | (with_reducible refine Below.setCell ?_ ?_ _) | go_size)))).below hb)); (try replace Rs := Lib.hid ((Rs.out.below (by (repeat' (first | (with_reducible exact Below.refl _ _) | (with_reducible assumption) | (with_reducible refine bdn ?_ _) | (with_reducible refine Below.drew ?_) | (with_reducible refine Below.alloc ?_ ?_ _) | (with_reducible refine Below.setCell ?_ ?_ _) | go_size)))).below hb)); (try replace Rb := Lib.hid ((Rb.out.below (by (repeat' (first | (with_reducible exact Below.refl _ _) | (with_reducible assumption) | (with_reducible refine bdn ?_ _) | (with_reducible refine Below.drew ?_) | (with_reducible refine Below.alloc ?_ ?_ _) | (with_reducible refine Below.setCell ?_ ?_ _) | go_size)))).below hb)); (try replace Rc := Lib.hid ((Rc.out.below (by (repeat' (first | (with_reducible exact Below.refl _ _) | (with_reducible assumption) | (with_reducible refine bdn ?_ _) | (with_reducible refine Below.drew ?_) | (with_reducible refine Below.alloc ?_ ?_ _) | (with_reducible refine Below.setCell ?_ ?_ _) | go_size)))).below hb)); (try replace Rd := Lib.hid ((Rd.out.below (by (repeat' (first | (with_reducible exact Below.refl _ _) | (with_reducible assumption) | (with_reducible refine bdn ?_ _) | (with_reducible refine Below.drew ?_) | (with_reducible refine Below.alloc ?_ ?_ _) | (with_reducible refine Below.setCell ?_ ?_ _) | go_size)))).below hb)); clear xx0 xx1 xx2 xx3; replace BU := Lib.hid (BU.out.below (Below.trans (by (repeat' (first | (with_reducible exact Below.refl _ _) | (with_reducible assumption) | (with_reducible refine bdn ?_ _) | (with_reducible refine Below.drew ?_) | (with_reducible refine Below.alloc ?_ ?_ _) | (with_reducible refine Below.setCell ?_ ?_ _) | go_size))) (hb.mono (by first | omega | (simp; done) | (simp; omega))))); clear hb; obtain ⟨⟨xx0, xx1, xx2, xx3⟩, ⟨yy0, yy1, yy2, yy3⟩, yz, yB⟩ := BU.out; clear yB yy0 yy1 yy2 yy3 yz)
      | (go_at_call_of 53 (Value.int IntKind.i64 b); refine (of_row b HI.out.2.1.1 HI.out.2.1.2 _).mono ?_; rintro e uu ⟨vb, lb, rfl, hv, ho, ht, hval, hb⟩; have Vb := Lib.hid (And.intro ho (And.intro hval (len_short ht (by rw [hval]; exact abs_lt HI.out.2.1)))); have Rb := Lib.hid hv; clear hv ho ht hval; (try replace Rm := Lib.hid ((Rm.out.below (by (repeat' (first | (with_reducible exact Below.refl _ _) | (with_reducible assumption) | (with_reducible refine bdn ?_ _) | (with_reducible refine Below.drew ?_) | (with_reducible refine Below.alloc ?_ ?_ _) | (with_reducible refine Below.setCell ?_ ?_ _) | go_size)))).below hb)); (try replace Rn := Lib.hid ((Rn.out.below (by (repeat' (first | (with_reducible exact Below.refl _ _) | (with_reducible assumption) | (with_reducible refine bdn ?_ _) | (with_reducible refine Below.drew ?_) | (with_reducible refine Below.alloc ?_ ?_ _) | (with_reducible refine Below.setCell ?_ ?_ _) | go_size)))).below hb)); (try replace Rs := Lib.hid ((Rs.out.below (by (repeat' (first | (with_reducible exact Below.refl _ _) | (with_reducible assumption) | (with_reducible refine bdn ?_ _) | (with_reducible refine Below.drew ?_) | (with_reducible refine Below.alloc ?_ ?_ _) | (with_reducible refine Below.setCell ?_ ?_ _) | go_size)))).below hb)); (try replace Ra := Lib.hid ((Ra.out.below (by (repeat' (first | (with_reducible exact Below.refl _ _) | (with_reducible assumption) | (with_reducible refine bdn ?_ _) | (with_reducible refine Below.drew ?_) | (with_reducible refine Below.alloc ?_ ?_ _) | (with_reducible refine Below.setCell ?_ ?_ _) | go_size)))).below hb)); (try replace Rc := Lib.hid ((Rc.out.below (by (repeat' (first | (with_reducible exact Below.refl _ _) | (with_reducible assumption) | (with_reducible refine bdn ?_ _) | (with_reducible refine Below.drew ?_) | (with_reducible refine Below.alloc ?_ ?_ _) | (with_reducible refine Below.setCell ?_ ?_ _) | go_size)))).below hb)); (try replace Rd := Lib.hid ((Rd.out.below (by (repeat' (first | (with_reducible exact Below.refl _ _) | (with_reducible assumption) | (with_reducible refine bdn ?_ _) | (with_reducible refine Below.drew ?_) | (with_reducible refine Below.alloc ?_ ?_ _) | (with_reducible refine Below.setCell ?_ ?_ _) | go_size)))).below hb)); clear xx0 xx1 xx2 xx3; replace BU := Lib.hid (BU.out.below (Below.trans (by (repeat' (first | (with_reducible exact Below.refl _ _) | (with_reducible assumption) | (with_reducible refine bdn ?_ _) | (with_reducible refine Below.drew ?_) | (with_reducible refine Below.alloc ?_ ?_ _) | (with_reducible refine Below.setCell ?_ ?_ _) | go_size))) (hb.mono (by first | omega | (simp; done) | (simp; omega))))); clear hb; obtain ⟨⟨xx0, xx1, xx2, xx3⟩, ⟨yy0, yy1, yy2, yy3⟩, yz, yB⟩ := BU.out; clear yB yy0 yy1 yy2 yy3 yz)
      | (go_at_call_of 53 (Value.int IntKind.i64 c); refine (of_row c HI.out.2.2.1.1 HI.out.2.2.1.2 _).mono ?_; rintro e uu ⟨vc, lc, rfl, hv, ho, ht, hval, hb⟩; have Vc := Lib.hid (And.intro ho (And.intro hval (len_short ht (by rw [hval]; exact abs_lt HI.out.2.2.1)))); have Rc := Lib.hid hv; clear hv ho ht hval; (try replace Rm := Lib.hid ((Rm.out.below (by (repeat' (first | (with_reducible exact Below.refl _ _) | (with_reducible assumption) | (with_reducible refine bdn ?_ _) | (with_reducible refine Below.drew ?_) | (with_reducible refine Below.alloc ?_ ?_ _) | (with_reducible refine Below.setCell ?_ ?_ _) | go_size)))).below hb)); (try replace Rn := Lib.hid ((Rn.out.below (by (repeat' (first | (with_reducible exact Below.refl _ _) | (with_reducible assumption) | (with_reducible refine bdn ?_ _) | (with_reducible refine Below.drew ?_) | (with_reducible refine Below.alloc ?_ ?_ _) | (with_reducible refine Below.setCell ?_ ?_ _) | go_size)))).below hb)); (try replace Rs := Lib.hid ((Rs.out.below (by (repeat' (first | (with_reducible exact Below.refl _ _) | (with_reducible assumption) | (with_reducible refine bdn ?_ _) | (with_reducible refine Below.drew ?_) | (with_reducible refine Below.alloc ?_ ?_ _) | (with_reducible refine Below.setCell ?_ ?_ _) | go_size)))).below hb)); (try replace Ra := Lib.hid ((Ra.out.below (by (repeat' (first | (with_reducible exact Below.refl _ _) | (with_reducible assumption) | (with_reducible refine bdn ?_ _) | (with_reducible refine Below.drew ?_) | (with_reducible refine Below.alloc ?_ ?_ _) | (with_reducible refine Below.setCell ?_ ?_ _) | go_size)))).below hb)); (try replace Rb := Lib.hid ((Rb.out.below (by (repeat' (first | (with_reducible exact Below.refl _ _) | (with_reducible assumption) | (with_reducible refine bdn ?_ _) | (with_reducible refine Below.drew ?_) | (with_reducible refine Below.alloc ?_ ?_ _) | (with_reducible refine Below.setCell ?_ ?_ _) | go_size)))).below hb)); (try replace Rd := Lib.hid ((Rd.out.below (by (repeat' (first | (with_reducible exact Below.refl _ _) | (with_reducible assumption) | (with_reducible refine bdn ?_ _) | (with_reducible refine Below.drew ?_) | (with_reducible refine Below.alloc ?_ ?_ _) | (with_reducible refine Below.setCell ?_ ?_ _) | go_size)))).below hb)); clear xx0 xx1 xx2 xx3; replace BU := Lib.hid (BU.out.below (Below.trans (by (repeat' (first | (with_reducible exact Below.refl _ _) | (with_reducible assumption) | (with_reducible refine bdn ?_ _) | (with_reducible refine Below.drew ?_) | (with_reducible refine Below.alloc ?_ ?_ _) | (with_reducible refine Below.setCell ?_ ?_ _) | go_size))) (hb.mono (by first | omega | (simp; done) | (simp; omega))))); clear hb; obtain ⟨⟨xx0, xx1, xx2, xx3⟩, ⟨yy0, yy1, yy2, yy3⟩, yz, yB⟩ := BU.out; clear yB yy0 yy1 yy2 yy3 yz)
      | (go_at_call_of 53 (Value.int IntKind.i64 d); refine (of_row d HI.out.2.2.2.1 HI.out.2.2.2.2 _).mono ?_; rintro e uu ⟨vd, ld, rfl, hv, ho, ht, hval, hb⟩; have Vd := Lib.hid (And.intro ho (And.intro hval (len_short ht (by rw [hval]; exact abs_lt HI.out.2.2.2)))); have Rd := Lib.hid hv; clear hv ho ht hval; (try replace Rm := Lib.hid ((Rm.out.below (by (repeat' (first | (with_reducible exact Below.refl _ _) | (with_reducible assumption) | (with_reducible refine bdn ?_ _) | (with_reducible refine Below.drew ?_) | (with_reducible refine Below.alloc ?_ ?_ _) | (with_reducible refine Below.setCell ?_ ?_ _) | go_size)))).below hb)); (try replace Rn := Lib.hid ((Rn.out.below (by (repeat' (first | (with_reducible exact Below.refl _ _) | (with_reducible assumption) | (with_reducible refine bdn ?_ _) | (with_reducible refine Below.drew ?_) | (with_reducible refine Below.alloc ?_ ?_ _) | (with_reducible refine Below.setCell ?_ ?_ _) | go_size)))).below hb)); (try replace Rs := Lib.hid ((Rs.out.below (by (repeat' (first | (with_reducible exact Below.refl _ _) | (with_reducible assumption) | (with_reducible refine bdn ?_ _) | (with_reducible refine Below.drew ?_) | (with_reducible refine Below.alloc ?_ ?_ _) | (with_reducible refine Below.setCell ?_ ?_ _) | go_size)))).below hb)); (try replace Ra := Lib.hid ((Ra.out.below (by (repeat' (first | (with_reducible exact Below.refl _ _) | (with_reducible assumption) | (with_reducible refine bdn ?_ _) | (with_reducible refine Below.drew ?_) | (with_reducible refine Below.alloc ?_ ?_ _) | (with_reducible refine Below.setCell ?_ ?_ _) | go_size)))).below hb)); (try replace Rb := Lib.hid ((Rb.out.below (by (repeat' (first | (with_reducible exact Below.refl _ _) | (with_reducible assumption) | (with_reducible refine bdn ?_ _) | (with_reducible refine Below.drew ?_) | (with_reducible refine Below.alloc ?_ ?_ _) | (with_reducible refine Below.setCell ?_ ?_ _) | go_size)))).below hb)); (try replace Rc := Lib.hid ((Rc.out.below (by (repeat' (first | (with_reducible exact Below.refl _ _) | (with_reducible assumption) | (with_reducible refine bdn ?_ _) | (with_reducible refine Below.drew ?_) | (with_reducible refine Below.alloc ?_ ?_ _) | (with_reducible refine Below.setCell ?_ ?_ _) | go_size)))).below hb)); clear xx0 xx1 xx2 xx3; replace BU := Lib.hid (BU.out.below (Below.trans (by (repeat' (first | (with_reducible exact Below.refl _ _) | (with_reducible assumption) | (with_reducible refine bdn ?_ _) | (with_reducible refine Below.drew ?_) | (with_reducible refine Below.alloc ?_ ?_ _) | (with_reducible refine Below.setCell ?_ ?_ _) | go_size))) (hb.mono (by first | omega | (simp; done) | (simp; omega))))); clear hb; obtain ⟨⟨xx0, xx1, xx2, xx3⟩, ⟨yy0, yy1, yy2, yy3⟩, yz, yB⟩ := BU.out; clear yB yy0 yy1 yy2 yy3 yz)
      | (go_at_call 57; (with_reducible refine (mul_row _ _ va vd la ld _ (Ra.out.below (by (repeat' (first | (with_reducible exact Below.refl _ _) | (with_reducible assumption) | (with_reducible refine bdn ?_ _) | (with_reducible refine Below.drew ?_) | (with_reducible refine Below.alloc ?_ ?_ _) | (with_reducible refine Below.setCell ?_ ?_ _) | go_size)))) (Rd.out.below (by (repeat' (first | (with_reducible exact Below.refl _ _) | (with_reducible assumption) | (with_reducible refine bdn ?_ _) | (with_reducible refine Below.drew ?_) | (with_reducible refine Below.alloc ?_ ?_ _) | (with_reducible refine Below.setCell ?_ ?_ _) | go_size)))) Va.out.2.2 Vd.out.2.2 Va.out.1 Vd.out.1).mono ?_); rintro e uu ⟨vm, lm, rfl, hv, ho, ht, hval, hb⟩; rw [Va.out.2.1, Vd.out.2.1] at hval; have Vm := Lib.hid (And.intro ho (And.intro ht (And.intro hval (len8 ht HI.out.1 HI.out.2.2.2 hval)))); have Rm := Lib.hid hv; clear hv ho ht hval Ra Rd Va Vd; (try replace Rn := Lib.hid ((Rn.out.below (by (repeat' (first | (with_reducible exact Below.refl _ _) | (with_reducible assumption) | (with_reducible refine bdn ?_ _) | (with_reducible refine Below.drew ?_) | (with_reducible refine Below.alloc ?_ ?_ _) | (with_reducible refine Below.setCell ?_ ?_ _) | go_size)))).below hb)); (try replace Rs := Lib.hid ((Rs.out.below (by (repeat' (first | (with_reducible exact Below.refl _ _) | (with_reducible assumption) | (with_reducible refine bdn ?_ _) | (with_reducible refine Below.drew ?_) | (with_reducible refine Below.alloc ?_ ?_ _) | (with_reducible refine Below.setCell ?_ ?_ _) | go_size)))).below hb)); clear xx0 xx1 xx2 xx3; replace BU := Lib.hid (BU.out.below (Below.trans (by (repeat' (first | (with_reducible exact Below.refl _ _) | (with_reducible assumption) | (with_reducible refine bdn ?_ _) | (with_reducible refine Below.drew ?_) | (with_reducible refine Below.alloc ?_ ?_ _) | (with_reducible refine Below.setCell ?_ ?_ _) | go_size))) (hb.mono (by first | omega | (simp; done) | (simp; omega))))); clear hb; obtain ⟨⟨xx0, xx1, xx2, xx3⟩, ⟨yy0, yy1, yy2, yy3⟩, yz, yB⟩ := BU.out; clear yB yy0 yy1 yy2 yy3 yz)
      | (go_at_call 57; (with_reducible refine (mul_row _ _ vc vb lc lb _ (Rc.out.below (by (repeat' (first | (with_reducible exact Below.refl _ _) | (with_reducible assumption) | (with_reducible refine bdn ?_ _) | (with_reducible refine Below.drew ?_) | (with_reducible refine Below.alloc ?_ ?_ _) | (with_reducible refine Below.setCell ?_ ?_ _) | go_size)))) (Rb.out.below (by (repeat' (first | (with_reducible exact Below.refl _ _) | (with_reducible assumption) | (with_reducible refine bdn ?_ _) | (with_reducible refine Below.drew ?_) | (with_reducible refine Below.alloc ?_ ?_ _) | (with_reducible refine Below.setCell ?_ ?_ _) | go_size)))) Vc.out.2.2 Vb.out.2.2 Vc.out.1 Vb.out.1).mono ?_); rintro e uu ⟨vn, ln, rfl, hv, ho, ht, hval, hb⟩; rw [Vc.out.2.1, Vb.out.2.1] at hval; have Vn := Lib.hid (And.intro ho (And.intro ht (And.intro hval (len8 ht HI.out.2.2.1 HI.out.2.1 hval)))); have Rn := Lib.hid hv; clear hv ho ht hval Rc Rb Vc Vb; (try replace Rm := Lib.hid ((Rm.out.below (by (repeat' (first | (with_reducible exact Below.refl _ _) | (with_reducible assumption) | (with_reducible refine bdn ?_ _) | (with_reducible refine Below.drew ?_) | (with_reducible refine Below.alloc ?_ ?_ _) | (with_reducible refine Below.setCell ?_ ?_ _) | go_size)))).below hb)); (try replace Rs := Lib.hid ((Rs.out.below (by (repeat' (first | (with_reducible exact Below.refl _ _) | (with_reducible assumption) | (with_reducible refine bdn ?_ _) | (with_reducible refine Below.drew ?_) | (with_reducible refine Below.alloc ?_ ?_ _) | (with_reducible refine Below.setCell ?_ ?_ _) | go_size)))).below hb)); clear xx0 xx1 xx2 xx3; replace BU := Lib.hid (BU.out.below (Below.trans (by (repeat' (first | (with_reducible exact Below.refl _ _) | (with_reducible assumption) | (with_reducible refine bdn ?_ _) | (with_reducible refine Below.drew ?_) | (with_reducible refine Below.alloc ?_ ?_ _) | (with_reducible refine Below.setCell ?_ ?_ _) | go_size))) (hb.mono (by first | omega | (simp; done) | (simp; omega))))); clear hb; obtain ⟨⟨xx0, xx1, xx2, xx3⟩, ⟨yy0, yy1, yy2, yy3⟩, yz, yB⟩ := BU.out; clear yB yy0 yy1 yy2 yy3 yz)
      | (go_at_call 57; (with_reducible refine (mul_row _ _ vb vd lb ld _ (Rb.out.below (by (repeat' (first | (with_reducible exact Below.refl _ _) | (with_reducible assumption) | (with_reducible refine bdn ?_ _) | (with_reducible refine Below.drew ?_) | (with_reducible refine Below.alloc ?_ ?_ _) | (with_reducible refine Below.setCell ?_ ?_ _) | go_size)))) (Rd.out.below (by (repeat' (first | (with_reducible exact Below.refl _ _) | (with_reducible assumption) | (with_reducible refine bdn ?_ _) | (with_reducible refine Below.drew ?_) | (with_reducible refine Below.alloc ?_ ?_ _) | (with_reducible refine Below.setCell ?_ ?_ _) | go_size)))) Vb.out.2.2 Vd.out.2.2 Vb.out.1 Vd.out.1).mono ?_); rintro e uu ⟨vk, lk, rfl, hv, ho, ht, hval, hb⟩; rw [Vb.out.2.1, Vd.out.2.1] at hval; have Vk := Lib.hid (And.intro ho (And.intro ht (And.intro hval (len8 ht HI.out.2.1 HI.out.2.2.2 hval)))); have Rk := Lib.hid hv; clear hv ho ht hval Rb Rd Vb Vd; (try replace Rs := Lib.hid ((Rs.out.below (by (repeat' (first | (with_reducible exact Below.refl _ _) | (with_reducible assumption) | (with_reducible refine bdn ?_ _) | (with_reducible refine Below.drew ?_) | (with_reducible refine Below.alloc ?_ ?_ _) | (with_reducible refine Below.setCell ?_ ?_ _) | go_size)))).below hb)); clear xx0 xx1 xx2 xx3; replace BU := Lib.hid (BU.out.below (Below.trans (by (repeat' (first | (with_reducible exact Below.refl _ _) | (with_reducible assumption) | (with_reducible refine bdn ?_ _) | (with_reducible refine Below.drew ?_) | (with_reducible refine Below.alloc ?_ ?_ _) | (with_reducible refine Below.setCell ?_ ?_ _) | go_size))) (hb.mono (by first | omega | (simp; done) | (simp; omega))))); clear hb; obtain ⟨⟨xx0, xx1, xx2, xx3⟩, ⟨yy0, yy1, yy2, yy3⟩, yz, yB⟩ := BU.out; clear yB yy0 yy1 yy2 yy3 yz)
      | (go_at_call 56; refine (add_row _ _ vm vn lm ln 8 _ (Rm.out.below (by (repeat' (first | (with_reducible exact Below.refl _ _) | (with_reducible assumption) | (with_reducible refine bdn ?_ _) | (with_reducible refine Below.drew ?_) | (with_reducible refine Below.alloc ?_ ?_ _) | (with_reducible refine Below.setCell ?_ ?_ _) | go_size)))) (Rn.out.below (by (repeat' (first | (with_reducible exact Below.refl _ _) | (with_reducible assumption) | (with_reducible refine bdn ?_ _) | (with_reducible refine Below.drew ?_) | (with_reducible refine Below.alloc ?_ ?_ _) | (with_reducible refine Below.setCell ?_ ?_ _) | go_size)))) Vm.out.2.2.2 Vn.out.2.2.2 (by decide) Vm.out.1 Vn.out.1 Vm.out.2.1 Vn.out.2.1).mono ?_; rintro e uu ⟨ss, vs, ls, rfl, hv, ho, hl, hval, hb⟩; rw [Vm.out.2.2.1, Vn.out.2.2.1, sgn_mul, sgn_mul] at hval; have Vs := Lib.hid (And.intro ho (And.intro hl hval)); have Rs := Lib.hid hv; clear hv ho hl hval Rm Rn Vm Vn; clear xx0 xx1 xx2 xx3; replace BU := Lib.hid (BU.out.below (Below.trans (by (repeat' (first | (with_reducible exact Below.refl _ _) | (with_reducible assumption) | (with_reducible refine bdn ?_ _) | (with_reducible refine Below.drew ?_) | (with_reducible refine Below.alloc ?_ ?_ _) | (with_reducible refine Below.setCell ?_ ?_ _) | go_size))) (hb.mono (by first | omega | (simp; done) | (simp; omega))))); clear hb; obtain ⟨⟨xx0, xx1, xx2, xx3⟩, ⟨yy0, yy1, yy2, yy3⟩, yz, yB⟩ := BU.out; clear yB yy0 yy1 yy2 yy3 yz)
      | (go_at_call 52; refine (lowest_row _ _ vs vk ls lk _ (Rs.out.below (by (repeat' (first | (with_reducible exact Below.refl _ _) | (with_reducible assumption) | (with_reducible refine bdn ?_ _) | (with_reducible refine Below.drew ?_) | (with_reducible refine Below.alloc ?_ ?_ _) | (with_reducible refine Below.setCell ?_ ?_ _) | go_size)))) (Rk.out.below (by (repeat' (first | (with_reducible exact Below.refl _ _) | (with_reducible assumption) | (with_reducible refine bdn ?_ _) | (with_reducible refine Below.drew ?_) | (with_reducible refine Below.alloc ?_ ?_ _) | (with_reducible refine Below.setCell ?_ ?_ _) | go_size)))) (by have := Vs.out.2.1; omega) (by have := Vk.out.2.2.2; omega) Vs.out.1 Vk.out.1 (by rw [Vk.out.2.2.1]; exact den_pos G4.out)).mono ?_; rintro e uu ⟨he, hb⟩; rw [Vs.out.2.2, Vk.out.2.2.1, sgn_mul] at he; subst he; clear xx0 xx1 xx2 xx3; replace BU := Lib.hid (BU.out.below (Below.trans (by (repeat' (first | (with_reducible exact Below.refl _ _) | (with_reducible assumption) | (with_reducible refine bdn ?_ _) | (with_reducible refine Below.drew ?_) | (with_reducible refine Below.alloc ?_ ?_ _) | (with_reducible refine Below.setCell ?_ ?_ _) | go_size))) (hb.mono (by first | omega | (simp; done) | (simp; omega))))); clear hb; obtain ⟨⟨xx0, xx1, xx2, xx3⟩, ⟨yy0, yy1, yy2, yy3⟩, yz, yB⟩ := BU.out; clear yB))
  all_goals
    go_wp2
    refine bodyPost_ret (v := .tuple #[ratV (Num.resN (a * d + c * b) (b * d)) (Num.resD (a * d + c * b) (b * d)), .bool (Num.okB (a * d + c * b) (b * d))]) (by simp [results, Tryz.results25, go_sem, yy0, yy1]) rfl ⟨rfl, ?_⟩
    repeat' (first | exact BU.out.done _ _ | exact BU.out.2.2.2 | (with_reducible refine bdn ?_ _) | (with_reducible refine Below.drew ?_) | (with_reducible refine Below.setCell ?_ ?_ _) | (simp; done) | (simp; omega))

theorem refAdd_c (a b c d rn rd : Int) (rb : Bool) (ha : I64 a) (hb : I64 b) (hc : I64 c) (hd : I64 d) (h : (Num.opN (Num.rtB a b && Num.rtB c d) (a * d + c * b) (b * d), Num.opD (Num.rtB a b && Num.rtB c d) (a * d + c * b) (b * d), Num.opB (Num.rtB a b && Num.rtB c d) (a * d + c * b) (b * d)) = (rn, rd, rb)) (w : World) :
    Calls Tryz.prog 25 #[ratV a b, ratV c d] w fun e w' => e = .returned (.tuple #[ratV rn rd, .bool rb]) ∧ Below w.heap.size w w' := by
  simp only [Prod.mk.injEq] at h
  rw [← h.1, ← h.2.1, ← h.2.2]
  cases h1 : (Num.rtB a b && Num.rtB c d)
  · exact refAdd_no a b c d ha hb hc hd _ _ rfl rfl h1 w
  · have p1 : Num.rtB a b = true := by cases e : Num.rtB a b <;> simp_all
    have p2 : Num.rtB c d = true := by cases e : Num.rtB c d <;> simp_all
    have b1 := Num.rt_pos p1; have d1 := Num.rt_pos p2
    have hD : b * d ≠ 0 := Int.mul_ne_zero (by omega) (by omega)
    cases ht : tinyB a b c d
    · exact refAdd_large a b c d ha hb hc hd p1 p2 ht hD w
    · have := refAdd_tiny a b c d ha hb hc hd p1 p2 ht hD w
      have T := tiny_parts ht
      have s1 := small_mul T.1 T.2.2.2; have s2 := small_mul T.2.2.1 T.2.1; have s3 := small_mul T.2.1 T.2.2.2
      obtain ⟨e1, e2, e3⟩ := Num.ok_small (n := a * d + c * b) (d := b * d) hD (by omega) (by omega)
      unfold Num.opN Num.opD Num.opB
      rw [e1, e2, e3]; exact this
end Go.Proofs.YtokmfgpbfhfafaaGreatDoor

/- The reference of layer 1: Sub. Condition: the arguments are ints. -/
namespace Go.Proofs.YtokmfgpbfhfafaaGreatDoor
open Go.RowKit

theorem sgn_not (s : Bool) (x : Int) : Num.sgn (!s) x = -Num.sgn s x := by cases s <;> simp [Num.sgn]
def Bun2 (w u : World) (a b c d : Int) (B : Nat) (s : Bool) (v : Value) : Prop := Bun w u a b c d ∧ u.cell? ⟨B, 0, none⟩ = some (.bool s) ∧ u.cell? ⟨B, 1, none⟩ = some v ∧ B < u.heap.size
theorem Bun2.below {w u u' : World} {a b c d : Int} {B : Nat} {s : Bool} {v : Value} (h : Bun2 w u a b c d B s v) (hb : Below u.heap.size u u') : Bun2 w u' a b c d B s v :=
  ⟨h.1.below hb, bk hb _ _ h.2.1 h.2.2.2, bk hb _ _ h.2.2.1 h.2.2.2, bs hb h.2.2.2⟩
theorem mul_sg (sa sb sg : Bool) (va vb : Value) (x y : List Int) (h : (sa != sb) = sg) (w : World) (ha : RowV w va x) (hb : RowV w vb y) (hn : x.length ≤ 100000) (hm : y.length ≤ 100000) (ox : Dig.okL x) (oy : Dig.okL y) :
    Calls Tryz.prog 57 #[.agg #[.bool sa, va], .agg #[.bool sb, vb]] w fun e w' => ∃ v l, e = .returned (.agg #[.bool sg, v]) ∧ RowV w' v l ∧ Dig.okL l ∧ Dig.Trim l ∧ Dig.val l = Dig.val x * Dig.val y ∧ Below w.heap.size w w' := by
  rw [← h]; exact mul_row sa sb va vb x y w ha hb hn hm ox oy

set_option maxHeartbeats 8000000 in
set_option maxRecDepth 100000 in
theorem refSub_no (a b c d : Int) (ha : I64 a) (hb : I64 b) (hc : I64 c) (hd : I64 d) (p q : Bool) (h1 : Num.rtB a b = p) (h2 : Num.rtB c d = q) (hpq : (p && q) = false) (w : World) :
    Calls Tryz.prog 27 #[ratV a b, ratV c d] w fun e w' => e = .returned (.tuple #[ratV 0 1, .bool false]) ∧ Below w.heap.size w w' := by
  have HI := Lib.hid (And.intro ha (And.intro hb (And.intro hc hd))); clear ha hb hc hd
  have G1 := Lib.hid h1; have G2 := Lib.hid h2; clear h1 h2
  go_enter Tryz.func27, Tryz.ntmps27
  have B0 := Lib.hid (Bun.start w a b c d 25)
  obtain ⟨⟨xx0, xx1, xx2, xx3⟩, -, -, -⟩ := B0.out
  go_wp2_with fail
  refine (both_c a b c d p q HI.out.1 HI.out.2.1 HI.out.2.2.1 HI.out.2.2.2 G1.out G2.out _).mono ?_; rintro e w1 ⟨rfl, hb⟩
  have B1 := Lib.hid (B0.out.below hb); clear hb xx0 xx1 xx2 xx3
  obtain ⟨⟨xx0, xx1, xx2, xx3⟩, -, -, -⟩ := B1.out
  rw [hpq]
  go_wp2_with fail
  refine (refOf_any 0 _).mono ?_; rintro e w2 ⟨rfl, hb⟩
  have B2 := Lib.hid (B1.out.below hb); clear hb xx0 xx1 xx2 xx3
  obtain ⟨-, ⟨yy0, yy1, yy2, yy3⟩, yz, -⟩ := B2.out
  go_wp2
  exact bodyPost_ret (v := .tuple #[ratV 0 1, .bool false]) (by simp [results, Tryz.results27, go_sem, yy0, yy1]) rfl ⟨rfl, B2.out.done _ _⟩

set_option maxHeartbeats 8000000 in
set_option maxRecDepth 100000 in
theorem refSub_tiny (a b c d : Int) (ha : I64 a) (hb : I64 b) (hc : I64 c) (hd : I64 d) (h1 : Num.rtB a b = true) (h2 : Num.rtB c d = true) (ht : tinyB a b c d = true) (hD : b * d ≠ 0) (w : World) :
    Calls Tryz.prog 27 #[ratV a b, ratV c d] w fun e w' => e = .returned (.tuple #[ratV (Num.lowN (a * d - c * b) (b * d)) (Num.lowD (a * d - c * b) (b * d)), .bool true]) ∧ Below w.heap.size w w' := by
  have HI := Lib.hid (And.intro ha (And.intro hb (And.intro hc hd))); clear ha hb hc hd
  have G1 := Lib.hid h1; have G2 := Lib.hid h2; have G3 := Lib.hid ht; have G4 := Lib.hid hD
  have TP := tiny_parts ht
  have s1 := small_mul TP.1 TP.2.2.2
  have s2 := small_mul TP.2.2.1 TP.2.1
  have s3 := small_mul TP.2.1 TP.2.2.2
  have z1 : IntKind.i64.wrap (a * d) = a * d := by rw [IntKind.wrap_i64]; omega
  have z2 : IntKind.i64.wrap (c * b) = c * b := by rw [IntKind.wrap_i64]; omega
  have z3 : IntKind.i64.wrap (a * d - c * b) = a * d - c * b := by rw [IntKind.wrap_i64]; omega
  have z4 : IntKind.i64.wrap (b * d) = b * d := by rw [IntKind.wrap_i64]; omega
  have QN := Lib.hid (show I64m (a * d - c * b) from ⟨by omega, by omega⟩); have QD := Lib.hid (show I64m (b * d) from ⟨by omega, by omega⟩)
  clear h1 h2 ht hD TP s1 s2 s3
  go_enter Tryz.func27, Tryz.ntmps27
  have B0 := Lib.hid (Bun.start w a b c d 25)
  obtain ⟨⟨xx0, xx1, xx2, xx3⟩, -, -, -⟩ := B0.out
  go_wp2_with fail
  refine (both_c a b c d true true HI.out.1 HI.out.2.1 HI.out.2.2.1 HI.out.2.2.2 G1.out G2.out _).mono ?_; rintro e w1 ⟨rfl, hb⟩
  have B1 := Lib.hid (B0.out.below hb); clear hb xx0 xx1 xx2 xx3
  obtain ⟨⟨xx0, xx1, xx2, xx3⟩, -, -, -⟩ := B1.out
  go_wp2_with fail
  refine (tiny_c a b c d true G3.out _).mono ?_; rintro e w2 ⟨rfl, hb⟩
  have B2 := Lib.hid (B1.out.below hb); clear hb xx0 xx1 xx2 xx3
  obtain ⟨⟨xx0, xx1, xx2, xx3⟩, -, -, -⟩ := B2.out
  go_wp2_with fail
  refine (quick_any (a * d - c * b) (b * d) QN.out QD.out G4.out _).mono ?_; rintro e w3 ⟨rfl, hb⟩
  have B3 := Lib.hid (B2.out.below hb); clear hb xx0 xx1 xx2 xx3 z1 z2 z3 z4
  obtain ⟨-, ⟨yy0, yy1, yy2, yy3⟩, yz, -⟩ := B3.out
  go_wp2
  exact bodyPost_ret (v := .tuple #[ratV (Num.lowN (a * d - c * b) (b * d)) (Num.lowD (a * d - c * b) (b * d)), .bool true]) (by simp [results, Tryz.results27, go_sem, yy0, yy1]) rfl ⟨rfl, B3.out.done _ _⟩

set_option maxHeartbeats 8000000 in
set_option maxRecDepth 100000 in
theorem refSub_large (a b c d : Int) (ha : I64 a) (hb : I64 b) (hc : I64 c) (hd : I64 d) (h1 : Num.rtB a b = true) (h2 : Num.rtB c d = true) (ht : tinyB a b c d = false) (hD : b * d ≠ 0) (w : World) :
    Calls Tryz.prog 27 #[ratV a b, ratV c d] w fun e w' => e = .returned (.tuple #[ratV (Num.resN (a * d - c * b) (b * d)) (Num.resD (a * d - c * b) (b * d)), .bool (Num.okB (a * d - c * b) (b * d))]) ∧ Below w.heap.size w w' := by
  have HI := Lib.hid (And.intro ha (And.intro hb (And.intro hc hd))); clear ha hb hc hd
  have G1 := Lib.hid h1; have G2 := Lib.hid h2; have G3 := Lib.hid ht; have G4 := Lib.hid hD
  clear h1 h2 ht hD
  go_enter Tryz.func27, Tryz.ntmps27
  have B0 := Lib.hid (Bun.start w a b c d 25)
  obtain ⟨⟨xx0, xx1, xx2, xx3⟩, -, -, -⟩ := B0.out
  go_wp2_with fail
  refine (both_c a b c d true true HI.out.1 HI.out.2.1 HI.out.2.2.1 HI.out.2.2.2 G1.out G2.out _).mono ?_; rintro e w1 ⟨rfl, hb⟩
  have B1 := Lib.hid (B0.out.below hb); clear hb xx0 xx1 xx2 xx3
  obtain ⟨⟨xx0, xx1, xx2, xx3⟩, -, -, -⟩ := B1.out
  go_wp2_with fail
  refine (tiny_c a b c d false G3.out _).mono ?_; rintro e w2 ⟨rfl, hb⟩
  have BU := Lib.hid (B1.out.below hb); clear hb xx0 xx1 xx2 xx3
  obtain ⟨⟨xx0, xx1, xx2, xx3⟩, -, xs, -⟩ := BU.out
  obtain ⟨sg, hsg0⟩ : ∃ sg, (decide (c < 0) != decide (b < 0)) = sg := ⟨_, rfl⟩
  have hsg := Lib.hid hsg0; clear hsg0
  go_upto_region 5 with fail
  go_cut [6] (fun s1 wx => ∃ (B : Nat) (vm : Value) (lm : List Int), s1 = .pointer (some ⟨B, 0, none⟩) ∧ wx.cell? ⟨B, 0, none⟩ = some (.bool sg) ∧ wx.cell? ⟨B, 1, none⟩ = some vm ∧ wx.frozen? ⟨B, 0, none⟩ = false ∧ wx.frozen? ⟨B, 1, none⟩ = false ∧ w2.heap.size ≤ B ∧ B < wx.heap.size ∧ Hid (RowV wx vm lm) ∧ Hid (Dig.okL lm ∧ Dig.Trim lm ∧ Dig.val lm = (c.natAbs : Int) * (b.natAbs : Int) ∧ lm.length ≤ 8) ∧ Hid (Below w2.heap.size w2 wx))
  case first =>
    have ne1 : ¬ w.heap.size = w2.heap.size := by omega
    have ne2 : ¬ w.heap.size + 1 = w2.heap.size := by omega
    have le1 : w.heap.size < w2.heap.size := by omega
    have le2 : w.heap.size + 1 < w2.heap.size := by omega
    go_region_held3 (fun w' => w'.cell? ⟨w.heap.size, 0, none⟩ = some (.int .i64 a) ∧ w'.cell? ⟨w.heap.size, 1, none⟩ = some (.int .i64 b) ∧ w'.cell? ⟨w.heap.size + 1, 0, none⟩ = some (.int .i64 c) ∧ w'.cell? ⟨w.heap.size + 1, 1, none⟩ = some (.int .i64 d)) (first | (simp [*, go_sem]; done) | (simp [*, go_sem, World.cell?_alloc_past]; done))
      (first
        | (go_at_call_of 53 (Value.int IntKind.i64 c); refine (of_row c HI.out.2.2.1.1 HI.out.2.2.1.2 _).mono ?_; rintro e u1 ⟨vc, lc, rfl, hv, ho, ht, hval, hb⟩; have Vc := Lib.hid (And.intro ho (And.intro hval (len_short ht (by rw [hval]; exact abs_lt HI.out.2.2.1)))); have Rc := Lib.hid hv; clear hv ho ht hval; have yy0 := bk hb (w.heap.size) 0 (v := .int .i64 a) (by first | assumption | (simp [*, go_sem]; done)) (by first | omega | (simp; done) | (simp; omega)); have yy1 := bk hb (w.heap.size) 1 (v := .int .i64 b) (by first | assumption | (simp [*, go_sem]; done)) (by first | omega | (simp; done) | (simp; omega)); have yy2 := bk hb (w.heap.size + 1) 0 (v := .int .i64 c) (by first | assumption | (simp [*, go_sem]; done)) (by first | omega | (simp; done) | (simp; omega)); have yy3 := bk hb (w.heap.size + 1) 1 (v := .int .i64 d) (by first | assumption | (simp [*, go_sem]; done)) (by first | omega | (simp; done) | (simp; omega)); have Ku1 : Hid (Below w2.heap.size w2 u1) := Lib.hid (Below.trans (Below.trans (Below.refl _ _) (by (repeat' (first | (with_reducible exact Below.refl _ _) | (with_reducible assumption) | (with_reducible refine bdn ?_ _) | (with_reducible refine Below.drew ?_) | (with_reducible refine Below.alloc ?_ ?_ _) | (with_reducible refine Below.setCell ?_ ?_ _) | go_size)))) (hb.mono (B' := w2.heap.size) (by first | omega | (simp; done) | (simp; omega)))); have ssu1 := Ku1.out.size; have nnu1 : ¬ w.heap.size = u1.heap.size := (by omega); have mmu1 : ¬ w.heap.size + 1 = u1.heap.size := (by omega); have lau1 : w.heap.size < u1.heap.size := (by omega); have lbu1 : w.heap.size + 1 < u1.heap.size := (by omega); have hcu10 := fun (i : Nat) (h : w2.heap.size < _) => hb.cell (p := ⟨w2.heap.size, i, none⟩) h; have hfu10 := fun (i : Nat) (h : w2.heap.size < _) => hb.frozen (p := ⟨w2.heap.size, i, none⟩) h; have ggu1 := hb.size; (try simp at ggu1); (try replace ggu1 := Nat.lt_of_succ_le ggu1); clear hb xx0 xx1 xx2 xx3; have xx0 := yy0; have xx1 := yy1; have xx2 := yy2; have xx3 := yy3; clear yy0 yy1 yy2 yy3)
        | (go_at_call_of 53 (Value.int IntKind.i64 b); refine (of_row b HI.out.2.1.1 HI.out.2.1.2 _).mono ?_; rintro e u2 ⟨vb, lb, rfl, hv, ho, ht, hval, hb⟩; have Vb := Lib.hid (And.intro ho (And.intro hval (len_short ht (by rw [hval]; exact abs_lt HI.out.2.1)))); have Rb := Lib.hid hv; have Rc2 := Lib.hid ((Rc.out.below (by (repeat' (first | (with_reducible exact Below.refl _ _) | (with_reducible assumption) | (with_reducible refine bdn ?_ _) | (with_reducible refine Below.drew ?_) | (with_reducible refine Below.alloc ?_ ?_ _) | (with_reducible refine Below.setCell ?_ ?_ _) | go_size)))).below hb); clear hv ho ht hval; have yy0 := bk hb (w.heap.size) 0 (v := .int .i64 a) (by first | assumption | (simp [*, go_sem]; done)) (by first | omega | (simp; done) | (simp; omega)); have yy1 := bk hb (w.heap.size) 1 (v := .int .i64 b) (by first | assumption | (simp [*, go_sem]; done)) (by first | omega | (simp; done) | (simp; omega)); have yy2 := bk hb (w.heap.size + 1) 0 (v := .int .i64 c) (by first | assumption | (simp [*, go_sem]; done)) (by first | omega | (simp; done) | (simp; omega)); have yy3 := bk hb (w.heap.size + 1) 1 (v := .int .i64 d) (by first | assumption | (simp [*, go_sem]; done)) (by first | omega | (simp; done) | (simp; omega)); have Ku2 : Hid (Below w2.heap.size w2 u2) := Lib.hid (Below.trans (Below.trans Ku1.out (by (repeat' (first | (with_reducible exact Below.refl _ _) | (with_reducible assumption) | (with_reducible refine bdn ?_ _) | (with_reducible refine Below.drew ?_) | (with_reducible refine Below.alloc ?_ ?_ _) | (with_reducible refine Below.setCell ?_ ?_ _) | go_size)))) (hb.mono (B' := w2.heap.size) (by first | omega | (simp; done) | (simp; omega)))); have ssu2 := Ku2.out.size; have nnu2 : ¬ w.heap.size = u2.heap.size := (by omega); have mmu2 : ¬ w.heap.size + 1 = u2.heap.size := (by omega); have lau2 : w.heap.size < u2.heap.size := (by omega); have lbu2 : w.heap.size + 1 < u2.heap.size := (by omega); have hcu20 := fun (i : Nat) (h : w2.heap.size < _) => hb.cell (p := ⟨w2.heap.size, i, none⟩) h; have hfu20 := fun (i : Nat) (h : w2.heap.size < _) => hb.frozen (p := ⟨w2.heap.size, i, none⟩) h; have hcu21 := fun (i : Nat) (h : u1.heap.size < _) => hb.cell (p := ⟨u1.heap.size, i, none⟩) h; have hfu21 := fun (i : Nat) (h : u1.heap.size < _) => hb.frozen (p := ⟨u1.heap.size, i, none⟩) h; have ggu2 := hb.size; (try simp at ggu2); (try replace ggu2 := Nat.lt_of_succ_le ggu2); (try have ltu20 := Nat.lt_of_lt_of_le ggu1 ggu2); clear hb xx0 xx1 xx2 xx3; have xx0 := yy0; have xx1 := yy1; have xx2 := yy2; have xx3 := yy3; clear yy0 yy1 yy2 yy3)
        | (go_at_call 57; refine (mul_sg _ _ sg vc vb lc lb hsg.out _ (Rc2.out.below (by (repeat' (first | (with_reducible exact Below.refl _ _) | (with_reducible assumption) | (with_reducible refine bdn ?_ _) | (with_reducible refine Below.drew ?_) | (with_reducible refine Below.alloc ?_ ?_ _) | (with_reducible refine Below.setCell ?_ ?_ _) | go_size)))) (Rb.out.below (by (repeat' (first | (with_reducible exact Below.refl _ _) | (with_reducible assumption) | (with_reducible refine bdn ?_ _) | (with_reducible refine Below.drew ?_) | (with_reducible refine Below.alloc ?_ ?_ _) | (with_reducible refine Below.setCell ?_ ?_ _) | go_size)))) Vc.out.2.2 Vb.out.2.2 Vc.out.1 Vb.out.1).mono ?_; rintro e u3 ⟨vm, lm, rfl, hv, ho, ht, hval, hb⟩; obtain ⟨qm, cm, rfl⟩ := hv.shape; rw [Vc.out.2.1, Vb.out.2.1] at hval; have Vm := Lib.hid (And.intro ho (And.intro ht (And.intro hval (len8 ht HI.out.2.2.1 HI.out.2.1 hval)))); have Rm := Lib.hid hv; clear hv ho ht hval; have yy0 := bk hb (w.heap.size) 0 (v := .int .i64 a) (by first | assumption | (simp [*, go_sem]; done)) (by first | omega | (simp; done) | (simp; omega)); have yy1 := bk hb (w.heap.size) 1 (v := .int .i64 b) (by first | assumption | (simp [*, go_sem]; done)) (by first | omega | (simp; done) | (simp; omega)); have yy2 := bk hb (w.heap.size + 1) 0 (v := .int .i64 c) (by first | assumption | (simp [*, go_sem]; done)) (by first | omega | (simp; done) | (simp; omega)); have yy3 := bk hb (w.heap.size + 1) 1 (v := .int .i64 d) (by first | assumption | (simp [*, go_sem]; done)) (by first | omega | (simp; done) | (simp; omega)); have Ku3 : Hid (Below w2.heap.size w2 u3) := Lib.hid (Below.trans (Below.trans Ku2.out (by (repeat' (first | (with_reducible exact Below.refl _ _) | (with_reducible assumption) | (with_reducible refine bdn ?_ _) | (with_reducible refine Below.drew ?_) | (with_reducible refine Below.alloc ?_ ?_ _) | (with_reducible refine Below.setCell ?_ ?_ _) | go_size)))) (hb.mono (B' := w2.heap.size) (by first | omega | (simp; done) | (simp; omega)))); have ssu3 := Ku3.out.size; have nnu3 : ¬ w.heap.size = u3.heap.size := (by omega); have mmu3 : ¬ w.heap.size + 1 = u3.heap.size := (by omega); have lau3 : w.heap.size < u3.heap.size := (by omega); have lbu3 : w.heap.size + 1 < u3.heap.size := (by omega); have hcu30 := fun (i : Nat) (h : w2.heap.size < _) => hb.cell (p := ⟨w2.heap.size, i, none⟩) h; have hfu30 := fun (i : Nat) (h : w2.heap.size < _) => hb.frozen (p := ⟨w2.heap.size, i, none⟩) h; have hcu31 := fun (i : Nat) (h : u1.heap.size < _) => hb.cell (p := ⟨u1.heap.size, i, none⟩) h; have hfu31 := fun (i : Nat) (h : u1.heap.size < _) => hb.frozen (p := ⟨u1.heap.size, i, none⟩) h; have hcu32 := fun (i : Nat) (h : u2.heap.size < _) => hb.cell (p := ⟨u2.heap.size, i, none⟩) h; have hfu32 := fun (i : Nat) (h : u2.heap.size < _) => hb.frozen (p := ⟨u2.heap.size, i, none⟩) h; have ggu3 := hb.size; (try simp at ggu3); (try replace ggu3 := Nat.lt_of_succ_le ggu3); (try have ltu30 := Nat.lt_of_lt_of_le ltu20 ggu3); (try have ltu31 := Nat.lt_of_lt_of_le ggu2 ggu3); clear hb xx0 xx1 xx2 xx3; have xx0 := yy0; have xx1 := yy1; have xx2 := yy2; have xx3 := yy3; clear yy0 yy1 yy2 yy3))
    all_goals
      go_wp2_with fail
      go_meet
      refine ⟨_, .slice qm lm.length cm, lm, rfl, ?_, ?_, ?_, ?_, ?_, ?_, Lib.hid ?_, Vm, Lib.hid ?_⟩
      all_goals first | assumption | (simp [*, go_sem]; done) | omega | (simp; done) | (simp; omega) | exact Rm.out.alloc _ | exact (RowV.setBox (s := sg) (RowV.setBox (s := false) Rm.out (by simp [*, go_sem]) _) (by simp [*, go_sem]) _) | (repeat' (first | exact Ku3.out | (with_reducible refine bdn ?_ _) | (with_reducible refine Below.drew ?_) | (with_reducible refine Below.alloc ?_ ?_ _) | (with_reducible refine Below.setCell ?_ ?_ _) | assumption | omega | (simp; done) | (simp; omega)))
  case rest =>
    obtain ⟨B, vm, lm, rfl, m0, m1, m2, m3, m4, m5, Rm, Vm, EB⟩ := hcut
    replace BU := Lib.hid (BU.out.below EB.out); clear EB xx0 xx1 xx2 xx3
    obtain ⟨⟨xx0, xx1, xx2, xx3⟩, ⟨yy0, yy1, yy2, yy3⟩, yz, yB⟩ := BU.out
    have nb1 : ¬ w.heap.size = B := by omega
    have nb2 : ¬ w.heap.size + 1 = B := by omega
    have nb3 : ¬ w.heap.size + 1 + 1 = B := by omega
    obtain ⟨wf, hwf⟩ : ∃ x, wc.setCell ⟨B, 0, none⟩ (.bool (!sg)) = x := ⟨_, rfl⟩
    have BF : Hid (Bun w wf a b c d) := Lib.hid (by
      subst hwf
      refine ⟨⟨?_, ?_, ?_, ?_⟩, ⟨?_, ?_, ?_, ?_⟩, by simpa using yz, yB.setCell (by simp; omega) _⟩
      all_goals (simp [*, go_sem]; done))
    have f0 : wf.cell? ⟨B, 0, none⟩ = some (.bool (!sg)) := by rw [← hwf]; simp [go_sem, m0]
    have f1 : wf.cell? ⟨B, 1, none⟩ = some vm := by rw [← hwf]; simp [go_sem, m1]
    have f5 : B < wf.heap.size := by rw [← hwf]; simpa using m5
    have RF : Hid (RowV wf vm lm) := Lib.hid (by rw [← hwf]; exact Rm.out.setBox m0 _)
    have FF := Lib.hid (And.intro f0 (And.intro f1 f5)); clear f0 f1 f5
    go_wp2_with fail
    clear hwf xx0 xx1 xx2 xx3 yy0 yy1 yy2 yy3 yz yB m0 m1 m2 m3 m4 m5 Rm BU nb1 nb2
    have nb4 : ¬ B = w.heap.size + 1 + 1 := fun e => nb3 e.symm
    have BU : Hid (Bun2 w wf a b c d B (!sg) vm) := Lib.hid ⟨BF.out, FF.out⟩; clear BF FF
    obtain ⟨⟨⟨xx0, xx1, xx2, xx3⟩, -, -, -⟩, mm0, mm1, -⟩ := BU.out
    go_region_held3 (fun w' => w'.cell? ⟨w.heap.size, 0, none⟩ = some (.int .i64 a) ∧ w'.cell? ⟨w.heap.size, 1, none⟩ = some (.int .i64 b) ∧ w'.cell? ⟨w.heap.size + 1, 0, none⟩ = some (.int .i64 c) ∧ w'.cell? ⟨w.heap.size + 1, 1, none⟩ = some (.int .i64 d) ∧ w'.cell? ⟨B, 0, none⟩ = some (.bool (!sg)) ∧ w'.cell? ⟨B, 1, none⟩ = some vm) (first | (simp [*, go_sem]; done))
      (first
        | (go_at_call_of 53 (Value.int IntKind.i64 a); refine (of_row a HI.out.1.1 HI.out.1.2 _).mono ?_; rintro e uu ⟨va, la, rfl, hv, ho, ht, hval, hb⟩; have Va := Lib.hid (And.intro ho (And.intro hval (len_short ht (by rw [hval]; exact abs_lt HI.out.1)))); have Ra := Lib.hid hv; clear hv ho ht hval; (try replace RF := Lib.hid ((RF.out.below (by (repeat' (first | (with_reducible exact Below.refl _ _) | (with_reducible assumption) | (with_reducible refine bdn ?_ _) | (with_reducible refine Below.drew ?_) | (with_reducible refine Below.alloc ?_ ?_ _) | (with_reducible refine Below.setCell ?_ ?_ _) | go_size)))).below hb)); (try replace Rn := Lib.hid ((Rn.out.below (by (repeat' (first | (with_reducible exact Below.refl _ _) | (with_reducible assumption) | (with_reducible refine bdn ?_ _) | (with_reducible refine Below.drew ?_) | (with_reducible refine Below.alloc ?_ ?_ _) | (with_reducible refine Below.setCell ?_ ?_ _) | go_size)))).below hb)); (try replace Rs := Lib.hid ((Rs.out.below (by (repeat' (first | (with_reducible exact Below.refl _ _) | (with_reducible assumption) | (with_reducible refine bdn ?_ _) | (with_reducible refine Below.drew ?_) | (with_reducible refine Below.alloc ?_ ?_ _) | (with_reducible refine Below.setCell ?_ ?_ _) | go_size)))).below hb)); (try replace Rb := Lib.hid ((Rb.out.below (by (repeat' (first | (with_reducible exact Below.refl _ _) | (with_reducible assumption) | (with_reducible refine bdn ?_ _) | (with_reducible refine Below.drew ?_) | (with_reducible refine Below.alloc ?_ ?_ _) | (with_reducible refine Below.setCell ?_ ?_ _) | go_size)))).below hb)); (try replace Rd := Lib.hid ((Rd.out.below (by (repeat' (first | (with_reducible exact Below.refl _ _) | (with_reducible assumption) | (with_reducible refine bdn ?_ _) | (with_reducible refine Below.drew ?_) | (with_reducible refine Below.alloc ?_ ?_ _) | (with_reducible refine Below.setCell ?_ ?_ _) | go_size)))).below hb)); clear xx0 xx1 xx2 xx3 mm0 mm1; replace BU := Lib.hid (BU.out.below (Below.trans (by (repeat' (first | (with_reducible exact Below.refl _ _) | (with_reducible assumption) | (with_reducible refine bdn ?_ _) | (with_reducible refine Below.drew ?_) | (with_reducible refine Below.alloc ?_ ?_ _) | (with_reducible refine Below.setCell ?_ ?_ _) | go_size))) (hb.mono (by first | omega | (simp; done) | (simp; omega))))); clear hb; obtain ⟨⟨⟨xx0, xx1, xx2, xx3⟩, ⟨yy0, yy1, yy2, yy3⟩, yz, yB⟩, mm0, mm1, mm2⟩ := BU.out; clear yB mm2 yy0 yy1 yy2 yy3 yz)
        | (go_at_call_of 53 (Value.int IntKind.i64 b); refine (of_row b HI.out.2.1.1 HI.out.2.1.2 _).mono ?_; rintro e uu ⟨vb, lb, rfl, hv, ho, ht, hval, hb⟩; have Vb := Lib.hid (And.intro ho (And.intro hval (len_short ht (by rw [hval]; exact abs_lt HI.out.2.1)))); have Rb := Lib.hid hv; clear hv ho ht hval; (try replace RF := Lib.hid ((RF.out.below (by (repeat' (first | (with_reducible exact Below.refl _ _) | (with_reducible assumption) | (with_reducible refine bdn ?_ _) | (with_reducible refine Below.drew ?_) | (with_reducible refine Below.alloc ?_ ?_ _) | (with_reducible refine Below.setCell ?_ ?_ _) | go_size)))).below hb)); (try replace Rn := Lib.hid ((Rn.out.below (by (repeat' (first | (with_reducible exact Below.refl _ _) | (with_reducible assumption) | (with_reducible refine bdn ?_ _) | (with_reducible refine Below.drew ?_) | (with_reducible refine Below.alloc ?_ ?_ _) | (with_reducible refine Below.setCell ?_ ?_ _) | go_size)))).below hb)); (try replace Rs := Lib.hid ((Rs.out.below (by (repeat' (first | (with_reducible exact Below.refl _ _) | (with_reducible assumption) | (with_reducible refine bdn ?_ _) | (with_reducible refine Below.drew ?_) | (with_reducible refine Below.alloc ?_ ?_ _) | (with_reducible refine Below.setCell ?_ ?_ _) | go_size)))).below hb)); (try replace Ra := Lib.hid ((Ra.out.below (by (repeat' (first | (with_reducible exact Below.refl _ _) | (with_reducible assumption) | (with_reducible refine bdn ?_ _) | (with_reducible refine Below.drew ?_) | (with_reducible refine Below.alloc ?_ ?_ _) | (with_reducible refine Below.setCell ?_ ?_ _) | go_size)))).below hb)); (try replace Rd := Lib.hid ((Rd.out.below (by (repeat' (first | (with_reducible exact Below.refl _ _) | (with_reducible assumption) | (with_reducible refine bdn ?_ _) | (with_reducible refine Below.drew ?_) | (with_reducible refine Below.alloc ?_ ?_ _) | (with_reducible refine Below.setCell ?_ ?_ _) | go_size)))).below hb)); clear xx0 xx1 xx2 xx3 mm0 mm1; replace BU := Lib.hid (BU.out.below (Below.trans (by (repeat' (first | (with_reducible exact Below.refl _ _) | (with_reducible assumption) | (with_reducible refine bdn ?_ _) | (with_reducible refine Below.drew ?_) | (with_reducible refine Below.alloc ?_ ?_ _) | (with_reducible refine Below.setCell ?_ ?_ _) | go_size))) (hb.mono (by first | omega | (simp; done) | (simp; omega))))); clear hb; obtain ⟨⟨⟨xx0, xx1, xx2, xx3⟩, ⟨yy0, yy1, yy2, yy3⟩, yz, yB⟩, mm0, mm1, mm2⟩ := BU.out; clear yB mm2 yy0 yy1 yy2 yy3 yz)
        | (go_at_call_of 53 (Value.int IntKind.i64 d); refine (of_row d HI.out.2.2.2.1 HI.out.2.2.2.2 _).mono ?_; rintro e uu ⟨vd, ld, rfl, hv, ho, ht, hval, hb⟩; have Vd := Lib.hid (And.intro ho (And.intro hval (len_short ht (by rw [hval]; exact abs_lt HI.out.2.2.2)))); have Rd := Lib.hid hv; clear hv ho ht hval; (try replace RF := Lib.hid ((RF.out.below (by (repeat' (first | (with_reducible exact Below.refl _ _) | (with_reducible assumption) | (with_reducible refine bdn ?_ _) | (with_reducible refine Below.drew ?_) | (with_reducible refine Below.alloc ?_ ?_ _) | (with_reducible refine Below.setCell ?_ ?_ _) | go_size)))).below hb)); (try replace Rn := Lib.hid ((Rn.out.below (by (repeat' (first | (with_reducible exact Below.refl _ _) | (with_reducible assumption) | (with_reducible refine bdn ?_ _) | (with_reducible refine Below.drew ?_) | (with_reducible refine Below.alloc ?_ ?_ _) | (with_reducible refine Below.setCell ?_ ?_ _) | go_size)))).below hb)); (try replace Rs := Lib.hid ((Rs.out.below (by (repeat' (first | (with_reducible exact Below.refl _ _) | (with_reducible assumption) | (with_reducible refine bdn ?_ _) | (with_reducible refine Below.drew ?_) | (with_reducible refine Below.alloc ?_ ?_ _) | (with_reducible refine Below.setCell ?_ ?_ _) | go_size)))).below hb)); (try replace Ra := Lib.hid ((Ra.out.below (by (repeat' (first | (with_reducible exact Below.refl _ _) | (with_reducible assumption) | (with_reducible refine bdn ?_ _) | (with_reducible refine Below.drew ?_) | (with_reducible refine Below.alloc ?_ ?_ _) | (with_reducible refine Below.setCell ?_ ?_ _) | go_size)))).below hb)); (try replace Rb := Lib.hid ((Rb.out.below (by (repeat' (first | (with_reducible exact Below.refl _ _) | (with_reducible assumption) | (with_reducible refine bdn ?_ _) | (with_reducible refine Below.drew ?_) | (with_reducible refine Below.alloc ?_ ?_ _) | (with_reducible refine Below.setCell ?_ ?_ _) | go_size)))).below hb)); clear xx0 xx1 xx2 xx3 mm0 mm1; replace BU := Lib.hid (BU.out.below (Below.trans (by (repeat' (first | (with_reducible exact Below.refl _ _) | (with_reducible assumption) | (with_reducible refine bdn ?_ _) | (with_reducible refine Below.drew ?_) | (with_reducible refine Below.alloc ?_ ?_ _) | (with_reducible refine Below.setCell ?_ ?_ _) | go_size))) (hb.mono (by first | omega | (simp; done) | (simp; omega))))); clear hb; obtain ⟨⟨⟨xx0, xx1, xx2, xx3⟩, ⟨yy0, yy1, yy2, yy3⟩, yz, yB⟩, mm0, mm1, mm2⟩ := BU.out; clear yB mm2 yy0 yy1 yy2 yy3 yz)
        | (go_at_call 57; (with_reducible refine (mul_row _ _ va vd la ld _ (Ra.out.below (by (repeat' (first | (with_reducible exact Below.refl _ _) | (with_reducible assumption) | (with_reducible refine bdn ?_ _) | (with_reducible refine Below.drew ?_) | (with_reducible refine Below.alloc ?_ ?_ _) | (with_reducible refine Below.setCell ?_ ?_ _) | go_size)))) (Rd.out.below (by (repeat' (first | (with_reducible exact Below.refl _ _) | (with_reducible assumption) | (with_reducible refine bdn ?_ _) | (with_reducible refine Below.drew ?_) | (with_reducible refine Below.alloc ?_ ?_ _) | (with_reducible refine Below.setCell ?_ ?_ _) | go_size)))) Va.out.2.2 Vd.out.2.2 Va.out.1 Vd.out.1).mono ?_); rintro e uu ⟨vn, ln, rfl, hv, ho, ht, hval, hb⟩; rw [Va.out.2.1, Vd.out.2.1] at hval; have Vn := Lib.hid (And.intro ho (And.intro ht (And.intro hval (len8 ht HI.out.1 HI.out.2.2.2 hval)))); have Rn := Lib.hid hv; clear hv ho ht hval Ra Rd Va Vd; (try replace RF := Lib.hid ((RF.out.below (by (repeat' (first | (with_reducible exact Below.refl _ _) | (with_reducible assumption) | (with_reducible refine bdn ?_ _) | (with_reducible refine Below.drew ?_) | (with_reducible refine Below.alloc ?_ ?_ _) | (with_reducible refine Below.setCell ?_ ?_ _) | go_size)))).below hb)); (try replace Rs := Lib.hid ((Rs.out.below (by (repeat' (first | (with_reducible exact Below.refl _ _) | (with_reducible assumption) | (with_reducible refine bdn ?_ _) | (with_reducible refine Below.drew ?_) | (with_reducible refine Below.alloc ?_ ?_ _) | (with_reducible refine Below.setCell ?_ ?_ _) | go_size)))).below hb)); clear xx0 xx1 xx2 xx3 mm0 mm1; replace BU := Lib.hid (BU.out.below (Below.trans (by (repeat' (first | (with_reducible exact Below.refl _ _) | (with_reducible assumption) | (with_reducible refine bdn ?_ _) | (with_reducible refine Below.drew ?_) | (with_reducible refine Below.alloc ?_ ?_ _) | (with_reducible refine Below.setCell ?_ ?_ _) | go_size))) (hb.mono (by first | omega | (simp; done) | (simp; omega))))); clear hb; obtain ⟨⟨⟨xx0, xx1, xx2, xx3⟩, ⟨yy0, yy1, yy2, yy3⟩, yz, yB⟩, mm0, mm1, mm2⟩ := BU.out; clear yB mm2 yy0 yy1 yy2 yy3 yz)
        | (go_at_call 56; refine (add_row _ _ vn vm ln lm 8 _ (Rn.out.below (by (repeat' (first | (with_reducible exact Below.refl _ _) | (with_reducible assumption) | (with_reducible refine bdn ?_ _) | (with_reducible refine Below.drew ?_) | (with_reducible refine Below.alloc ?_ ?_ _) | (with_reducible refine Below.setCell ?_ ?_ _) | go_size)))) (RF.out.below (by (repeat' (first | (with_reducible exact Below.refl _ _) | (with_reducible assumption) | (with_reducible refine bdn ?_ _) | (with_reducible refine Below.drew ?_) | (with_reducible refine Below.alloc ?_ ?_ _) | (with_reducible refine Below.setCell ?_ ?_ _) | go_size)))) Vn.out.2.2.2 Vm.out.2.2.2 (by decide) Vn.out.1 Vm.out.1 Vn.out.2.1 Vm.out.2.1).mono ?_; rintro e uu ⟨ss, vs, ls, rfl, hv, ho, hl, hval, hb⟩; rw [Vn.out.2.2.1, Vm.out.2.2.1, sgn_mul, sgn_not, ← hsg.out, sgn_mul, ← Int.sub_eq_add_neg] at hval; have Vs := Lib.hid (And.intro ho (And.intro hl hval)); have Rs := Lib.hid hv; clear hv ho hl hval Rn RF Vn; clear xx0 xx1 xx2 xx3 mm0 mm1; replace BU := Lib.hid (BU.out.below (Below.trans (by (repeat' (first | (with_reducible exact Below.refl _ _) | (with_reducible assumption) | (with_reducible refine bdn ?_ _) | (with_reducible refine Below.drew ?_) | (with_reducible refine Below.alloc ?_ ?_ _) | (with_reducible refine Below.setCell ?_ ?_ _) | go_size))) (hb.mono (by first | omega | (simp; done) | (simp; omega))))); clear hb; obtain ⟨⟨⟨xx0, xx1, xx2, xx3⟩, ⟨yy0, yy1, yy2, yy3⟩, yz, yB⟩, mm0, mm1, mm2⟩ := BU.out; clear yB mm2 yy0 yy1 yy2 yy3 yz)
        | (go_at_call 57; (with_reducible refine (mul_row _ _ vb vd lb ld _ (Rb.out.below (by (repeat' (first | (with_reducible exact Below.refl _ _) | (with_reducible assumption) | (with_reducible refine bdn ?_ _) | (with_reducible refine Below.drew ?_) | (with_reducible refine Below.alloc ?_ ?_ _) | (with_reducible refine Below.setCell ?_ ?_ _) | go_size)))) (Rd.out.below (by (repeat' (first | (with_reducible exact Below.refl _ _) | (with_reducible assumption) | (with_reducible refine bdn ?_ _) | (with_reducible refine Below.drew ?_) | (with_reducible refine Below.alloc ?_ ?_ _) | (with_reducible refine Below.setCell ?_ ?_ _) | go_size)))) Vb.out.2.2 Vd.out.2.2 Vb.out.1 Vd.out.1).mono ?_); rintro e uu ⟨vk, lk, rfl, hv, ho, ht, hval, hb⟩; rw [Vb.out.2.1, Vd.out.2.1] at hval; have Vk := Lib.hid (And.intro ho (And.intro ht (And.intro hval (len8 ht HI.out.2.1 HI.out.2.2.2 hval)))); have Rk := Lib.hid hv; clear hv ho ht hval Rb Rd Vb Vd; (try replace Rs := Lib.hid ((Rs.out.below (by (repeat' (first | (with_reducible exact Below.refl _ _) | (with_reducible assumption) | (with_reducible refine bdn ?_ _) | (with_reducible refine Below.drew ?_) | (with_reducible refine Below.alloc ?_ ?_ _) | (with_reducible refine Below.setCell ?_ ?_ _) | go_size)))).below hb)); clear xx0 xx1 xx2 xx3 mm0 mm1; replace BU := Lib.hid (BU.out.below (Below.trans (by (repeat' (first | (with_reducible exact Below.refl _ _) | (with_reducible assumption) | (with_reducible refine bdn ?_ _) | (with_reducible refine Below.drew ?_) | (with_reducible refine Below.alloc ?_ ?_ _) | (with_reducible refine Below.setCell ?_ ?_ _) | go_size))) (hb.mono (by first | omega | (simp; done) | (simp; omega))))); clear hb; obtain ⟨⟨⟨xx0, xx1, xx2, xx3⟩, ⟨yy0, yy1, yy2, yy3⟩, yz, yB⟩, mm0, mm1, mm2⟩ := BU.out; clear yB mm2 yy0 yy1 yy2 yy3 yz)
        | (go_at_call 52; refine (lowest_row _ _ vs vk ls lk _ (Rs.out.below (by (repeat' (first | (with_reducible exact Below.refl _ _) | (with_reducible assumption) | (with_reducible refine bdn ?_ _) | (with_reducible refine Below.drew ?_) | (with_reducible refine Below.alloc ?_ ?_ _) | (with_reducible refine Below.setCell ?_ ?_ _) | go_size)))) (Rk.out.below (by (repeat' (first | (with_reducible exact Below.refl _ _) | (with_reducible assumption) | (with_reducible refine bdn ?_ _) | (with_reducible refine Below.drew ?_) | (with_reducible refine Below.alloc ?_ ?_ _) | (with_reducible refine Below.setCell ?_ ?_ _) | go_size)))) (by have := Vs.out.2.1; omega) (by have := Vk.out.2.2.2; omega) Vs.out.1 Vk.out.1 (by rw [Vk.out.2.2.1]; exact den_pos G4.out)).mono ?_; rintro e uu ⟨he, hb⟩; rw [Vs.out.2.2, Vk.out.2.2.1, sgn_mul] at he; subst he; clear xx0 xx1 xx2 xx3 mm0 mm1; replace BU := Lib.hid (BU.out.below (Below.trans (by (repeat' (first | (with_reducible exact Below.refl _ _) | (with_reducible assumption) | (with_reducible refine bdn ?_ _) | (with_reducible refine Below.drew ?_) | (with_reducible refine Below.alloc ?_ ?_ _) | (with_reducible refine Below.setCell ?_ ?_ _) | go_size))) (hb.mono (by first | omega | (simp; done) | (simp; omega))))); clear hb; obtain ⟨⟨⟨xx0, xx1, xx2, xx3⟩, ⟨yy0, yy1, yy2, yy3⟩, yz, yB⟩, mm0, mm1, mm2⟩ := BU.out; clear yB mm2))
    all_goals
      go_wp2
      refine bodyPost_ret (v := .tuple #[ratV (Num.resN (a * d - c * b) (b * d)) (Num.resD (a * d - c * b) (b * d)), .bool (Num.okB (a * d - c * b) (b * d))]) (by simp [results, Tryz.results27, go_sem, yy0, yy1]) rfl ⟨rfl, ?_⟩
      repeat' (first | exact BU.out.1.done _ _ | exact BU.out.1.2.2.2 | (with_reducible refine bdn ?_ _) | (with_reducible refine Below.drew ?_) | (with_reducible refine Below.setCell ?_ ?_ _) | (simp; done) | (simp; omega))

theorem refSub_c (a b c d rn rd : Int) (rb : Bool) (ha : I64 a) (hb : I64 b) (hc : I64 c) (hd : I64 d) (h : (Num.opN (Num.rtB a b && Num.rtB c d) (a * d - c * b) (b * d), Num.opD (Num.rtB a b && Num.rtB c d) (a * d - c * b) (b * d), Num.opB (Num.rtB a b && Num.rtB c d) (a * d - c * b) (b * d)) = (rn, rd, rb)) (w : World) :
    Calls Tryz.prog 27 #[ratV a b, ratV c d] w fun e w' => e = .returned (.tuple #[ratV rn rd, .bool rb]) ∧ Below w.heap.size w w' := by
  simp only [Prod.mk.injEq] at h
  rw [← h.1, ← h.2.1, ← h.2.2]
  cases h1 : (Num.rtB a b && Num.rtB c d)
  · exact refSub_no a b c d ha hb hc hd _ _ rfl rfl h1 w
  · have p1 : Num.rtB a b = true := by cases e : Num.rtB a b <;> simp_all
    have p2 : Num.rtB c d = true := by cases e : Num.rtB c d <;> simp_all
    have b1 := Num.rt_pos p1; have d1 := Num.rt_pos p2
    have hD : b * d ≠ 0 := Int.mul_ne_zero (by omega) (by omega)
    cases ht : tinyB a b c d
    · exact refSub_large a b c d ha hb hc hd p1 p2 ht hD w
    · have := refSub_tiny a b c d ha hb hc hd p1 p2 ht hD w
      have T := tiny_parts ht
      have s1 := small_mul T.1 T.2.2.2; have s2 := small_mul T.2.2.1 T.2.1; have s3 := small_mul T.2.1 T.2.2.2
      obtain ⟨e1, e2, e3⟩ := Num.ok_small (n := a * d - c * b) (d := b * d) hD (by omega) (by omega)
      unfold Num.opN Num.opD Num.opB
      rw [e1, e2, e3]; exact this
end Go.Proofs.YtokmfgpbfhfafaaGreatDoor

/- The reference of layer 1: Cmp. Condition: the arguments are ints. -/
namespace Go.Proofs.YtokmfgpbfhfafaaGreatDoor
open Go.RowKit

/-- What the boxes of two arguments hold. -/
def BunC (w u : World) (a b c d : Int) : Prop :=
  (u.cell? ⟨w.heap.size, 0, none⟩ = some (.int .i64 a) ∧ u.cell? ⟨w.heap.size, 1, none⟩ = some (.int .i64 b) ∧ u.cell? ⟨w.heap.size + 1, 0, none⟩ = some (.int .i64 c) ∧ u.cell? ⟨w.heap.size + 1, 1, none⟩ = some (.int .i64 d)) ∧
    w.heap.size + 1 < u.heap.size ∧ Below w.heap.size w u
theorem BunC.below {w u u' : World} {a b c d : Int} (h : BunC w u a b c d) (hb : Below u.heap.size u u') : BunC w u' a b c d := by
  obtain ⟨⟨h0, h1, h2, h3⟩, hs, hB⟩ := h
  exact ⟨⟨bk hb _ _ h0 (by omega), bk hb _ _ h1 (by omega), bk hb _ _ h2 (by omega), bk hb _ _ h3 (by omega)⟩, bs hb hs, hB.trans (hb.mono hB.size)⟩
theorem BunC.start (w : World) (a b c d : Int) (t : TypeId) : BunC w ((w.alloc (.cells #[.int .i64 a, .int .i64 b] t)).alloc (.cells #[.int .i64 c, .int .i64 d] t)) a b c d := by
  refine ⟨⟨?_, ?_, ?_, ?_⟩, by simp, ?_⟩
  all_goals first | (simp [go_sem]; done) | (repeat' (first | (with_reducible exact Below.refl _ _) | (with_reducible assumption) | (with_reducible refine bdn ?_ _) | (with_reducible refine Below.drew ?_) | (with_reducible refine Below.alloc ?_ ?_ _) | (with_reducible refine Below.setCell ?_ ?_ _) | go_size))

set_option maxHeartbeats 4000000 in
theorem refCmp_no (a b c d : Int) (p q : Bool) (ha : I64 a) (hb : I64 b) (hc : I64 c) (hd : I64 d) (h1 : Num.rtB a b = p) (h2 : Num.rtB c d = q) (hpq : (p && q) = false) (w : World) :
    Calls Tryz.prog 30 #[ratV a b, ratV c d] w fun e w' => e = .returned (.int .i64 0) ∧ Below w.heap.size w w' := by
  have HI := Lib.hid (And.intro ha (And.intro hb (And.intro hc hd))); clear ha hb hc hd
  have G1 := Lib.hid h1; have G2 := Lib.hid h2; clear h1 h2
  go_enter Tryz.func30, Tryz.ntmps30
  have B0 := Lib.hid (BunC.start w a b c d 25)
  go_wp2_with fail
  refine (both_c a b c d p q HI.out.1 HI.out.2.1 HI.out.2.2.1 HI.out.2.2.2 G1.out G2.out _).mono ?_; rintro e w1 ⟨rfl, hb⟩
  have B1 := Lib.hid (B0.out.below hb); clear hb
  rw [hpq]
  go_wp2
  go_ret
  exact ⟨rfl, B1.out.2.2⟩

theorem cmp_sgn {a b c d v : Int} {s : Bool} (hv : 0 ≤ v) (h : Num.sgn s v = a * d - c * b) : (v = 0 → Num.cmpI (a * d) (c * b) = 0) ∧ (v ≠ 0 → s = true → Num.cmpI (a * d) (c * b) = -1) ∧ (v ≠ 0 → s = false → Num.cmpI (a * d) (c * b) = 1) := by
  unfold Num.cmpI Num.sgn at *
  refine ⟨fun h0 => ?_, fun h0 hs => ?_, fun h0 hs => ?_⟩
  · rw [if_pos (by subst h0; cases s <;> simp at h <;> omega)]
  · subst hs; simp at h; rw [if_neg (by omega), if_pos (by omega)]
  · subst hs; simp at h; rw [if_neg (by omega), if_neg (by omega)]

set_option maxHeartbeats 8000000 in
set_option maxRecDepth 100000 in
theorem refCmp_yes (a b c d v : Int) (ha : I64 a) (hb : I64 b) (hc : I64 c) (hd : I64 d) (h1 : Num.rtB a b = true) (h2 : Num.rtB c d = true) (hv : Num.cmpI (a * d) (c * b) = v) (w : World) :
    Calls Tryz.prog 30 #[ratV a b, ratV c d] w fun e w' => e = .returned (.int .i64 v) ∧ Below w.heap.size w w' := by
  have HI := Lib.hid (And.intro ha (And.intro hb (And.intro hc hd))); clear ha hb hc hd
  have G1 := Lib.hid h1; have G2 := Lib.hid h2; have HV := Lib.hid hv; clear h1 h2 hv
  go_enter Tryz.func30, Tryz.ntmps30
  have B0 := Lib.hid (BunC.start w a b c d 25)
  obtain ⟨⟨xx0, xx1, xx2, xx3⟩, -, -⟩ := B0.out
  go_wp2_with fail
  refine (both_c a b c d true true HI.out.1 HI.out.2.1 HI.out.2.2.1 HI.out.2.2.2 G1.out G2.out _).mono ?_; rintro e w1 ⟨rfl, hb⟩
  have BU := Lib.hid (B0.out.below hb); clear hb xx0 xx1 xx2 xx3 B0
  obtain ⟨⟨xx0, xx1, xx2, xx3⟩, xs, -⟩ := BU.out
  obtain ⟨sg, hsg0⟩ : ∃ sg, (decide (c < 0) != decide (b < 0)) = sg := ⟨_, rfl⟩
  have hsg := Lib.hid hsg0; clear hsg0
  go_upto_region 3 with fail
  go_cut [5] (fun s1 wx => ∃ (B : Nat) (vm : Value) (lm : List Int), s1 = .pointer (some ⟨B, 0, none⟩) ∧ wx.cell? ⟨B, 0, none⟩ = some (.bool sg) ∧ wx.cell? ⟨B, 1, none⟩ = some vm ∧ wx.frozen? ⟨B, 0, none⟩ = false ∧ wx.frozen? ⟨B, 1, none⟩ = false ∧ w1.heap.size ≤ B ∧ B < wx.heap.size ∧ Hid (RowV wx vm lm) ∧ Hid (Dig.okL lm ∧ Dig.Trim lm ∧ Dig.val lm = (c.natAbs : Int) * (b.natAbs : Int) ∧ lm.length ≤ 8) ∧ Hid (Below w1.heap.size w1 wx))
  case first =>
    have ne1 : ¬ w.heap.size = w1.heap.size := by omega
    have ne2 : ¬ w.heap.size + 1 = w1.heap.size := by omega
    have le1 : w.heap.size < w1.heap.size := by omega
    have le2 : w.heap.size + 1 < w1.heap.size := by omega
    go_region_held3 (fun w' => w'.cell? ⟨w.heap.size, 0, none⟩ = some (.int .i64 a) ∧ w'.cell? ⟨w.heap.size, 1, none⟩ = some (.int .i64 b) ∧ w'.cell? ⟨w.heap.size + 1, 0, none⟩ = some (.int .i64 c) ∧ w'.cell? ⟨w.heap.size + 1, 1, none⟩ = some (.int .i64 d)) (first | (simp [*, go_sem]; done) | (simp [*, go_sem, World.cell?_alloc_past]; done))
      (first
        | (go_at_call_of 53 (Value.int IntKind.i64 c); refine (of_row c HI.out.2.2.1.1 HI.out.2.2.1.2 _).mono ?_; rintro e u1 ⟨vc, lc, rfl, hv, ho, ht, hval, hb⟩; have Vc := Lib.hid (And.intro ho (And.intro hval (len_short ht (by rw [hval]; exact abs_lt HI.out.2.2.1)))); have Rc := Lib.hid hv; clear hv ho ht hval; have yy0 := bk hb (w.heap.size) 0 (v := .int .i64 a) (by first | assumption | (simp [*, go_sem]; done)) (by first | omega | (simp; done) | (simp; omega)); have yy1 := bk hb (w.heap.size) 1 (v := .int .i64 b) (by first | assumption | (simp [*, go_sem]; done)) (by first | omega | (simp; done) | (simp; omega)); have yy2 := bk hb (w.heap.size + 1) 0 (v := .int .i64 c) (by first | assumption | (simp [*, go_sem]; done)) (by first | omega | (simp; done) | (simp; omega)); have yy3 := bk hb (w.heap.size + 1) 1 (v := .int .i64 d) (by first | assumption | (simp [*, go_sem]; done)) (by first | omega | (simp; done) | (simp; omega)); have Ku1 : Hid (Below w1.heap.size w1 u1) := Lib.hid (Below.trans (Below.trans (Below.refl _ _) (by (repeat' (first | (with_reducible exact Below.refl _ _) | (with_reducible assumption) | (with_reducible refine bdn ?_ _) | (with_reducible refine Below.drew ?_) | (with_reducible refine Below.alloc ?_ ?_ _) | (with_reducible refine Below.setCell ?_ ?_ _) | go_size)))) (hb.mono (B' := w1.heap.size) (by first | omega | (simp; done) | (simp; omega)))); have ssu1 := Ku1.out.size; have nnu1 : ¬ w.heap.size = u1.heap.size := (by omega); have mmu1 : ¬ w.heap.size + 1 = u1.heap.size := (by omega); have lau1 : w.heap.size < u1.heap.size := (by omega); have lbu1 : w.heap.size + 1 < u1.heap.size := (by omega); have hcu10 := fun (i : Nat) (h : w1.heap.size < _) => hb.cell (p := ⟨w1.heap.size, i, none⟩) h; have hfu10 := fun (i : Nat) (h : w1.heap.size < _) => hb.frozen (p := ⟨w1.heap.size, i, none⟩) h; have ggu1 := hb.size; (try simp at ggu1); (try replace ggu1 := Nat.lt_of_succ_le ggu1); clear hb xx0 xx1 xx2 xx3; have xx0 := yy0; have xx1 := yy1; have xx2 := yy2; have xx3 := yy3; clear yy0 yy1 yy2 yy3)
        | (go_at_call_of 53 (Value.int IntKind.i64 b); refine (of_row b HI.out.2.1.1 HI.out.2.1.2 _).mono ?_; rintro e u2 ⟨vb, lb, rfl, hv, ho, ht, hval, hb⟩; have Vb := Lib.hid (And.intro ho (And.intro hval (len_short ht (by rw [hval]; exact abs_lt HI.out.2.1)))); have Rb := Lib.hid hv; have Rc2 := Lib.hid ((Rc.out.below (by (repeat' (first | (with_reducible exact Below.refl _ _) | (with_reducible assumption) | (with_reducible refine bdn ?_ _) | (with_reducible refine Below.drew ?_) | (with_reducible refine Below.alloc ?_ ?_ _) | (with_reducible refine Below.setCell ?_ ?_ _) | go_size)))).below hb); clear hv ho ht hval; have yy0 := bk hb (w.heap.size) 0 (v := .int .i64 a) (by first | assumption | (simp [*, go_sem]; done)) (by first | omega | (simp; done) | (simp; omega)); have yy1 := bk hb (w.heap.size) 1 (v := .int .i64 b) (by first | assumption | (simp [*, go_sem]; done)) (by first | omega | (simp; done) | (simp; omega)); have yy2 := bk hb (w.heap.size + 1) 0 (v := .int .i64 c) (by first | assumption | (simp [*, go_sem]; done)) (by first | omega | (simp; done) | (simp; omega)); have yy3 := bk hb (w.heap.size + 1) 1 (v := .int .i64 d) (by first | assumption | (simp [*, go_sem]; done)) (by first | omega | (simp; done) | (simp; omega)); have Ku2 : Hid (Below w1.heap.size w1 u2) := Lib.hid (Below.trans (Below.trans Ku1.out (by (repeat' (first | (with_reducible exact Below.refl _ _) | (with_reducible assumption) | (with_reducible refine bdn ?_ _) | (with_reducible refine Below.drew ?_) | (with_reducible refine Below.alloc ?_ ?_ _) | (with_reducible refine Below.setCell ?_ ?_ _) | go_size)))) (hb.mono (B' := w1.heap.size) (by first | omega | (simp; done) | (simp; omega)))); have ssu2 := Ku2.out.size; have nnu2 : ¬ w.heap.size = u2.heap.size := (by omega); have mmu2 : ¬ w.heap.size + 1 = u2.heap.size := (by omega); have lau2 : w.heap.size < u2.heap.size := (by omega); have lbu2 : w.heap.size + 1 < u2.heap.size := (by omega); have hcu20 := fun (i : Nat) (h : w1.heap.size < _) => hb.cell (p := ⟨w1.heap.size, i, none⟩) h; have hfu20 := fun (i : Nat) (h : w1.heap.size < _) => hb.frozen (p := ⟨w1.heap.size, i, none⟩) h; have hcu21 := fun (i : Nat) (h : u1.heap.size < _) => hb.cell (p := ⟨u1.heap.size, i, none⟩) h; have hfu21 := fun (i : Nat) (h : u1.heap.size < _) => hb.frozen (p := ⟨u1.heap.size, i, none⟩) h; have ggu2 := hb.size; (try simp at ggu2); (try replace ggu2 := Nat.lt_of_succ_le ggu2); (try have ltu20 := Nat.lt_of_lt_of_le ggu1 ggu2); clear hb xx0 xx1 xx2 xx3; have xx0 := yy0; have xx1 := yy1; have xx2 := yy2; have xx3 := yy3; clear yy0 yy1 yy2 yy3)
        | (go_at_call 57; refine (mul_sg _ _ sg vc vb lc lb hsg.out _ (Rc2.out.below (by (repeat' (first | (with_reducible exact Below.refl _ _) | (with_reducible assumption) | (with_reducible refine bdn ?_ _) | (with_reducible refine Below.drew ?_) | (with_reducible refine Below.alloc ?_ ?_ _) | (with_reducible refine Below.setCell ?_ ?_ _) | go_size)))) (Rb.out.below (by (repeat' (first | (with_reducible exact Below.refl _ _) | (with_reducible assumption) | (with_reducible refine bdn ?_ _) | (with_reducible refine Below.drew ?_) | (with_reducible refine Below.alloc ?_ ?_ _) | (with_reducible refine Below.setCell ?_ ?_ _) | go_size)))) Vc.out.2.2 Vb.out.2.2 Vc.out.1 Vb.out.1).mono ?_; rintro e u3 ⟨vm, lm, rfl, hv, ho, ht, hval, hb⟩; obtain ⟨qm, cm, rfl⟩ := hv.shape; rw [Vc.out.2.1, Vb.out.2.1] at hval; have Vm := Lib.hid (And.intro ho (And.intro ht (And.intro hval (len8 ht HI.out.2.2.1 HI.out.2.1 hval)))); have Rm := Lib.hid hv; clear hv ho ht hval; have yy0 := bk hb (w.heap.size) 0 (v := .int .i64 a) (by first | assumption | (simp [*, go_sem]; done)) (by first | omega | (simp; done) | (simp; omega)); have yy1 := bk hb (w.heap.size) 1 (v := .int .i64 b) (by first | assumption | (simp [*, go_sem]; done)) (by first | omega | (simp; done) | (simp; omega)); have yy2 := bk hb (w.heap.size + 1) 0 (v := .int .i64 c) (by first | assumption | (simp [*, go_sem]; done)) (by first | omega | (simp; done) | (simp; omega)); have yy3 := bk hb (w.heap.size + 1) 1 (v := .int .i64 d) (by first | assumption | (simp [*, go_sem]; done)) (by first | omega | (simp; done) | (simp; omega)); have Ku3 : Hid (Below w1.heap.size w1 u3) := Lib.hid (Below.trans (Below.trans Ku2.out (by (repeat' (first | (with_reducible exact Below.refl _ _) | (with_reducible assumption) | (with_reducible refine bdn ?_ _) | (with_reducible refine Below.drew ?_) | (with_reducible refine Below.alloc ?_ ?_ _) | (with_reducible refine Below.setCell ?_ ?_ _) | go_size)))) (hb.mono (B' := w1.heap.size) (by first | omega | (simp; done) | (simp; omega)))); have ssu3 := Ku3.out.size; have nnu3 : ¬ w.heap.size = u3.heap.size := (by omega); have mmu3 : ¬ w.heap.size + 1 = u3.heap.size := (by omega); have lau3 : w.heap.size < u3.heap.size := (by omega); have lbu3 : w.heap.size + 1 < u3.heap.size := (by omega); have hcu30 := fun (i : Nat) (h : w1.heap.size < _) => hb.cell (p := ⟨w1.heap.size, i, none⟩) h; have hfu30 := fun (i : Nat) (h : w1.heap.size < _) => hb.frozen (p := ⟨w1.heap.size, i, none⟩) h; have hcu31 := fun (i : Nat) (h : u1.heap.size < _) => hb.cell (p := ⟨u1.heap.size, i, none⟩) h; have hfu31 := fun (i : Nat) (h : u1.heap.size < _) => hb.frozen (p := ⟨u1.heap.size, i, none⟩) h; have hcu32 := fun (i : Nat) (h : u2.heap.size < _) => hb.cell (p := ⟨u2.heap.size, i, none⟩) h; have hfu32 := fun (i : Nat) (h : u2.heap.size < _) => hb.frozen (p := ⟨u2.heap.size, i, none⟩) h; have ggu3 := hb.size; (try simp at ggu3); (try replace ggu3 := Nat.lt_of_succ_le ggu3); (try have ltu30 := Nat.lt_of_lt_of_le ltu20 ggu3); (try have ltu31 := Nat.lt_of_lt_of_le ggu2 ggu3); clear hb xx0 xx1 xx2 xx3; have xx0 := yy0; have xx1 := yy1; have xx2 := yy2; have xx3 := yy3; clear yy0 yy1 yy2 yy3))
    all_goals
      go_wp2_with fail
      go_meet
      refine ⟨_, .slice qm lm.length cm, lm, rfl, ?_, ?_, ?_, ?_, ?_, ?_, Lib.hid ?_, Vm, Lib.hid ?_⟩
      all_goals first | assumption | (simp [*, go_sem]; done) | omega | (simp; done) | (simp; omega) | exact Rm.out.alloc _ | exact (RowV.setBox (s := sg) (RowV.setBox (s := false) Rm.out (by simp [*, go_sem]) _) (by simp [*, go_sem]) _) | (repeat' (first | exact Ku3.out | (with_reducible refine bdn ?_ _) | (with_reducible refine Below.drew ?_) | (with_reducible refine Below.alloc ?_ ?_ _) | (with_reducible refine Below.setCell ?_ ?_ _) | assumption | omega | (simp; done) | (simp; omega)))
  case rest =>
    obtain ⟨B, vm, lm, rfl, m0, m1, m2, m3, m4, m5, Rm, Vm, EB⟩ := hcut
    replace BU := Lib.hid (BU.out.below EB.out); clear EB xx0 xx1 xx2 xx3
    obtain ⟨⟨xx0, xx1, xx2, xx3⟩, yz, yB⟩ := BU.out
    have nb1 : ¬ w.heap.size = B := by omega
    have nb2 : ¬ w.heap.size + 1 = B := by omega
    obtain ⟨wf, hwf⟩ : ∃ x, wc.setCell ⟨B, 0, none⟩ (.bool (!sg)) = x := ⟨_, rfl⟩
    have BF : Hid (BunC w wf a b c d) := Lib.hid (by
      subst hwf
      refine ⟨⟨?_, ?_, ?_, ?_⟩, by simpa using yz, yB.setCell (by simp; omega) _⟩
      all_goals (simp [*, go_sem]; done))
    have f0 : wf.cell? ⟨B, 0, none⟩ = some (.bool (!sg)) := by rw [← hwf]; simp [go_sem, m0]
    have f1 : wf.cell? ⟨B, 1, none⟩ = some vm := by rw [← hwf]; simp [go_sem, m1]
    have f5 : B < wf.heap.size := by rw [← hwf]; simpa using m5
    have RF : Hid (RowV wf vm lm) := Lib.hid (by rw [← hwf]; exact Rm.out.setBox m0 _)
    have FF := Lib.hid (And.intro f0 (And.intro f1 f5)); clear f0 f1 f5
    go_upto_region 5 with fail
    clear hwf xx0 xx1 xx2 xx3 yz yB m0 m1 m2 m3 m4 m5 Rm BU nb1 nb2
    obtain ⟨⟨xx0, xx1, xx2, xx3⟩, xs, FB⟩ := BF.out
    obtain ⟨mm0, mm1, ms⟩ := FF.out
    have FB := Lib.hid FB
    go_cut [6] (fun s1 wx => ∃ (B2 : Nat) (vs : Value) (ls : List Int) (ss : Bool), s1 = .pointer (some ⟨B2, 0, none⟩) ∧ wx.cell? ⟨B2, 0, none⟩ = some (.bool ss) ∧ wx.cell? ⟨B2, 1, none⟩ = some vs ∧ B2 < wx.heap.size ∧ Hid (RowV wx vs ls) ∧ Hid (Dig.okL ls ∧ Num.sgn ss (Dig.val ls) = a * d - c * b) ∧ Hid (Below w.heap.size w wx))
    case first =>
      have le1 : w.heap.size < wf.heap.size := by omega
      have le2 : w.heap.size + 1 < wf.heap.size := by omega
      have ne1 : ¬ w.heap.size = wf.heap.size := by omega
      have ne2 : ¬ w.heap.size + 1 = wf.heap.size := by omega
      have ne3 : ¬ B = wf.heap.size := by omega
      go_region_held3 (fun w' => w'.cell? ⟨w.heap.size, 0, none⟩ = some (.int .i64 a) ∧ w'.cell? ⟨w.heap.size, 1, none⟩ = some (.int .i64 b) ∧ w'.cell? ⟨w.heap.size + 1, 0, none⟩ = some (.int .i64 c) ∧ w'.cell? ⟨w.heap.size + 1, 1, none⟩ = some (.int .i64 d) ∧ w'.cell? ⟨B, 0, none⟩ = some (.bool (!sg)) ∧ w'.cell? ⟨B, 1, none⟩ = some (vm)) (first | (simp [*, go_sem]; done) | (simp [*, go_sem, World.cell?_alloc_past]; done))
        (first
          | (go_at_call_of 53 (Value.int IntKind.i64 a); refine (of_row a HI.out.1.1 HI.out.1.2 _).mono ?_; rintro e u1 ⟨va, la, rfl, hv, ho, ht, hval, hb⟩; have Va := Lib.hid (And.intro ho (And.intro hval (len_short ht (by rw [hval]; exact abs_lt HI.out.1)))); have Ra := Lib.hid hv; have RF1 := Lib.hid ((RF.out.below (by (repeat' (first | (with_reducible exact Below.refl _ _) | (with_reducible assumption) | (with_reducible refine bdn ?_ _) | (with_reducible refine Below.drew ?_) | (with_reducible refine Below.alloc ?_ ?_ _) | (with_reducible refine Below.setCell ?_ ?_ _) | go_size)))).below hb); clear hv ho ht hval; have yy0 := bk hb (w.heap.size) 0 (v := .int .i64 a) (by first | assumption | (simp [*, go_sem]; done)) (by first | omega | (simp; done) | (simp; omega)); have yy1 := bk hb (w.heap.size) 1 (v := .int .i64 b) (by first | assumption | (simp [*, go_sem]; done)) (by first | omega | (simp; done) | (simp; omega)); have yy2 := bk hb (w.heap.size + 1) 0 (v := .int .i64 c) (by first | assumption | (simp [*, go_sem]; done)) (by first | omega | (simp; done) | (simp; omega)); have yy3 := bk hb (w.heap.size + 1) 1 (v := .int .i64 d) (by first | assumption | (simp [*, go_sem]; done)) (by first | omega | (simp; done) | (simp; omega)); have yy4 := bk hb (B) 0 (v := .bool (!sg)) (by first | assumption | (simp [*, go_sem]; done)) (by first | omega | (simp; done) | (simp; omega)); have yy5 := bk hb (B) 1 (v := vm) (by first | assumption | (simp [*, go_sem]; done)) (by first | omega | (simp; done) | (simp; omega)); have yms := bs (n := B) hb (by first | omega | (simp; done) | (simp; omega)); have Ku1 : Hid (Below wf.heap.size wf u1) := Lib.hid (Below.trans (Below.trans (Below.refl _ _) (by (repeat' (first | (with_reducible exact Below.refl _ _) | (with_reducible assumption) | (with_reducible refine bdn ?_ _) | (with_reducible refine Below.drew ?_) | (with_reducible refine Below.alloc ?_ ?_ _) | (with_reducible refine Below.setCell ?_ ?_ _) | go_size)))) (hb.mono (B' := wf.heap.size) (by first | omega | (simp; done) | (simp; omega)))); have ssu1 := Ku1.out.size; have nnu1 : ¬ w.heap.size = u1.heap.size := (by omega); have mmu1 : ¬ w.heap.size + 1 = u1.heap.size := (by omega); have lau1 : w.heap.size < u1.heap.size := (by omega); have lbu1 : w.heap.size + 1 < u1.heap.size := (by omega); have nou1 : ¬ B = u1.heap.size := (by omega); have hcu10 := fun (i : Nat) (h : wf.heap.size < _) => hb.cell (p := ⟨wf.heap.size, i, none⟩) h; have hfu10 := fun (i : Nat) (h : wf.heap.size < _) => hb.frozen (p := ⟨wf.heap.size, i, none⟩) h; have ggu1 := hb.size; (try simp at ggu1); (try replace ggu1 := Nat.lt_of_succ_le ggu1); clear hb xx0 xx1 xx2 xx3 mm0 mm1 ms; have xx0 := yy0; have xx1 := yy1; have xx2 := yy2; have xx3 := yy3; have mm0 := yy4; have mm1 := yy5; have ms := yms; clear yy0 yy1 yy2 yy3 yy4 yy5 yms)
          | (go_at_call_of 53 (Value.int IntKind.i64 d); refine (of_row d HI.out.2.2.2.1 HI.out.2.2.2.2 _).mono ?_; rintro e u2 ⟨vd, ld, rfl, hv, ho, ht, hval, hb⟩; have Vd := Lib.hid (And.intro ho (And.intro hval (len_short ht (by rw [hval]; exact abs_lt HI.out.2.2.2)))); have Rd := Lib.hid hv; have Ra2 := Lib.hid ((Ra.out.below (by (repeat' (first | (with_reducible exact Below.refl _ _) | (with_reducible assumption) | (with_reducible refine bdn ?_ _) | (with_reducible refine Below.drew ?_) | (with_reducible refine Below.alloc ?_ ?_ _) | (with_reducible refine Below.setCell ?_ ?_ _) | go_size)))).below hb); have RF2 := Lib.hid ((RF1.out.below (by (repeat' (first | (with_reducible exact Below.refl _ _) | (with_reducible assumption) | (with_reducible refine bdn ?_ _) | (with_reducible refine Below.drew ?_) | (with_reducible refine Below.alloc ?_ ?_ _) | (with_reducible refine Below.setCell ?_ ?_ _) | go_size)))).below hb); clear hv ho ht hval; have yy0 := bk hb (w.heap.size) 0 (v := .int .i64 a) (by first | assumption | (simp [*, go_sem]; done)) (by first | omega | (simp; done) | (simp; omega)); have yy1 := bk hb (w.heap.size) 1 (v := .int .i64 b) (by first | assumption | (simp [*, go_sem]; done)) (by first | omega | (simp; done) | (simp; omega)); have yy2 := bk hb (w.heap.size + 1) 0 (v := .int .i64 c) (by first | assumption | (simp [*, go_sem]; done)) (by first | omega | (simp; done) | (simp; omega)); have yy3 := bk hb (w.heap.size + 1) 1 (v := .int .i64 d) (by first | assumption | (simp [*, go_sem]; done)) (by first | omega | (simp; done) | (simp; omega)); have yy4 := bk hb (B) 0 (v := .bool (!sg)) (by first | assumption | (simp [*, go_sem]; done)) (by first | omega | (simp; done) | (simp; omega)); have yy5 := bk hb (B) 1 (v := vm) (by first | assumption | (simp [*, go_sem]; done)) (by first | omega | (simp; done) | (simp; omega)); have yms := bs (n := B) hb (by first | omega | (simp; done) | (simp; omega)); have Ku2 : Hid (Below wf.heap.size wf u2) := Lib.hid (Below.trans (Below.trans Ku1.out (by (repeat' (first | (with_reducible exact Below.refl _ _) | (with_reducible assumption) | (with_reducible refine bdn ?_ _) | (with_reducible refine Below.drew ?_) | (with_reducible refine Below.alloc ?_ ?_ _) | (with_reducible refine Below.setCell ?_ ?_ _) | go_size)))) (hb.mono (B' := wf.heap.size) (by first | omega | (simp; done) | (simp; omega)))); have ssu2 := Ku2.out.size; have nnu2 : ¬ w.heap.size = u2.heap.size := (by omega); have mmu2 : ¬ w.heap.size + 1 = u2.heap.size := (by omega); have lau2 : w.heap.size < u2.heap.size := (by omega); have lbu2 : w.heap.size + 1 < u2.heap.size := (by omega); have nou2 : ¬ B = u2.heap.size := (by omega); have hcu20 := fun (i : Nat) (h : wf.heap.size < _) => hb.cell (p := ⟨wf.heap.size, i, none⟩) h; have hfu20 := fun (i : Nat) (h : wf.heap.size < _) => hb.frozen (p := ⟨wf.heap.size, i, none⟩) h; have hcu21 := fun (i : Nat) (h : u1.heap.size < _) => hb.cell (p := ⟨u1.heap.size, i, none⟩) h; have hfu21 := fun (i : Nat) (h : u1.heap.size < _) => hb.frozen (p := ⟨u1.heap.size, i, none⟩) h; have ggu2 := hb.size; (try simp at ggu2); (try replace ggu2 := Nat.lt_of_succ_le ggu2); (try have ltu20 := Nat.lt_of_lt_of_le ggu1 ggu2); clear hb xx0 xx1 xx2 xx3 mm0 mm1 ms; have xx0 := yy0; have xx1 := yy1; have xx2 := yy2; have xx3 := yy3; have mm0 := yy4; have mm1 := yy5; have ms := yms; clear yy0 yy1 yy2 yy3 yy4 yy5 yms)
          | (go_at_call 57; refine (mul_row _ _ va vd la ld _ (Ra2.out.below (by (repeat' (first | (with_reducible exact Below.refl _ _) | (with_reducible assumption) | (with_reducible refine bdn ?_ _) | (with_reducible refine Below.drew ?_) | (with_reducible refine Below.alloc ?_ ?_ _) | (with_reducible refine Below.setCell ?_ ?_ _) | go_size)))) (Rd.out.below (by (repeat' (first | (with_reducible exact Below.refl _ _) | (with_reducible assumption) | (with_reducible refine bdn ?_ _) | (with_reducible refine Below.drew ?_) | (with_reducible refine Below.alloc ?_ ?_ _) | (with_reducible refine Below.setCell ?_ ?_ _) | go_size)))) Va.out.2.2 Vd.out.2.2 Va.out.1 Vd.out.1).mono ?_; rintro e u3 ⟨vn, ln, rfl, hv, ho, ht, hval, hb⟩; rw [Va.out.2.1, Vd.out.2.1] at hval; have Vn := Lib.hid (And.intro ho (And.intro ht (And.intro hval (len8 ht HI.out.1 HI.out.2.2.2 hval)))); have Rn := Lib.hid hv; have RF3 := Lib.hid ((RF2.out.below (by (repeat' (first | (with_reducible exact Below.refl _ _) | (with_reducible assumption) | (with_reducible refine bdn ?_ _) | (with_reducible refine Below.drew ?_) | (with_reducible refine Below.alloc ?_ ?_ _) | (with_reducible refine Below.setCell ?_ ?_ _) | go_size)))).below hb); clear hv ho ht hval; have yy0 := bk hb (w.heap.size) 0 (v := .int .i64 a) (by first | assumption | (simp [*, go_sem]; done)) (by first | omega | (simp; done) | (simp; omega)); have yy1 := bk hb (w.heap.size) 1 (v := .int .i64 b) (by first | assumption | (simp [*, go_sem]; done)) (by first | omega | (simp; done) | (simp; omega)); have yy2 := bk hb (w.heap.size + 1) 0 (v := .int .i64 c) (by first | assumption | (simp [*, go_sem]; done)) (by first | omega | (simp; done) | (simp; omega)); have yy3 := bk hb (w.heap.size + 1) 1 (v := .int .i64 d) (by first | assumption | (simp [*, go_sem]; done)) (by first | omega | (simp; done) | (simp; omega)); have yy4 := bk hb (B) 0 (v := .bool (!sg)) (by first | assumption | (simp [*, go_sem]; done)) (by first | omega | (simp; done) | (simp; omega)); have yy5 := bk hb (B) 1 (v := vm) (by first | assumption | (simp [*, go_sem]; done)) (by first | omega | (simp; done) | (simp; omega)); have yms := bs (n := B) hb (by first | omega | (simp; done) | (simp; omega)); have Ku3 : Hid (Below wf.heap.size wf u3) := Lib.hid (Below.trans (Below.trans Ku2.out (by (repeat' (first | (with_reducible exact Below.refl _ _) | (with_reducible assumption) | (with_reducible refine bdn ?_ _) | (with_reducible refine Below.drew ?_) | (with_reducible refine Below.alloc ?_ ?_ _) | (with_reducible refine Below.setCell ?_ ?_ _) | go_size)))) (hb.mono (B' := wf.heap.size) (by first | omega | (simp; done) | (simp; omega)))); have ssu3 := Ku3.out.size; have nnu3 : ¬ w.heap.size = u3.heap.size := (by omega); have mmu3 : ¬ w.heap.size + 1 = u3.heap.size := (by omega); have lau3 : w.heap.size < u3.heap.size := (by omega); have lbu3 : w.heap.size + 1 < u3.heap.size := (by omega); have nou3 : ¬ B = u3.heap.size := (by omega); have hcu30 := fun (i : Nat) (h : wf.heap.size < _) => hb.cell (p := ⟨wf.heap.size, i, none⟩) h; have hfu30 := fun (i : Nat) (h : wf.heap.size < _) => hb.frozen (p := ⟨wf.heap.size, i, none⟩) h; have hcu31 := fun (i : Nat) (h : u1.heap.size < _) => hb.cell (p := ⟨u1.heap.size, i, none⟩) h; have hfu31 := fun (i : Nat) (h : u1.heap.size < _) => hb.frozen (p := ⟨u1.heap.size, i, none⟩) h; have hcu32 := fun (i : Nat) (h : u2.heap.size < _) => hb.cell (p := ⟨u2.heap.size, i, none⟩) h; have hfu32 := fun (i : Nat) (h : u2.heap.size < _) => hb.frozen (p := ⟨u2.heap.size, i, none⟩) h; have ggu3 := hb.size; (try simp at ggu3); (try replace ggu3 := Nat.lt_of_succ_le ggu3); (try have ltu30 := Nat.lt_of_lt_of_le ltu20 ggu3); (try have ltu31 := Nat.lt_of_lt_of_le ggu2 ggu3); clear hb xx0 xx1 xx2 xx3 mm0 mm1 ms; have xx0 := yy0; have xx1 := yy1; have xx2 := yy2; have xx3 := yy3; have mm0 := yy4; have mm1 := yy5; have ms := yms; clear yy0 yy1 yy2 yy3 yy4 yy5 yms)
          | (go_at_call 56; refine (add_row _ _ vn vm ln lm 8 _ (Rn.out.below (by (repeat' (first | (with_reducible exact Below.refl _ _) | (with_reducible assumption) | (with_reducible refine bdn ?_ _) | (with_reducible refine Below.drew ?_) | (with_reducible refine Below.alloc ?_ ?_ _) | (with_reducible refine Below.setCell ?_ ?_ _) | go_size)))) (RF3.out.below (by (repeat' (first | (with_reducible exact Below.refl _ _) | (with_reducible assumption) | (with_reducible refine bdn ?_ _) | (with_reducible refine Below.drew ?_) | (with_reducible refine Below.alloc ?_ ?_ _) | (with_reducible refine Below.setCell ?_ ?_ _) | go_size)))) Vn.out.2.2.2 Vm.out.2.2.2 (by decide) Vn.out.1 Vm.out.1 Vn.out.2.1 Vm.out.2.1).mono ?_; rintro e u4 ⟨ss, vs, ls, rfl, hv, ho, hl, hval, hb⟩; obtain ⟨qm, cm, rfl⟩ := hv.shape; rw [Vn.out.2.2.1, Vm.out.2.2.1, sgn_mul, sgn_not, ← hsg.out, sgn_mul, ← Int.sub_eq_add_neg] at hval; have Vs := Lib.hid (And.intro ho hval); have Rs := Lib.hid hv; clear hv ho hl hval; have yy0 := bk hb (w.heap.size) 0 (v := .int .i64 a) (by first | assumption | (simp [*, go_sem]; done)) (by first | omega | (simp; done) | (simp; omega)); have yy1 := bk hb (w.heap.size) 1 (v := .int .i64 b) (by first | assumption | (simp [*, go_sem]; done)) (by first | omega | (simp; done) | (simp; omega)); have yy2 := bk hb (w.heap.size + 1) 0 (v := .int .i64 c) (by first | assumption | (simp [*, go_sem]; done)) (by first | omega | (simp; done) | (simp; omega)); have yy3 := bk hb (w.heap.size + 1) 1 (v := .int .i64 d) (by first | assumption | (simp [*, go_sem]; done)) (by first | omega | (simp; done) | (simp; omega)); have yy4 := bk hb (B) 0 (v := .bool (!sg)) (by first | assumption | (simp [*, go_sem]; done)) (by first | omega | (simp; done) | (simp; omega)); have yy5 := bk hb (B) 1 (v := vm) (by first | assumption | (simp [*, go_sem]; done)) (by first | omega | (simp; done) | (simp; omega)); have yms := bs (n := B) hb (by first | omega | (simp; done) | (simp; omega)); have Ku4 : Hid (Below wf.heap.size wf u4) := Lib.hid (Below.trans (Below.trans Ku3.out (by (repeat' (first | (with_reducible exact Below.refl _ _) | (with_reducible assumption) | (with_reducible refine bdn ?_ _) | (with_reducible refine Below.drew ?_) | (with_reducible refine Below.alloc ?_ ?_ _) | (with_reducible refine Below.setCell ?_ ?_ _) | go_size)))) (hb.mono (B' := wf.heap.size) (by first | omega | (simp; done) | (simp; omega)))); have ssu4 := Ku4.out.size; have nnu4 : ¬ w.heap.size = u4.heap.size := (by omega); have mmu4 : ¬ w.heap.size + 1 = u4.heap.size := (by omega); have lau4 : w.heap.size < u4.heap.size := (by omega); have lbu4 : w.heap.size + 1 < u4.heap.size := (by omega); have nou4 : ¬ B = u4.heap.size := (by omega); have hcu40 := fun (i : Nat) (h : wf.heap.size < _) => hb.cell (p := ⟨wf.heap.size, i, none⟩) h; have hfu40 := fun (i : Nat) (h : wf.heap.size < _) => hb.frozen (p := ⟨wf.heap.size, i, none⟩) h; have hcu41 := fun (i : Nat) (h : u1.heap.size < _) => hb.cell (p := ⟨u1.heap.size, i, none⟩) h; have hfu41 := fun (i : Nat) (h : u1.heap.size < _) => hb.frozen (p := ⟨u1.heap.size, i, none⟩) h; have hcu42 := fun (i : Nat) (h : u2.heap.size < _) => hb.cell (p := ⟨u2.heap.size, i, none⟩) h; have hfu42 := fun (i : Nat) (h : u2.heap.size < _) => hb.frozen (p := ⟨u2.heap.size, i, none⟩) h; have hcu43 := fun (i : Nat) (h : u3.heap.size < _) => hb.cell (p := ⟨u3.heap.size, i, none⟩) h; have hfu43 := fun (i : Nat) (h : u3.heap.size < _) => hb.frozen (p := ⟨u3.heap.size, i, none⟩) h; have ggu4 := hb.size; (try simp at ggu4); (try replace ggu4 := Nat.lt_of_succ_le ggu4); (try have ltu40 := Nat.lt_of_lt_of_le ltu30 ggu4); (try have ltu41 := Nat.lt_of_lt_of_le ltu31 ggu4); (try have ltu42 := Nat.lt_of_lt_of_le ggu3 ggu4); clear hb xx0 xx1 xx2 xx3 mm0 mm1 ms; have xx0 := yy0; have xx1 := yy1; have xx2 := yy2; have xx3 := yy3; have mm0 := yy4; have mm1 := yy5; have ms := yms; clear yy0 yy1 yy2 yy3 yy4 yy5 yms))
      all_goals
        go_wp2_with fail
        go_meet
        refine ⟨_, .slice qm ls.length cm, ls, ss, rfl, ?_, ?_, ?_, Lib.hid ?_, Vs, Lib.hid ?_⟩
        all_goals first | assumption | (simp [*, go_sem]; done) | omega | (simp; done) | (simp; omega) | exact Rs.out.alloc _ | exact (RowV.setBox (s := ss) (RowV.setBox (s := false) Rs.out (by simp [*, go_sem]) _) (by simp [*, go_sem]) _) | (refine Below.trans FB.out (Below.mono (B := wf.heap.size) ?_ (by omega)); repeat' (first | exact Ku4.out | (with_reducible refine bdn ?_ _) | (with_reducible refine Below.drew ?_) | (with_reducible refine Below.alloc ?_ ?_ _) | (with_reducible refine Below.setCell ?_ ?_ _) | assumption | omega | (simp; done) | (simp; omega)))
    case rest =>
      obtain ⟨B2, vs, ls, ss, rfl, n0, n1, n2, RS, VS, EF⟩ := hcut
      clear xx0 xx1 xx2 xx3 mm0 mm1 ms xs
      have CS := Lib.hid (cmp_sgn (Dig.val_nonneg VS.out.1) VS.out.2)
      by_cases hz : Dig.val ls = 0
      · have hz := Lib.hid hz
        have E := Lib.hid (CS.out.1 hz.out); clear CS
        go_wp2_with fail
        refine (trim_len0 vs ls _ (by exact RS.out) VS.out.1 hz.out).mono ?_; rintro e w9 ⟨q9, c9, rfl, nq, rfl⟩
        go_wp2
        go_ret
        exact ⟨by rw [← HV.out, E.out]; rfl, below_drewN EF.out nq⟩
      · have hz2 := Lib.hid hz
        go_wp2_with fail
        refine (trim_pos vs ls _ (by exact RS.out) hz2.out).mono ?_; rintro e w9 ⟨q9, k9, c9, rfl, hk9, hv9, nq, rfl⟩
        clear hv9
        have hk8 : ¬ k9 = 0 := by omega
        have hk7 : ((k9 : Int) == 0) = false := by simp; omega
        cases ss
        · have E := Lib.hid (CS.out.2.2 hz2.out rfl); clear CS
          go_wp2
          go_ret
          exact ⟨by rw [← HV.out, E.out]; rfl, below_drewN EF.out nq⟩
        · have E := Lib.hid (CS.out.2.1 hz2.out rfl); clear CS
          go_wp2
          go_ret
          exact ⟨by rw [← HV.out, E.out]; rfl, below_drewN EF.out nq⟩

theorem refCmp_c (a b c d v : Int) (ha : I64 a) (hb : I64 b) (hc : I64 c) (hd : I64 d) (h : Num.cmpV a b c d = v) (w : World) :
    Calls Tryz.prog 30 #[ratV a b, ratV c d] w fun e w' => e = .returned (.int .i64 v) ∧ Below w.heap.size w w' := by
  unfold Num.cmpV at h
  cases h1 : (Num.rtB a b && Num.rtB c d)
  · rw [h1] at h
    have e : v = 0 := by simpa using h.symm
    subst e
    exact refCmp_no a b c d _ _ ha hb hc hd rfl rfl h1 w
  · have p1 : Num.rtB a b = true := by cases e : Num.rtB a b <;> simp_all
    have p2 : Num.rtB c d = true := by cases e : Num.rtB c d <;> simp_all
    rw [h1] at h
    exact refCmp_yes a b c d v ha hb hc hd p1 p2 (by simpa using h) w
end Go.Proofs.YtokmfgpbfhfafaaGreatDoor

