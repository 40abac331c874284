/-
  The walks of ratio: whether a number fits; products and sums of fractions; comparing them.
-/
import Derived.Test.YtnccllelmbcdcaaGreatDoorWd
namespace Go.Proofs.YtnccllelmbcdcaaGreatDoor
open Go.RowKit

/-- A number as the program holds it. -/
abbrev ratV (n d : Int) : Value := .agg #[.int .i64 n, .int .i64 d]

set_option maxHeartbeats 400000 in
theorem of_any (n : Int) (w : World) : Calls Tryz.prog 16 #[.int .i64 n] w fun e w' => e = .returned (ratV n 1) ∧ Below w.heap.size w w' := by
  go_enter Tryz.func16, Tryz.ntmps16
  go_wp2
  go_returns
  exact ⟨rfl, by (repeat' (first | (with_reducible exact Below.refl _ _) | (with_reducible assumption) | (with_reducible refine bdn ?_ _) | (with_reducible refine Below.drew ?_) | (with_reducible refine Below.alloc ?_ ?_ _) | (with_reducible refine Below.setCell ?_ ?_ _) | go_size))⟩

set_option maxHeartbeats 400000 in
theorem noNumber_any (w : World) : Calls Tryz.prog 38 #[] w fun e w' => e = .returned (.tuple #[ratV 0 1, .bool false]) ∧ Below w.heap.size w w' := by
  go_enter Tryz.func38, Tryz.ntmps38
  go_wp2_with (go_at_call 16; refine (of_any 0 _).mono ?_; rintro e w1 ⟨rfl, hb1⟩; obtain ⟨ra, rb, rc, rd, re⟩ := box2 hb1 (w.heap.size) (a := .int .i64 0) (b := .int .i64 0) (by first | assumption | (simp [go_sem]; done) | omega | (simp; omega)) (by first | assumption | (simp [go_sem]; done) | omega | (simp; omega)) (by first | assumption | (simp [go_sem]; done) | omega | (simp; omega)) (by first | assumption | (simp [go_sem]; done) | omega | (simp; omega)) (by first | assumption | (simp [go_sem]; done) | omega | (simp; omega)) (by first | assumption | (simp [go_sem]; done) | omega | (simp; omega)); have hB := hb1.mono (B' := w.heap.size) (by simp); clear hb1)
  refine bodyPost_ret (v := .tuple #[ratV 0 1, .bool false]) (by simp [results, Tryz.results38, go_sem, ra, rb]) rfl ⟨rfl, ?_⟩
  refine Below.setCell (Below.setCell (Below.trans ?_ hB) ?_ _) ?_ _ <;> (repeat' (first | (with_reducible exact Below.refl _ _) | (with_reducible assumption) | (with_reducible refine bdn ?_ _) | (with_reducible refine Below.drew ?_) | (with_reducible refine Below.alloc ?_ ?_ _) | (with_reducible refine Below.setCell ?_ ?_ _) | go_size))

def wideMax : Value := wideV 9223372036854775807
theorem hi_max : Num.hi 9223372036854775807 = 0 := by decide
theorem lo_max : Num.lo 9223372036854775807 = 9223372036854775807 := by decide
theorem hi_max1 : Num.hi 9223372036854775808 = 0 := by decide
theorem lo_max1 : Num.lo 9223372036854775808 = 9223372036854775808 := by decide
theorem less_raw_yes (k y : Int) (h : k < y) (hk : 0 ≤ k) (hk2 : k < 18446744073709551616) (w : World) : Calls Tryz.prog 66 #[.agg #[.int .u64 0, .int .u64 k], wideV y] w fun e w' => e = .returned (.bool true) ∧ Below w.heap.size w w' := by
  have e1 : Num.hi k = 0 := by unfold Num.hi; omega
  have e2 : Num.lo k = k := by unfold Num.lo; omega
  have := less_yes k y h w
  unfold wideV at this; rw [e1, e2] at this; exact this
theorem less_raw_no (k y : Int) (h : ¬ k < y) (hk : 0 ≤ k) (hk2 : k < 18446744073709551616) (w : World) : Calls Tryz.prog 66 #[.agg #[.int .u64 0, .int .u64 k], wideV y] w fun e w' => e = .returned (.bool false) ∧ Below w.heap.size w w' := by
  have e1 : Num.hi k = 0 := by unfold Num.hi; omega
  have e2 : Num.lo k = k := by unfold Num.lo; omega
  have := less_no k y h w
  unfold wideV at this; rw [e1, e2] at this; exact this

set_option maxHeartbeats 400000 in
theorem fit_num (s : Bool) (n d k : Int) (hk : k = if s then 9223372036854775808 else 9223372036854775807) (h1 : k < n) (w : World) :
    Calls Tryz.prog 42 #[.bool s, wideV n, wideV d] w fun e w' => e = .returned (.tuple #[ratV 0 1, .bool false]) ∧ Below w.heap.size w w' := by
  have K := Lib.hid h1; clear h1
  cases s
  all_goals
    simp at hk; subst hk
    go_enter Tryz.func42, Tryz.ntmps42
    go_wp2_with fail
    refine (less_raw_yes _ n K.out (by decide) (by decide) _).mono ?_; rintro e w1 ⟨rfl, hb1⟩
    obtain ⟨ra, rb, rc, rd, re⟩ := box2 hb1 (w.heap.size + 1 + 1) (a := .int .i64 0) (b := .int .i64 0) (by first | assumption | (simp [go_sem]; done) | omega | (simp; omega)) (by first | assumption | (simp [go_sem]; done) | omega | (simp; omega)) (by first | assumption | (simp [go_sem]; done) | omega | (simp; omega)) (by first | assumption | (simp [go_sem]; done) | omega | (simp; omega)) (by first | assumption | (simp [go_sem]; done) | omega | (simp; omega)) (by first | assumption | (simp [go_sem]; done) | omega | (simp; omega))
    have hB := hb1.mono (B' := w.heap.size) (by simp; omega)
    clear hb1
    go_wp2_with fail
    refine (noNumber_any _).mono ?_; rintro e w2 ⟨rfl, hb2⟩
    obtain ⟨sa, sb, sc, sd, se⟩ := box2 hb2 (w.heap.size + 1 + 1) (a := .int .i64 0) (b := .int .i64 0) (by first | assumption | (simp [go_sem]; done) | omega | (simp; omega)) (by first | assumption | (simp [go_sem]; done) | omega | (simp; omega)) (by first | assumption | (simp [go_sem]; done) | omega | (simp; omega)) (by first | assumption | (simp [go_sem]; done) | omega | (simp; omega)) (by first | assumption | (simp [go_sem]; done) | omega | (simp; omega)) (by first | assumption | (simp [go_sem]; done) | omega | (simp; omega))
    have hB2 := hb2.mono (B' := w.heap.size) (by omega)
    clear hb2
    go_wp2
    refine bodyPost_ret (v := .tuple #[ratV 0 1, .bool false]) (by simp [results, Tryz.results42, go_sem, sa, sb]) rfl ⟨rfl, ?_⟩
    refine Below.setCell (Below.setCell (Below.trans (Below.trans ?_ hB) hB2) ?_ _) ?_ _ <;> (repeat' (first | (with_reducible exact Below.refl _ _) | (with_reducible assumption) | (with_reducible refine bdn ?_ _) | (with_reducible refine Below.drew ?_) | (with_reducible refine Below.alloc ?_ ?_ _) | (with_reducible refine Below.setCell ?_ ?_ _) | go_size))

set_option maxHeartbeats 400000 in
theorem fit_den (s : Bool) (n d k : Int) (hk : k = if s then 9223372036854775808 else 9223372036854775807) (h1 : ¬ k < n) (h2 : 9223372036854775807 < d) (w : World) :
    Calls Tryz.prog 42 #[.bool s, wideV n, wideV d] w fun e w' => e = .returned (.tuple #[ratV 0 1, .bool false]) ∧ Below w.heap.size w w' := by
  have K := Lib.hid (Int.not_lt.1 h1); clear h1
  have D := Lib.hid h2; clear h2
  cases s
  all_goals
    simp at hk; subst hk
    go_enter Tryz.func42, Tryz.ntmps42
    go_wp2_with fail
    refine (less_raw_no _ n (Int.not_lt.2 K.out) (by decide) (by decide) _).mono ?_; rintro e w1 ⟨rfl, hb1⟩
    obtain ⟨ra, rb, rc, rd, re⟩ := box2 hb1 (w.heap.size + 1 + 1) (a := .int .i64 0) (b := .int .i64 0) (by first | assumption | (simp [go_sem]; done) | omega | (simp; omega)) (by first | assumption | (simp [go_sem]; done) | omega | (simp; omega)) (by first | assumption | (simp [go_sem]; done) | omega | (simp; omega)) (by first | assumption | (simp [go_sem]; done) | omega | (simp; omega)) (by first | assumption | (simp [go_sem]; done) | omega | (simp; omega)) (by first | assumption | (simp [go_sem]; done) | omega | (simp; omega))
    obtain ⟨pa, pb, pc, pd, pe⟩ := box2 hb1 (w.heap.size + 1) (a := .int .u64 (Num.hi d)) (b := .int .u64 (Num.lo d)) (by first | assumption | (simp [go_sem]; done) | omega | (simp; omega)) (by first | assumption | (simp [go_sem]; done) | omega | (simp; omega)) (by first | assumption | (simp [go_sem]; done) | omega | (simp; omega)) (by first | assumption | (simp [go_sem]; done) | omega | (simp; omega)) (by first | assumption | (simp [go_sem]; done) | omega | (simp; omega)) (by first | assumption | (simp [go_sem]; done) | omega | (simp; omega))
    obtain ⟨ma, mb, mc, md, me⟩ := box2 hb1 (w.heap.size + 1 + 1 + 1 + 1) (a := .int .u64 0) (b := .int .u64 9223372036854775807) (by first | assumption | (simp [go_sem]; done) | omega | (simp; omega)) (by first | assumption | (simp [go_sem]; done) | omega | (simp; omega)) (by first | assumption | (simp [go_sem]; done) | omega | (simp; omega)) (by first | assumption | (simp [go_sem]; done) | omega | (simp; omega)) (by first | assumption | (simp [go_sem]; done) | omega | (simp; omega)) (by first | assumption | (simp [go_sem]; done) | omega | (simp; omega))
    have hB := hb1.mono (B' := w.heap.size) (by simp; omega)
    clear hb1
    go_wp2_with fail
    refine (less_raw_yes _ d D.out (by decide) (by decide) _).mono ?_; rintro e w2 ⟨rfl, hb2⟩
    obtain ⟨ta, tb, tc, td, te⟩ := box2 hb2 (w.heap.size + 1 + 1) (a := .int .i64 0) (b := .int .i64 0) (by first | assumption | (simp [go_sem]; done) | omega | (simp; omega)) (by first | assumption | (simp [go_sem]; done) | omega | (simp; omega)) (by first | assumption | (simp [go_sem]; done) | omega | (simp; omega)) (by first | assumption | (simp [go_sem]; done) | omega | (simp; omega)) (by first | assumption | (simp [go_sem]; done) | omega | (simp; omega)) (by first | assumption | (simp [go_sem]; done) | omega | (simp; omega))
    have hB2 := hb2.mono (B' := w.heap.size) (by omega)
    clear hb2
    go_wp2_with fail
    refine (noNumber_any _).mono ?_; rintro e w3 ⟨rfl, hb3⟩
    obtain ⟨sa, sb, sc, sd, se⟩ := box2 hb3 (w.heap.size + 1 + 1) (a := .int .i64 0) (b := .int .i64 0) (by first | assumption | (simp [go_sem]; done) | omega | (simp; omega)) (by first | assumption | (simp [go_sem]; done) | omega | (simp; omega)) (by first | assumption | (simp [go_sem]; done) | omega | (simp; omega)) (by first | assumption | (simp [go_sem]; done) | omega | (simp; omega)) (by first | assumption | (simp [go_sem]; done) | omega | (simp; omega)) (by first | assumption | (simp [go_sem]; done) | omega | (simp; omega))
    have hB3 := hb3.mono (B' := w.heap.size) (by omega)
    clear hb3
    go_wp2
    refine bodyPost_ret (v := .tuple #[ratV 0 1, .bool false]) (by simp [results, Tryz.results42, go_sem, sa, sb]) rfl ⟨rfl, ?_⟩
    refine Below.setCell (Below.setCell (Below.trans (Below.trans (Below.trans ?_ hB) hB2) hB3) ?_ _) ?_ _ <;> (repeat' (first | (with_reducible exact Below.refl _ _) | (with_reducible assumption) | (with_reducible refine bdn ?_ _) | (with_reducible refine Below.drew ?_) | (with_reducible refine Below.alloc ?_ ?_ _) | (with_reducible refine Below.setCell ?_ ?_ _) | go_size))

theorem neg_wrap (n : Int) (h0 : 0 ≤ n) (h1 : n ≤ 9223372036854775808) : wrap64 (IntKind.u64.wrap (-Num.lo n)) = -n := by
  rw [← IntWalk.i64_left, IntKind.wrap_u64, IntKind.wrap_i64]; unfold Num.lo; omega
theorem pos_wrap (n : Int) (h0 : 0 ≤ n) (h1 : n ≤ 9223372036854775807) : wrap64 (Num.lo n) = n := by
  rw [← IntWalk.i64_left, IntKind.wrap_i64]; unfold Num.lo; omega

set_option maxHeartbeats 400000 in
theorem fit_ok (s : Bool) (n d k : Int) (hk : k = if s then 9223372036854775808 else 9223372036854775807) (h0 : 0 ≤ n) (h1 : n ≤ k) (h2 : 0 ≤ d) (h3 : d ≤ 9223372036854775807) (w : World) :
    Calls Tryz.prog 42 #[.bool s, wideV n, wideV d] w fun e w' => e = .returned (.tuple #[ratV (Num.sgn s n) d, .bool true]) ∧ Below w.heap.size w w' := by
  have K := Lib.hid h1; clear h1
  have D := Lib.hid h3; clear h3
  have PD := Lib.hid (pos_wrap d h2 D.out)
  have N0 := Lib.hid h0; clear h0
  clear h2
  cases s
  all_goals
    simp at hk; subst hk
    go_enter Tryz.func42, Tryz.ntmps42
    go_wp2_with fail
    refine (less_raw_no _ n (Int.not_lt.2 K.out) (by decide) (by decide) _).mono ?_; rintro e w1 ⟨rfl, hb1⟩
    obtain ⟨ra, rb, rc, rd, re⟩ := box2 hb1 (w.heap.size + 1 + 1) (a := .int .i64 0) (b := .int .i64 0) (by first | assumption | (simp [go_sem]; done) | omega | (simp; omega)) (by first | assumption | (simp [go_sem]; done) | omega | (simp; omega)) (by first | assumption | (simp [go_sem]; done) | omega | (simp; omega)) (by first | assumption | (simp [go_sem]; done) | omega | (simp; omega)) (by first | assumption | (simp [go_sem]; done) | omega | (simp; omega)) (by first | assumption | (simp [go_sem]; done) | omega | (simp; omega))
    obtain ⟨oa, ob, oc, od, oe⟩ := box2 hb1 (w.heap.size) (a := .int .u64 (Num.hi n)) (b := .int .u64 (Num.lo n)) (by first | assumption | (simp [go_sem]; done) | omega | (simp; omega)) (by first | assumption | (simp [go_sem]; done) | omega | (simp; omega)) (by first | assumption | (simp [go_sem]; done) | omega | (simp; omega)) (by first | assumption | (simp [go_sem]; done) | omega | (simp; omega)) (by first | assumption | (simp [go_sem]; done) | omega | (simp; omega)) (by first | assumption | (simp [go_sem]; done) | omega | (simp; omega))
    obtain ⟨pa, pb, pc, pd, pe⟩ := box2 hb1 (w.heap.size + 1) (a := .int .u64 (Num.hi d)) (b := .int .u64 (Num.lo d)) (by first | assumption | (simp [go_sem]; done) | omega | (simp; omega)) (by first | assumption | (simp [go_sem]; done) | omega | (simp; omega)) (by first | assumption | (simp [go_sem]; done) | omega | (simp; omega)) (by first | assumption | (simp [go_sem]; done) | omega | (simp; omega)) (by first | assumption | (simp [go_sem]; done) | omega | (simp; omega)) (by first | assumption | (simp [go_sem]; done) | omega | (simp; omega))
    obtain ⟨ma, mb, mc, md, me⟩ := box2 hb1 (w.heap.size + 1 + 1 + 1 + 1) (a := .int .u64 0) (b := .int .u64 9223372036854775807) (by first | assumption | (simp [go_sem]; done) | omega | (simp; omega)) (by first | assumption | (simp [go_sem]; done) | omega | (simp; omega)) (by first | assumption | (simp [go_sem]; done) | omega | (simp; omega)) (by first | assumption | (simp [go_sem]; done) | omega | (simp; omega)) (by first | assumption | (simp [go_sem]; done) | omega | (simp; omega)) (by first | assumption | (simp [go_sem]; done) | omega | (simp; omega))
    have hB := hb1.mono (B' := w.heap.size) (by simp; omega)
    clear hb1
    go_wp2_with fail
    refine (less_raw_no _ d (Int.not_lt.2 D.out) (by decide) (by decide) _).mono ?_; rintro e w2 ⟨rfl, hb2⟩
    obtain ⟨ta, tb, tc, td, te⟩ := box2 hb2 (w.heap.size + 1 + 1) (a := .int .i64 0) (b := .int .i64 0) (by first | assumption | (simp [go_sem]; done) | omega | (simp; omega)) (by first | assumption | (simp [go_sem]; done) | omega | (simp; omega)) (by first | assumption | (simp [go_sem]; done) | omega | (simp; omega)) (by first | assumption | (simp [go_sem]; done) | omega | (simp; omega)) (by first | assumption | (simp [go_sem]; done) | omega | (simp; omega)) (by first | assumption | (simp [go_sem]; done) | omega | (simp; omega))
    obtain ⟨xa, xb, xc, xd, xe⟩ := box2 hb2 (w.heap.size) (a := .int .u64 (Num.hi n)) (b := .int .u64 (Num.lo n)) (by first | assumption | (simp [go_sem]; done) | omega | (simp; omega)) (by first | assumption | (simp [go_sem]; done) | omega | (simp; omega)) (by first | assumption | (simp [go_sem]; done) | omega | (simp; omega)) (by first | assumption | (simp [go_sem]; done) | omega | (simp; omega)) (by first | assumption | (simp [go_sem]; done) | omega | (simp; omega)) (by first | assumption | (simp [go_sem]; done) | omega | (simp; omega))
    obtain ⟨ya, yb, yc, yd, ye⟩ := box2 hb2 (w.heap.size + 1) (a := .int .u64 (Num.hi d)) (b := .int .u64 (Num.lo d)) (by first | assumption | (simp [go_sem]; done) | omega | (simp; omega)) (by first | assumption | (simp [go_sem]; done) | omega | (simp; omega)) (by first | assumption | (simp [go_sem]; done) | omega | (simp; omega)) (by first | assumption | (simp [go_sem]; done) | omega | (simp; omega)) (by first | assumption | (simp [go_sem]; done) | omega | (simp; omega)) (by first | assumption | (simp [go_sem]; done) | omega | (simp; omega))
    have hB2 := hb2.mono (B' := w.heap.size) (by omega)
    clear hb2
    go_wp2
  · have PN := pos_wrap n N0.out K.out
    refine bodyPost_ret (v := .tuple #[ratV n d, .bool true]) (by simp [results, Tryz.results42, go_sem, ta, tb, PD.out, PN]) rfl ⟨rfl, ?_⟩
    refine Below.setCell (Below.setCell (Below.trans (Below.trans ?_ hB) hB2) ?_ _) ?_ _ <;> (repeat' (first | (with_reducible exact Below.refl _ _) | (with_reducible assumption) | (with_reducible refine bdn ?_ _) | (with_reducible refine Below.drew ?_) | (with_reducible refine Below.alloc ?_ ?_ _) | (with_reducible refine Below.setCell ?_ ?_ _) | go_size))
  · have PN := neg_wrap n N0.out K.out
    refine bodyPost_ret (v := .tuple #[ratV (-n) d, .bool true]) (by simp [results, Tryz.results42, go_sem, ta, tb, PD.out, PN]) rfl ⟨rfl, ?_⟩
    refine Below.setCell (Below.setCell (Below.trans (Below.trans ?_ hB) hB2) ?_ _) ?_ _ <;> (repeat' (first | (with_reducible exact Below.refl _ _) | (with_reducible assumption) | (with_reducible refine bdn ?_ _) | (with_reducible refine Below.drew ?_) | (with_reducible refine Below.alloc ?_ ?_ _) | (with_reducible refine Below.setCell ?_ ?_ _) | go_size))

theorem fit_any (s : Bool) (n d : Int) (h0 : 0 ≤ n) (h2 : 0 ≤ d) (w : World) :
    Calls Tryz.prog 42 #[.bool s, wideV n, wideV d] w fun e w' => e = .returned (.tuple #[ratV (Num.fitN s n d) (Num.fitD s n d), .bool (Num.fitsB s n d)]) ∧ Below w.heap.size w w' := by
  have hB : Num.fitsB s n d = (decide (n ≤ if s then 9223372036854775808 else 9223372036854775807) && decide (d ≤ 9223372036854775807)) := by cases s <;> simp [Num.fitsB]
  by_cases g1 : n ≤ if s then 9223372036854775808 else 9223372036854775807
  · by_cases g2 : d ≤ 9223372036854775807
    · have : Num.fitsB s n d = true := by rw [hB]; simp [g1, g2]
      unfold Num.fitN Num.fitD; rw [this]
      exact fit_ok s n d _ rfl h0 g1 h2 g2 w
    · have : Num.fitsB s n d = false := by rw [hB]; simp [g2]
      unfold Num.fitN Num.fitD; rw [this]
      exact fit_den s n d _ rfl (by omega) (by omega) w
  · have : Num.fitsB s n d = false := by rw [hB]; simp [g1]
    unfold Num.fitN Num.fitD; rw [this]
    exact fit_num s n d _ rfl (by omega) w
end Go.Proofs.YtnccllelmbcdcaaGreatDoor
