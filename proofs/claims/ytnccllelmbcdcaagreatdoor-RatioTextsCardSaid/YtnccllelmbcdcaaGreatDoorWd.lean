/-
  The walks of ratio: sums and products of fractions, comparing them, whether a number fits.
-/
import Derived.Test.YtnccllelmbcdcaaGreatDoorWc
namespace Go.Proofs.YtnccllelmbcdcaaGreatDoor
open Go.RowKit

set_option maxHeartbeats 400000 in
theorem addSigned_same (s : Bool) (x y : Int) (h1 : 0 ≤ x) (h2 : 0 ≤ y) (h3 : x + y < 340282366920938463463374607431768211456) (w : World) :
    Calls Tryz.prog 69 #[.bool s, wideV x, .bool s, wideV y] w fun e w' => e = .returned (.tuple #[.bool s, wideV (x + y)]) ∧ Below w.heap.size w w' := by
  go_enter Tryz.func69, Tryz.ntmps69
  go_wp2_with (go_at_call 88; refine (plus_any x y h1 h2 h3 _).mono ?_; rintro e w1 ⟨rfl, hb1⟩; have q0 := bk hb1 (w.heap.size + 1 + 1) 0 (v := .int .u64 0) (by simp [go_sem]) (by simp); have q1 := bk hb1 (w.heap.size + 1 + 1) 1 (v := .int .u64 0) (by simp [go_sem]) (by simp); have z0 := bf hb1 (w.heap.size + 1 + 1) 0 (by simp [go_sem]) (by simp); have z1 := bf hb1 (w.heap.size + 1 + 1) 1 (by simp [go_sem]) (by simp); have hz := bs (n := w.heap.size + 1 + 1) hb1 (by simp); have hB := hb1.mono (B' := w.heap.size) (by simp; omega))
  clear hb1
  refine bodyPost_ret (v := .tuple #[.bool s, wideV (x + y)]) (by simp [results, Tryz.results69, go_sem, q0, q1]) rfl ⟨rfl, ?_⟩
  refine Below.setCell (Below.setCell (Below.trans ?_ hB) ?_ _) ?_ _ <;> (repeat' (first | (with_reducible exact Below.refl _ _) | (with_reducible assumption) | (with_reducible refine bdn ?_ _) | (with_reducible refine Below.drew ?_) | (with_reducible refine Below.alloc ?_ ?_ _) | (with_reducible refine Below.setCell ?_ ?_ _) | go_size))

set_option maxHeartbeats 400000 in
theorem addSigned_eq (s t : Bool) (hst : (s == t) = false) (x : Int) (w : World) :
    Calls Tryz.prog 69 #[.bool s, wideV x, .bool t, wideV x] w fun e w' => e = .returned (.tuple #[.bool false, wideV 0]) ∧ Below w.heap.size w w' := by
  go_enter Tryz.func69, Tryz.ntmps69
  go_wp2
  go_returns
  exact ⟨rfl, by (repeat' (first | (with_reducible exact Below.refl _ _) | (with_reducible assumption) | (with_reducible refine bdn ?_ _) | (with_reducible refine Below.drew ?_) | (with_reducible refine Below.alloc ?_ ?_ _) | (with_reducible refine Below.setCell ?_ ?_ _) | go_size))⟩

theorem wide_ne {x y : Int} (h : x ≠ y) : (Num.hi x == Num.hi y) = false ∨ ((Num.hi x == Num.hi y) = true ∧ (Num.lo x == Num.lo y) = false) := by
  by_cases h1 : Num.hi x = Num.hi y
  · right; refine ⟨by simp [h1], ?_⟩
    by_cases h2 : Num.lo x = Num.lo y
    · exact absurd (Num.wide_eq x y h1 h2) h
    · simp [h2]
  · left; simp [h1]

theorem less_yes (x y : Int) (h : x < y) (w : World) : Calls Tryz.prog 66 #[wideV x, wideV y] w fun e w' => e = .returned (.bool true) ∧ Below w.heap.size w w' :=
  (less_any x y w).mono fun e w' ⟨he, hb⟩ => ⟨by rw [he]; simp [h], hb⟩
theorem less_no (x y : Int) (h : ¬ x < y) (w : World) : Calls Tryz.prog 66 #[wideV x, wideV y] w fun e w' => e = .returned (.bool false) ∧ Below w.heap.size w w' :=
  (less_any x y w).mono fun e w' ⟨he, hb⟩ => ⟨by rw [he]; simp [h], hb⟩

set_option maxHeartbeats 400000 in
theorem addSigned_lt (s t : Bool) (hst : (s == t) = false) (x y : Int) (h1 : 0 ≤ x) (h2 : x < y) (h3 : y < 340282366920938463463374607431768211456) (w : World) :
    Calls Tryz.prog 69 #[.bool s, wideV x, .bool t, wideV y] w fun e w' => e = .returned (.tuple #[.bool t, wideV (y - x)]) ∧ Below w.heap.size w w' := by
  have H1 := Lib.hid h1; have H2 := Lib.hid h2; have H3 := Lib.hid h3
  rcases wide_ne (x := x) (y := y) (by omega) with n1 | ⟨n1, n2⟩
  all_goals
    clear h1 h2 h3
    go_enter Tryz.func69, Tryz.ntmps69
    go_wp2_with fail
    refine (less_yes x y H2.out _).mono ?_; rintro e w1 ⟨rfl, hb1⟩
    obtain ⟨pa, pb, pc, pd, pe⟩ := box2 hb1 (w.heap.size) (a := .int .u64 (Num.hi x)) (b := .int .u64 (Num.lo x)) (by first | assumption | (simp [go_sem]; done) | omega | (simp; omega)) (by first | assumption | (simp [go_sem]; done) | omega | (simp; omega)) (by first | assumption | (simp [go_sem]; done) | omega | (simp; omega)) (by first | assumption | (simp [go_sem]; done) | omega | (simp; omega)) (by first | assumption | (simp [go_sem]; done) | omega | (simp; omega)) (by first | assumption | (simp [go_sem]; done) | omega | (simp; omega))
    obtain ⟨qa, qb, qc, qd, qe⟩ := box2 hb1 (w.heap.size + 1) (a := .int .u64 (Num.hi y)) (b := .int .u64 (Num.lo y)) (by first | assumption | (simp [go_sem]; done) | omega | (simp; omega)) (by first | assumption | (simp [go_sem]; done) | omega | (simp; omega)) (by first | assumption | (simp [go_sem]; done) | omega | (simp; omega)) (by first | assumption | (simp [go_sem]; done) | omega | (simp; omega)) (by first | assumption | (simp [go_sem]; done) | omega | (simp; omega)) (by first | assumption | (simp [go_sem]; done) | omega | (simp; omega))
    obtain ⟨ra, rb, rc, rd, re⟩ := box2 hb1 (w.heap.size + 1 + 1) (a := .int .u64 0) (b := .int .u64 0) (by first | assumption | (simp [go_sem]; done) | omega | (simp; omega)) (by first | assumption | (simp [go_sem]; done) | omega | (simp; omega)) (by first | assumption | (simp [go_sem]; done) | omega | (simp; omega)) (by first | assumption | (simp [go_sem]; done) | omega | (simp; omega)) (by first | assumption | (simp [go_sem]; done) | omega | (simp; omega)) (by first | assumption | (simp [go_sem]; done) | omega | (simp; omega))
    have hB := hb1.mono (B' := w.heap.size) (by simp; omega)
    clear hb1
    go_wp2_with fail
    refine (minus_any y x H1.out (Int.le_of_lt H2.out) H3.out _).mono ?_; rintro e w2 ⟨rfl, hb2⟩
    obtain ⟨sa, sb, sc, sd, se⟩ := box2 hb2 (w.heap.size + 1 + 1) (a := .int .u64 0) (b := .int .u64 0) (by first | assumption | (simp [go_sem]; done) | omega | (simp; omega)) (by first | assumption | (simp [go_sem]; done) | omega | (simp; omega)) (by first | assumption | (simp [go_sem]; done) | omega | (simp; omega)) (by first | assumption | (simp [go_sem]; done) | omega | (simp; omega)) (by first | assumption | (simp [go_sem]; done) | omega | (simp; omega)) (by first | assumption | (simp [go_sem]; done) | omega | (simp; omega))
    have hB2 := hb2.mono (B' := w.heap.size) (by omega)
    clear hb2
    go_wp2
    refine bodyPost_ret (v := .tuple #[.bool t, wideV (y - x)]) (by simp [results, Tryz.results69, go_sem, sa, sb]) rfl ⟨rfl, ?_⟩
    refine Below.setCell (Below.setCell (Below.trans (Below.trans ?_ hB) hB2) ?_ _) ?_ _ <;> (repeat' (first | (with_reducible exact Below.refl _ _) | (with_reducible assumption) | (with_reducible refine bdn ?_ _) | (with_reducible refine Below.drew ?_) | (with_reducible refine Below.alloc ?_ ?_ _) | (with_reducible refine Below.setCell ?_ ?_ _) | go_size))

set_option maxHeartbeats 400000 in
theorem addSigned_gt (s t : Bool) (hst : (s == t) = false) (x y : Int) (h1 : 0 ≤ y) (h2 : y < x) (h3 : x < 340282366920938463463374607431768211456) (w : World) :
    Calls Tryz.prog 69 #[.bool s, wideV x, .bool t, wideV y] w fun e w' => e = .returned (.tuple #[.bool s, wideV (x - y)]) ∧ Below w.heap.size w w' := by
  have H1 := Lib.hid h1; have H2 := Lib.hid h2; have H3 := Lib.hid h3
  rcases wide_ne (x := x) (y := y) (by omega) with n1 | ⟨n1, n2⟩
  all_goals
    clear h1 h2 h3
    go_enter Tryz.func69, Tryz.ntmps69
    go_wp2_with fail
    refine (less_no x y (Int.not_lt.2 (Int.le_of_lt H2.out)) _).mono ?_; rintro e w1 ⟨rfl, hb1⟩
    obtain ⟨pa, pb, pc, pd, pe⟩ := box2 hb1 (w.heap.size) (a := .int .u64 (Num.hi x)) (b := .int .u64 (Num.lo x)) (by first | assumption | (simp [go_sem]; done) | omega | (simp; omega)) (by first | assumption | (simp [go_sem]; done) | omega | (simp; omega)) (by first | assumption | (simp [go_sem]; done) | omega | (simp; omega)) (by first | assumption | (simp [go_sem]; done) | omega | (simp; omega)) (by first | assumption | (simp [go_sem]; done) | omega | (simp; omega)) (by first | assumption | (simp [go_sem]; done) | omega | (simp; omega))
    obtain ⟨qa, qb, qc, qd, qe⟩ := box2 hb1 (w.heap.size + 1) (a := .int .u64 (Num.hi y)) (b := .int .u64 (Num.lo y)) (by first | assumption | (simp [go_sem]; done) | omega | (simp; omega)) (by first | assumption | (simp [go_sem]; done) | omega | (simp; omega)) (by first | assumption | (simp [go_sem]; done) | omega | (simp; omega)) (by first | assumption | (simp [go_sem]; done) | omega | (simp; omega)) (by first | assumption | (simp [go_sem]; done) | omega | (simp; omega)) (by first | assumption | (simp [go_sem]; done) | omega | (simp; omega))
    obtain ⟨ra, rb, rc, rd, re⟩ := box2 hb1 (w.heap.size + 1 + 1) (a := .int .u64 0) (b := .int .u64 0) (by first | assumption | (simp [go_sem]; done) | omega | (simp; omega)) (by first | assumption | (simp [go_sem]; done) | omega | (simp; omega)) (by first | assumption | (simp [go_sem]; done) | omega | (simp; omega)) (by first | assumption | (simp [go_sem]; done) | omega | (simp; omega)) (by first | assumption | (simp [go_sem]; done) | omega | (simp; omega)) (by first | assumption | (simp [go_sem]; done) | omega | (simp; omega))
    have hB := hb1.mono (B' := w.heap.size) (by simp; omega)
    clear hb1
    go_wp2_with fail
    refine (minus_any x y H1.out (Int.le_of_lt H2.out) H3.out _).mono ?_; rintro e w2 ⟨rfl, hb2⟩
    obtain ⟨sa, sb, sc, sd, se⟩ := box2 hb2 (w.heap.size + 1 + 1) (a := .int .u64 0) (b := .int .u64 0) (by first | assumption | (simp [go_sem]; done) | omega | (simp; omega)) (by first | assumption | (simp [go_sem]; done) | omega | (simp; omega)) (by first | assumption | (simp [go_sem]; done) | omega | (simp; omega)) (by first | assumption | (simp [go_sem]; done) | omega | (simp; omega)) (by first | assumption | (simp [go_sem]; done) | omega | (simp; omega)) (by first | assumption | (simp [go_sem]; done) | omega | (simp; omega))
    have hB2 := hb2.mono (B' := w.heap.size) (by omega)
    clear hb2
    go_wp2
    refine bodyPost_ret (v := .tuple #[.bool s, wideV (x - y)]) (by simp [results, Tryz.results69, go_sem, sa, sb]) rfl ⟨rfl, ?_⟩
    refine Below.setCell (Below.setCell (Below.trans (Below.trans ?_ hB) hB2) ?_ _) ?_ _ <;> (repeat' (first | (with_reducible exact Below.refl _ _) | (with_reducible assumption) | (with_reducible refine bdn ?_ _) | (with_reducible refine Below.drew ?_) | (with_reducible refine Below.alloc ?_ ?_ _) | (with_reducible refine Below.setCell ?_ ?_ _) | go_size))

/-- A sum of two numbers with signs, in one contract. -/
theorem addSigned_any (s t : Bool) (x y : Int) (h1 : 0 ≤ x) (h2 : 0 ≤ y) (h3 : x + y < 340282366920938463463374607431768211456) (w : World) :
    Calls Tryz.prog 69 #[.bool s, wideV x, .bool t, wideV y] w fun e w' => e = .returned (.tuple #[.bool (Num.adS s t x y), wideV (Num.adN s t x y)]) ∧ Below w.heap.size w w' := by
  by_cases hst : s = t
  · subst hst; unfold Num.adS Num.adN; simp only [if_true]
    exact addSigned_same s x y h1 h2 h3 w
  · have hst' : (s == t) = false := by simpa using hst
    unfold Num.adS Num.adN
    rw [if_neg hst, if_neg hst]
    by_cases e : x = y
    · subst e; rw [if_pos rfl, if_pos rfl]; exact addSigned_eq s t hst' x w
    · rw [if_neg e, if_neg e]
      by_cases l : x < y
      · rw [if_pos l, if_pos l]; exact addSigned_lt s t hst' x y h1 l (by omega) w
      · rw [if_neg l, if_neg l]; exact addSigned_gt s t hst' x y h2 (by omega) (by omega) w
end Go.Proofs.YtnccllelmbcdcaaGreatDoor
