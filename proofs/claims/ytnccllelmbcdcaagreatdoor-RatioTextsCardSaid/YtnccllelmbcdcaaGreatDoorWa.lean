/-
  The walks of the functions of ratio without calls of the library: magnitudes, common divisors, fractions.
-/
import Derived.Test.YtnccllelmbcdcaaGreatDoorProg
import Derived.Test.YtnccllelmbcdcaaGreatDoorNum
import Derived.WalkKit
import Derived.Laws.Externs
import Derived.WalkSpells
import Derived.WalkLawsBesides
import Derived.BigQuiet
import Derived.Deep.QuietTactic
import Derived.Lib.Hide
import Derived.Handy
import Derived.Deep.RegionHeld3
import Derived.RowKit3
namespace Go.Proofs.YtnccllelmbcdcaaGreatDoor
open Go.RowKit

theorem Num.gcd_step (a b : Int) (ha : 0 ≤ a) (hb : 0 < b) : Num.gcdI b (a % b) = Num.gcdI a b := by
  obtain ⟨a, rfl⟩ := Int.eq_ofNat_of_zero_le ha
  obtain ⟨b, rfl⟩ := Int.eq_ofNat_of_zero_le (Int.le_of_lt hb)
  unfold Num.gcdI
  rw [← Int.natCast_emod, Int.toNat_natCast, Int.toNat_natCast, Int.toNat_natCast, Nat.gcd_comm a b, Nat.gcd_rec b a, Nat.gcd_comm]
theorem Num.gcd_zero (a : Int) (ha : 0 ≤ a) : Num.gcdI a 0 = a := by
  obtain ⟨a, rfl⟩ := Int.eq_ofNat_of_zero_le ha
  simp [Num.gcdI]

theorem ret_int {k : IntKind} {a b : Int} (h : a = b) : Ending.returned (.int k a) = .returned (.int k b) := by rw [h]

theorem bcell {W w1 : World} (hb : Below W.heap.size W w1) : (∀ b o, b < W.heap.size → w1.cell? ⟨b, o, none⟩ = W.cell? ⟨b, o, none⟩) ∧ (∀ b o, b < W.heap.size → w1.frozen? ⟨b, o, none⟩ = W.frozen? ⟨b, o, none⟩) :=
  ⟨fun b o h => hb.cell (p := ⟨b, o, none⟩) h, fun b o h => hb.frozen (p := ⟨b, o, none⟩) h⟩
theorem bk {B : Nat} {W w1 : World} (hb : Below B W w1) (n i : Nat) {v : Value} (hc : W.cell? ⟨n, i, none⟩ = some v) (hn : n < B) : w1.cell? ⟨n, i, none⟩ = some v :=
  (hb.cell (p := ⟨n, i, none⟩) hn).trans hc
theorem bf {B : Nat} {W w1 : World} (hb : Below B W w1) (n i : Nat) (hc : W.frozen? ⟨n, i, none⟩ = false) (hn : n < B) : w1.frozen? ⟨n, i, none⟩ = false :=
  (hb.frozen (p := ⟨n, i, none⟩) hn).trans hc
theorem bs {B n : Nat} {W w1 : World} (hb : Below B W w1) (hn : n < W.heap.size) : n < w1.heap.size := Nat.lt_of_lt_of_le hn hb.size
theorem box2 {B : Nat} {W w1 : World} (hb : Below B W w1) (n : Nat) {a b : Value} (h0 : W.cell? ⟨n, 0, none⟩ = some a) (h1 : W.cell? ⟨n, 1, none⟩ = some b) (f0 : W.frozen? ⟨n, 0, none⟩ = false) (f1 : W.frozen? ⟨n, 1, none⟩ = false) (hn : n < B) (hs : n < W.heap.size) :
    w1.cell? ⟨n, 0, none⟩ = some a ∧ w1.cell? ⟨n, 1, none⟩ = some b ∧ w1.frozen? ⟨n, 0, none⟩ = false ∧ w1.frozen? ⟨n, 1, none⟩ = false ∧ n < w1.heap.size :=
  ⟨bk hb n 0 h0 hn, bk hb n 1 h1 hn, bf hb n 0 f0 hn, bf hb n 1 f1 hn, bs hb hs⟩
theorem bdn {B : Nat} {a w : World} (h : Below B a w) (n : Nat) : Below B a (w.drewN n) := below_drewN h n

/-- A fraction as the program holds it. -/
abbrev fracV (s : Bool) (n d : Int) : Value := .agg #[.bool s, .int .u64 n, .int .u64 d]

set_option maxHeartbeats 400000 in
theorem magnitude_any (n : Int) (h1 : -9223372036854775808 ≤ n) (h2 : n ≤ 9223372036854775807) (w : World) :
    Calls Tryz.prog 40 #[.int .i64 n] w fun e w' => e = .returned (.int .u64 (n.natAbs : Int)) ∧ w = w' := by
  by_cases h : n < 0
  · go_enter Tryz.func40, Tryz.ntmps40
    go_wp2
    go_ret
    exact ⟨ret_int (by simp only [IntKind.wrap_u64]; omega), rfl⟩
  · go_enter Tryz.func40, Tryz.ntmps40
    go_wp2
    go_ret
    exact ⟨ret_int (by omega), rfl⟩

set_option maxHeartbeats 400000 in
theorem gcd_any (a b : Int) (h1 : 0 ≤ a) (h2 : a < 18446744073709551616) (h3 : 0 ≤ b) (h4 : b < 18446744073709551616) (w : World) :
    Calls Tryz.prog 41 #[.int .u64 a, .int .u64 b] w fun e w' => e = .returned (.int .u64 (Num.gcdI a b)) ∧ ∃ nq, w' = w.drewN nq := by
  go_enter Tryz.func41, Tryz.ntmps41
  go_wp2
  go_loopw [0, 1] (fun x y wr => ∃ p q : Int, x = .int .u64 p ∧ y = .int .u64 q ∧ 0 ≤ p ∧ p < 18446744073709551616 ∧ 0 ≤ q ∧ q < 18446744073709551616 ∧ Hid (Num.gcdI p q = Num.gcdI a b) ∧ ∃ nq, wr = w.drewN nq) (fun _ y _ => (intOf y).toNat)
  case atStart => exact ⟨_, _, rfl, rfl, h1, h2, h3, h4, rfl, 0, rfl⟩
  case round =>
    obtain ⟨p, q, rfl, rfl, p1, p2, q1, q2, hg, nq0, rfl⟩ := hrel
    by_cases hq : q = 0
    · have hq' : (q != 0) = false := by simp [hq]
      subst hq
      go_wp2
      go_ret
      exact ⟨ret_int (by rw [← hg.out, Num.gcd_zero _ p1]), _, rfl⟩
    · have hq' : (q != 0) = true := by simp [hq]
      have hpos : 0 < q := by omega
      have l1 := Int.emod_lt_of_pos p hpos
      have l2 := Int.emod_nonneg p (b := q) (by omega)
      go_wp2
      go_quiet (fail)
      go_roundw
      case rel => (repeat apply Exists.intro); exact ⟨⟨_, _, rfl, rfl, q1, q2, l2, by omega, by rw [Num.gcd_step _ _ p1 hpos]; exact hg.out, _, World.drewN_drewN _ _ _⟩, rfl⟩
      case measure => simp [intOf]; omega

set_option maxHeartbeats 400000 in
theorem fractionOf_any (n d : Int) (h1 : -9223372036854775808 ≤ n) (h2 : n ≤ 9223372036854775807) (h3 : -9223372036854775808 ≤ d) (h4 : d ≤ 9223372036854775807) (w : World) :
    Calls Tryz.prog 67 #[.agg #[.int .i64 n, .int .i64 d]] w fun e w' => e = .returned (fracV (decide (n < 0)) (n.natAbs : Int) (d.natAbs : Int)) ∧ Below w.heap.size w w' := by
  go_enter Tryz.func67, Tryz.ntmps67
  go_wp2
  go_region_held3 (fun w' => w'.cell? ⟨w.heap.size, 0, none⟩ = some (.int .i64 n) ∧ w'.cell? ⟨w.heap.size, 1, none⟩ = some (.int .i64 d)) (simp [go_sem, World.cell?_alloc_past])
    (first | (go_at_call 40; refine (magnitude_any _ (by omega) (by omega) _).mono ?_; rintro e w' ⟨rfl, rfl⟩))
  go_wp2
  go_returns
  exact ⟨rfl, by go_grown⟩

set_option maxHeartbeats 400000 in
theorem negated_any (s : Bool) (n d : Int) (w : World) :
    Calls Tryz.prog 59 #[fracV s n d] w fun e w' => e = .returned (fracV (!s) n d) ∧ Below w.heap.size w w' := by
  go_enter Tryz.func59, Tryz.ntmps59
  go_wp2
  go_returns
  exact ⟨rfl, by go_grown⟩

set_option maxHeartbeats 400000 in
theorem inverted_any (s : Bool) (n d : Int) (w : World) :
    Calls Tryz.prog 47 #[fracV s n d] w fun e w' => e = .returned (fracV s d n) ∧ Below w.heap.size w w' := by
  go_enter Tryz.func47, Tryz.ntmps47
  go_wp2
  go_returns
  exact ⟨rfl, by go_grown⟩
end Go.Proofs.YtnccllelmbcdcaaGreatDoor
