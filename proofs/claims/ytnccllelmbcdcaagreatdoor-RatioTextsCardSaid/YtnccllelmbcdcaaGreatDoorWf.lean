/-
  The walks of ratio: products of fractions.
-/
import Derived.Test.YtnccllelmbcdcaaGreatDoorWe
import Derived.Deep.DeepCutAuto
namespace Go.Proofs.YtnccllelmbcdcaaGreatDoor
open Go.RowKit

def Box3 (w : World) (n : Nat) (a b c : Value) : Prop := w.cell? ⟨n, 0, none⟩ = some a ∧ w.cell? ⟨n, 1, none⟩ = some b ∧ w.cell? ⟨n, 2, none⟩ = some c ∧ n < w.heap.size
def Box2 (w : World) (n : Nat) (a b : Value) : Prop := w.cell? ⟨n, 0, none⟩ = some a ∧ w.cell? ⟨n, 1, none⟩ = some b ∧ w.frozen? ⟨n, 0, none⟩ = false ∧ w.frozen? ⟨n, 1, none⟩ = false ∧ n < w.heap.size

theorem Num.div_lt {a f : Int} (h0 : 0 ≤ a) (h1 : a ≤ 9223372036854775808) (hf : 0 < f) : 0 ≤ a / f ∧ a / f < 18446744073709551616 := by
  refine ⟨Int.ediv_nonneg h0 (by omega), ?_⟩
  have := Int.ediv_le_self f h0; omega
theorem Num.gcd_pos {a b : Int} (h1 : 0 < b) (h2 : b ≤ 9223372036854775808) : 0 < Num.gcdI a b ∧ Num.gcdI a b ≤ 9223372036854775808 := by
  unfold Num.gcdI
  have h3 : 0 < Nat.gcd a.toNat b.toNat := Nat.gcd_pos_of_pos_right _ (by omega)
  have h4 : Nat.gcd a.toNat b.toNat ≤ b.toNat := Nat.le_of_dvd (by omega) (Nat.gcd_dvd_right ..)
  omega

theorem Num.quo_eq {a f : Int} (h0 : 0 ≤ a) (h1 : a ≤ 9223372036854775808) (hf : 0 < f) : IntKind.u64.wrap (a.tdiv f) = a / f := by
  have := Num.div_lt h0 h1 hf
  rw [Int.tdiv_eq_ediv_of_nonneg h0, IntKind.wrap_u64, Int.emod_eq_of_lt this.1 this.2]

set_option maxHeartbeats 1000000 in
theorem product_raw (s t : Bool) (an ad bn bd f r : Int) (h1 : 0 ≤ an) (h2 : an ≤ 9223372036854775808) (h3 : 0 < ad) (h4 : ad ≤ 9223372036854775808) (h5 : 0 ≤ bn) (h6 : bn ≤ 9223372036854775808) (h7 : 0 < bd) (h8 : bd ≤ 9223372036854775808)
    (hf : f = Num.gcdI an bd) (hr : r = Num.gcdI bn ad) (w : World) :
    Calls Tryz.prog 45 #[fracV s an ad, fracV t bn bd] w fun e w' => e = .returned (.tuple #[ratV (Num.fitN (s != t) ((an / f) * (bn / r)) ((ad / r) * (bd / f))) (Num.fitD (s != t) ((an / f) * (bn / r)) ((ad / r) * (bd / f))), .bool (Num.fitsB (s != t) ((an / f) * (bn / r)) ((ad / r) * (bd / f)))]) ∧ Below w.heap.size w w' := by
  obtain ⟨f1, f2⟩ : 0 < f ∧ f ≤ 9223372036854775808 := hf ▸ Num.gcd_pos h7 h8
  obtain ⟨r1, r2⟩ : 0 < r ∧ r ≤ 9223372036854775808 := hr ▸ Num.gcd_pos h3 h4
  have c1 : ∀ w, Calls Tryz.prog 41 #[.int .u64 an, .int .u64 bd] w fun e w' => e = .returned (.int .u64 f) ∧ ∃ nq, w' = w.drewN nq := fun w => hf ▸ gcd_any an bd h1 (by omega) (by omega) (by omega) w
  have c2 : ∀ w, Calls Tryz.prog 41 #[.int .u64 bn, .int .u64 ad] w fun e w' => e = .returned (.int .u64 r) ∧ ∃ nq, w' = w.drewN nq := fun w => hr ▸ gcd_any bn ad h5 (by omega) (by omega) (by omega) w
  have C1 := Lib.hid c1; clear c1
  have C2 := Lib.hid c2; clear c2
  obtain ⟨a1, a2⟩ := Num.div_lt h1 h2 f1
  obtain ⟨b1, b2⟩ := Num.div_lt h5 h6 r1
  obtain ⟨d1, d2⟩ := Num.div_lt (Int.le_of_lt h3) h4 r1
  obtain ⟨e1, e2⟩ := Num.div_lt (Int.le_of_lt h7) h8 f1
  have Q1 := Num.quo_eq h1 h2 f1
  have Q2 := Num.quo_eq h5 h6 r1
  have Q3 := Num.quo_eq (Int.le_of_lt h3) h4 r1
  have Q4 := Num.quo_eq (Int.le_of_lt h7) h8 f1
  have fz : ¬ f = 0 := by omega
  have rz : ¬ r = 0 := by omega
  have A2 := Lib.hid a2; have B2 := Lib.hid b2; have D2 := Lib.hid d2; have E2 := Lib.hid e2; have A1 := Lib.hid a1; have B1 := Lib.hid b1; have D1 := Lib.hid d1; have E1 := Lib.hid e1
  clear hf hr h2 h4 h6 h8 f2 r2 a2 b2 d2 e2 f1 r1 a1 b1 d1 e1
  go_enter Tryz.func45, Tryz.ntmps45
  go_wp2
  go_quiet ((first | (go_at_call_of 41 (Value.int IntKind.u64 an); exact Calls.quiet_of (C1.out _)) | (go_at_call_of 41 (Value.int IntKind.u64 bn); exact Calls.quiet_of (C2.out _))))
  go_upto_region 2 with fail
  go_cut [8] (fun s8 wx => ∃ g : Nat, s8 = .pointer (some ⟨g, 0, none⟩) ∧ Box3 wx w.heap.size (.bool s) (.int .u64 an) (.int .u64 ad) ∧ Box3 wx (w.heap.size + 1) (.bool t) (.int .u64 bn) (.int .u64 bd) ∧ Box2 wx (w.heap.size + 1 + 1) (.int .i64 0) (.int .i64 0) ∧ Box2 wx g (.int .u64 (Num.hi (an / f * (bn / r)))) (.int .u64 (Num.lo (an / f * (bn / r)))) ∧ Below w.heap.size w wx)
  case first =>
    go_region_held3 (fun w' => w'.cell? ⟨w.heap.size, 1, none⟩ = some (.int .u64 an) ∧ w'.cell? ⟨w.heap.size + 1, 1, none⟩ = some (.int .u64 bn)) (simp [go_sem, World.cell?_alloc_past])
      (first | (go_at_call 68; refine (multiply_any _ _ A1.out A2.out B1.out B2.out _).mono ?_; rintro e w' ⟨rfl, rfl⟩))
    all_goals
      go_wp2_with fail
      go_meet
      refine ⟨_, rfl, ?_, ?_, ?_, ?_, ?_⟩
    all_goals first | (simp [Box3, go_sem]; done) | (simp [Box2, go_sem]; done) | (repeat' (first | (with_reducible exact Below.refl _ _) | (with_reducible assumption) | (with_reducible refine bdn ?_ _) | (with_reducible refine Below.drew ?_) | (with_reducible refine Below.alloc ?_ ?_ _) | (with_reducible refine Below.setCell ?_ ?_ _) | go_size))
  case rest =>
    obtain ⟨g, rfl, ⟨q1, q2, q3, q4⟩, ⟨q5, q6, q7, q8⟩, ⟨p1, p2, p3, p4, p5⟩, ⟨g1, g2, g3, g4, g5⟩, hb0⟩ := hcut
    have HB0 := Lib.hid hb0; clear hb0
    obtain ⟨wa, rfl⟩ : ∃ wa : World, wa = wc := ⟨_, rfl⟩
    go_upto_region 3 with fail
    go_cut [9] (fun s9 wx => ∃ k : Nat, s9 = .pointer (some ⟨k, 0, none⟩) ∧ Box3 wx w.heap.size (.bool s) (.int .u64 an) (.int .u64 ad) ∧ Box3 wx (w.heap.size + 1) (.bool t) (.int .u64 bn) (.int .u64 bd) ∧ Box2 wx (w.heap.size + 1 + 1) (.int .i64 0) (.int .i64 0) ∧ Box2 wx g (.int .u64 (Num.hi (an / f * (bn / r)))) (.int .u64 (Num.lo (an / f * (bn / r)))) ∧ Box2 wx k (.int .u64 (Num.hi (ad / r * (bd / f)))) (.int .u64 (Num.lo (ad / r * (bd / f)))) ∧ Below w.heap.size wa wx)
    case first =>
      go_region_held3 (fun w' => w'.cell? ⟨w.heap.size, 2, none⟩ = some (.int .u64 ad) ∧ w'.cell? ⟨w.heap.size + 1, 2, none⟩ = some (.int .u64 bd)) (simp [*, go_sem, World.cell?_alloc_past])
        (first | (go_at_call 68; refine (multiply_any _ _ D1.out D2.out E1.out E2.out _).mono ?_; rintro e w' ⟨rfl, rfl⟩))
      all_goals
        go_wp2_with fail
        go_meet
        refine ⟨_, rfl, ?_, ?_, ?_, ?_, ?_, ?_⟩
      all_goals first | (simp [Box3, go_sem, *]; done) | (simp [Box2, go_sem, *]; done) | (repeat' (first | (with_reducible exact Below.refl _ _) | (with_reducible assumption) | (with_reducible refine bdn ?_ _) | (with_reducible refine Below.drew ?_) | (with_reducible refine Below.alloc ?_ ?_ _) | (with_reducible refine Below.setCell ?_ ?_ _) | go_size))
    case rest =>
      obtain ⟨k, rfl, ⟨a1, a2, a3, a4⟩, ⟨a5, a6, a7, a8⟩, ⟨b1, b2, b3, b4, b5⟩, ⟨c1, c2, c3, c4, c5⟩, ⟨d1, d2, d3, d4, d5⟩, hb1⟩ := hcut
      have HB1 := Lib.hid hb1; clear hb1
      clear q1 q2 q3 q4 q5 q6 q7 q8 p1 p2 p3 p4 p5 g1 g2 g3 g4 g5
      have n1 : 0 ≤ an / f * (bn / r) := Int.mul_nonneg A1.out B1.out
      have n2 : 0 ≤ ad / r * (bd / f) := Int.mul_nonneg D1.out E1.out
      go_wp2_with fail
      refine (fit_any (s != t) (an / f * (bn / r)) (ad / r * (bd / f)) n1 n2 _).mono ?_; rintro e w3 ⟨rfl, hb3⟩
      obtain ⟨sa, sb, sc, sd, se⟩ := box2 hb3 (w.heap.size + 1 + 1) (a := .int .i64 0) (b := .int .i64 0) (by first | assumption | (simp [go_sem]; done) | omega | (simp; omega)) (by first | assumption | (simp [go_sem]; done) | omega | (simp; omega)) (by first | assumption | (simp [go_sem]; done) | omega | (simp; omega)) (by first | assumption | (simp [go_sem]; done) | omega | (simp; omega)) (by first | assumption | (simp [go_sem]; done) | omega | (simp; omega)) (by first | assumption | (simp [go_sem]; done) | omega | (simp; omega))
      have hB3 := hb3.mono (B' := w.heap.size) (Nat.le_of_lt a4)
      clear hb3
      go_wp2
      refine bodyPost_ret (v := .tuple #[ratV (Num.fitN (s != t) ((an / f) * (bn / r)) ((ad / r) * (bd / f))) (Num.fitD (s != t) ((an / f) * (bn / r)) ((ad / r) * (bd / f))), .bool (Num.fitsB (s != t) ((an / f) * (bn / r)) ((ad / r) * (bd / f)))]) (by simp [results, Tryz.results45, go_sem, sa, sb]) rfl ⟨rfl, ?_⟩
      refine Below.setCell (Below.setCell (Below.trans (Below.trans HB0.out HB1.out) hB3) ?_ _) ?_ _ <;> (repeat' (first | (with_reducible exact Below.refl _ _) | (with_reducible assumption) | (with_reducible refine bdn ?_ _) | (with_reducible refine Below.drew ?_) | (with_reducible refine Below.alloc ?_ ?_ _) | (with_reducible refine Below.setCell ?_ ?_ _) | go_size))

theorem product_any (s t : Bool) (an ad bn bd : Int) (h1 : 0 ≤ an) (h2 : an ≤ 9223372036854775808) (h3 : 0 < ad) (h4 : ad ≤ 9223372036854775808) (h5 : 0 ≤ bn) (h6 : bn ≤ 9223372036854775808) (h7 : 0 < bd) (h8 : bd ≤ 9223372036854775808)
    (ha : Num.gcdI an ad = 1) (hb : Num.gcdI bn bd = 1) (n d : Int) (hd : d ≠ 0) (he : Num.sgn s an * Num.sgn t bn * d = n * (ad * bd)) (w : World) :
    Calls Tryz.prog 45 #[fracV s an ad, fracV t bn bd] w fun e w' => e = .returned (.tuple #[ratV (Num.resN n d) (Num.resD n d), .bool (Num.okB n d)]) ∧ Below w.heap.size w w' := by
  have L := Num.prod_low (s := s) (t := t) h1 h3 h5 h7 ha hb rfl rfl
  have F := Num.fit_eq (n := n) (d := d) (s := (s != t)) hd L.2.2.1 L.2.1 L.1 (by
    have hp : ad * bd ≠ 0 := by have := Int.mul_pos h3 h7; omega
    have h9 := L.2.2.2
    generalize Num.sgn (s != t) (an / Num.gcdI an bd * (bn / Num.gcdI bn ad)) = x at *
    generalize ad / Num.gcdI bn ad * (bd / Num.gcdI an bd) = y at *
    have : (ad * bd) * (x * d) = (ad * bd) * (n * y) := by
      have : (ad * bd) * (x * d) = (x * (ad * bd)) * d := by grind
      rw [this, h9]
      have : Num.sgn s an * Num.sgn t bn * y * d = (Num.sgn s an * Num.sgn t bn * d) * y := by grind
      rw [this, he]; grind
    exact Int.eq_of_mul_eq_mul_left hp this)
  rw [← F.1, ← F.2.1, ← F.2.2]
  exact product_raw s t an ad bn bd _ _ h1 h2 h3 h4 h5 h6 h7 h8 rfl rfl w
end Go.Proofs.YtnccllelmbcdcaaGreatDoor
