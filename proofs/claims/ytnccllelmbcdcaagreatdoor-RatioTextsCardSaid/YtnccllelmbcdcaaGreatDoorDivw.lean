/-
  math/bits.Div64: for a high word that is less than the divisor it returns the quotient and the remainder.
-/
import Derived.Test.YtnccllelmbcdcaaGreatDoorWa
import Derived.Test.YtnccllelmbcdcaaGreatDoorKn
import Derived.Deep.DeepCutAuto
import Derived.Deep.CutBlock
import Derived.Lib.ItoaNum
import Derived.Test.YtnccllelmbcdcaaGreatDoorShelf
namespace Go.Proofs.YtnccllelmbcdcaaGreatDoor
open Go.RowKit

theorem ret_tup2 {a b c d : Int} (h1 : a = c) (h2 : b = d) : Ending.returned (.tuple #[.int .u64 a, .int .u64 b]) = .returned (.tuple #[.int .u64 c, .int .u64 d]) := by rw [h1, h2]

def DivPost (a b : Int) (w : World) (e : Ending) (w' : World) : Prop := e = .returned (.tuple #[.int .u64 a, .int .u64 b]) ∧ w = w'

set_option maxRecDepth 100000 in
set_option maxHeartbeats 2000000 in
theorem div64_walk (h l y s Y y1 y0 U V v1 v0 N1 q1 R1 N0 q0 quo rem : Int) (h1 : 0 < h) (h2 : ¬ y ≤ h) (hs0 : 0 ≤ s) (hs1 : s ≤ 63)
    (e1 : IntKind.u64.wrap (y * 2 ^ s.toNat) = Y) (e2 : Y / 4294967296 = y1) (e3 : bits .and .u64 Y 4294967295 = y0)
    (e4 : bits .or .u64 (IntKind.u64.wrap (h * 2 ^ s.toNat)) (l / 2 ^ (64 - s).toNat) = U)
    (e5 : IntKind.u64.wrap (l * 2 ^ s.toNat) = V) (e6 : V / 4294967296 = v1) (e7 : bits .and .u64 V 4294967295 = v0)
    (e8 : IntKind.u64.wrap (U.tdiv y1) = U / y1) (e9 : IntKind.u64.wrap (U - IntKind.u64.wrap (U / y1 * y1)) = U % y1)
    (hH1 : Kn.Has y1 y0 U v1 Y N1 q1)
    (f1 : IntKind.u64.wrap (IntKind.u64.wrap (IntKind.u64.wrap (U * 4294967296) + v1) - IntKind.u64.wrap (q1 * Y)) = R1)
    (f2 : IntKind.u64.wrap (R1.tdiv y1) = R1 / y1) (f3 : IntKind.u64.wrap (R1 - IntKind.u64.wrap (R1 / y1 * y1)) = R1 % y1)
    (hH0 : Kn.Has y1 y0 R1 v0 Y N0 q0)
    (g1 : IntKind.u64.wrap (IntKind.u64.wrap (q1 * 4294967296) + q0) = quo) (g2 : IntKind.u64.wrap (IntKind.u64.wrap (IntKind.u64.wrap (R1 * 4294967296) + v0) - IntKind.u64.wrap (q0 * Y)) / 2 ^ s.toNat = rem)
    (c : ∀ w, Calls Tryz.prog 106 #[.int .u64 y] w fun e w' => e = .returned (.int .i64 s) ∧ w' = w) (w : World) :
    Calls Tryz.prog 91 #[.int .u64 h, .int .u64 l, .int .u64 y] w (DivPost quo rem w) := by
  have C := Lib.hid c; have H1 := Lib.hid hH1; have H0 := Lib.hid hH0; have G1 := Lib.hid g1; have G2 := Lib.hid g2; clear c hH1 hH0 g1 g2
  have hz : (h == 0) = false := by simp; omega
  have yz : (y == 0) = false := by simp; omega
  have y1z : ¬ y1 = 0 := by have := H1.out.y10; omega
  clear h1
  go_enter Tryz.func91, Tryz.ntmps91
  go_wp2_with fail
  refine (C.out _).mono ?_; rintro e w' ⟨rfl, rfl⟩
  go_upto_block 0 with fail
  go_cut [15, 16] (fun s15 s16 wx => s15 = .int .u64 q1 ∧ (∃ r : Int, s16 = .int .u64 r) ∧ wx = w')
  case first =>
    go_wp2
    go_loop [15, 16] (fun x z => ∃ q r : Int, x = .int .u64 q ∧ z = .int .u64 r ∧ Hid (Kn.Inv y1 U q1 q r)) (fun x _ => (intOf x).toNat)
    case atStart => exact ⟨_, _, rfl, rfl, H1.out.start⟩
    case round =>
      obtain ⟨q, r, rfl, rfl, I⟩ := hrel
      have w1 : IntKind.u64.wrap (q - 1) = q - 1 ∨ q = 0 := by
        have := I.out.ge; have := H1.out.qt0; have := I.out.q1; rw [IntKind.wrap_u64]; omega
      have w2 : IntKind.u64.wrap (r + y1) = r + y1 := by
        have := I.out.r0; have := I.out.r1; have := H1.out.y10; have := H1.out.y11; rw [IntKind.wrap_u64]; omega
      by_cases g : 4294967296 ≤ q
      · have T := Lib.hid (H1.out.step I.out (Or.inl g))
        have G := Lib.hid g
        have d1 : decide (4294967296 ≤ q) = true := by simp [g]
        have w1' : IntKind.u64.wrap (q - 1) = q - 1 := Or.elim w1 id (fun h => absurd h (by omega))
        clear g w1
        by_cases b : 4294967296 ≤ r + y1
        · have B := Lib.hid b
          have d2 : decide (4294967296 ≤ r + y1) = true := by simp [b]
          clear b
          go_wp2_with fail
          go_meet
          exact ⟨by rw [H1.out.exit2 T.out.1 T.out.2 (by have := I.out.q1; omega) B.out], ⟨_, rfl⟩, rfl⟩
        · have B := Lib.hid b
          have d2 : decide (4294967296 ≤ r + y1) = false := by simp; omega
          clear b
          go_wp2
          go_round
          case rel => exact ⟨_, _, rfl, rfl, ⟨T.out.2, T.out.1, by have := I.out.r0; have := H1.out.y10; omega, by have := B.out; omega, by have := I.out.q1; omega⟩⟩
          case measure => have := G.out; simp [intOf]; omega
      · have G := Lib.hid g
        have d1 : decide (4294967296 ≤ q) = false := by simp; omega
        have q00 : 0 ≤ q := by have := I.out.ge; have := H1.out.qt0; omega
        have m1 : IntKind.u64.wrap (q * y0) = q * y0 := by
          have := Num.mul_lt q00 (show q ≤ 4294967295 by omega) H1.out.y00 (show y0 ≤ 4294967295 by have := H1.out.y01; omega)
          rw [IntKind.wrap_u64]; omega
        have m2 : IntKind.u64.wrap (4294967296 * r) = 4294967296 * r := by
          have := I.out.r0; have := I.out.r1; rw [IntKind.wrap_u64]; omega
        have m3 : IntKind.u64.wrap (4294967296 * r + v1) = 4294967296 * r + v1 := by
          have := I.out.r0; have := I.out.r1; have := H1.out.v0; have := H1.out.v1; rw [IntKind.wrap_u64]; omega
        clear g q00
        by_cases t : 4294967296 * r + v1 < q * y0
        · have T := Lib.hid (H1.out.step I.out (Or.inr t))
          have d3 : decide (4294967296 * r + v1 < q * y0) = true := by simp [t]
          have w1' : IntKind.u64.wrap (q - 1) = q - 1 := Or.elim w1 id (fun h => absurd h (by have := T.out.1; have := H1.out.qt0; omega))
          clear t w1
          by_cases b : 4294967296 ≤ r + y1
          · have B := Lib.hid b
            have d2 : decide (4294967296 ≤ r + y1) = true := by simp [b]
            clear b
            go_wp2_with fail
            go_meet
            exact ⟨by rw [H1.out.exit2 T.out.1 T.out.2 (by have := I.out.q1; omega) B.out], ⟨_, rfl⟩, rfl⟩
          · have B := Lib.hid b
            have d2 : decide (4294967296 ≤ r + y1) = false := by simp; omega
            clear b
            go_wp2
            go_round
            case rel => exact ⟨_, _, rfl, rfl, ⟨T.out.2, T.out.1, by have := I.out.r0; have := H1.out.y10; omega, by have := B.out; omega, by have := I.out.q1; omega⟩⟩
            case measure => have := T.out.1; have := H1.out.qt0; simp [intOf]; omega
        · have T := Lib.hid (Int.not_lt.1 t)
          have d3 : decide (4294967296 * r + v1 < q * y0) = false := by simp; omega
          clear t w1
          go_wp2_with fail
          go_meet
          exact ⟨by rw [H1.out.exit1 I.out (Int.not_lt.2 T.out)], ⟨_, rfl⟩, rfl⟩
  case rest =>
    obtain ⟨rfl, ⟨r, rfl⟩, rfl⟩ := hcut
    go_upto_block 2 with fail
    go_cut [18, 16] (fun s18 s16 wx => s18 = .int .u64 q0 ∧ (∃ r : Int, s16 = .int .u64 r) ∧ wx = wc)
    case first =>
      go_wp2
      go_loop [18, 16] (fun x z => ∃ q r : Int, x = .int .u64 q ∧ z = .int .u64 r ∧ Hid (Kn.Inv y1 R1 q0 q r)) (fun x _ => (intOf x).toNat)
      case atStart => exact ⟨_, _, rfl, rfl, H0.out.start⟩
      case round =>
        obtain ⟨q, r, rfl, rfl, I⟩ := hrel
        have w1 : IntKind.u64.wrap (q - 1) = q - 1 ∨ q = 0 := by
          have := I.out.ge; have := H0.out.qt0; have := I.out.q1; rw [IntKind.wrap_u64]; omega
        have w2 : IntKind.u64.wrap (r + y1) = r + y1 := by
          have := I.out.r0; have := I.out.r1; have := H0.out.y10; have := H0.out.y11; rw [IntKind.wrap_u64]; omega
        by_cases g : 4294967296 ≤ q
        · have T := Lib.hid (H0.out.step I.out (Or.inl g))
          have G := Lib.hid g
          have d1 : decide (4294967296 ≤ q) = true := by simp [g]
          have w1' : IntKind.u64.wrap (q - 1) = q - 1 := Or.elim w1 id (fun h => absurd h (by omega))
          clear g w1
          by_cases b : 4294967296 ≤ r + y1
          · have B := Lib.hid b
            have d2 : decide (4294967296 ≤ r + y1) = true := by simp [b]
            clear b
            go_wp2_with fail
            go_meet
            exact ⟨by rw [H0.out.exit2 T.out.1 T.out.2 (by have := I.out.q1; omega) B.out], ⟨_, rfl⟩, rfl⟩
          · have B := Lib.hid b
            have d2 : decide (4294967296 ≤ r + y1) = false := by simp; omega
            clear b
            go_wp2
            go_round
            case rel => exact ⟨_, _, rfl, rfl, ⟨T.out.2, T.out.1, by have := I.out.r0; have := H0.out.y10; omega, by have := B.out; omega, by have := I.out.q1; omega⟩⟩
            case measure => have := G.out; simp [intOf]; omega
        · have G := Lib.hid g
          have d1 : decide (4294967296 ≤ q) = false := by simp; omega
          have q00 : 0 ≤ q := by have := I.out.ge; have := H0.out.qt0; omega
          have m1 : IntKind.u64.wrap (q * y0) = q * y0 := by
            have := Num.mul_lt q00 (show q ≤ 4294967295 by omega) H0.out.y00 (show y0 ≤ 4294967295 by have := H0.out.y01; omega)
            rw [IntKind.wrap_u64]; omega
          have m2 : IntKind.u64.wrap (4294967296 * r) = 4294967296 * r := by
            have := I.out.r0; have := I.out.r1; rw [IntKind.wrap_u64]; omega
          have m3 : IntKind.u64.wrap (4294967296 * r + v0) = 4294967296 * r + v0 := by
            have := I.out.r0; have := I.out.r1; have := H0.out.v0; have := H0.out.v1; rw [IntKind.wrap_u64]; omega
          clear g q00
          by_cases t : 4294967296 * r + v0 < q * y0
          · have T := Lib.hid (H0.out.step I.out (Or.inr t))
            have d3 : decide (4294967296 * r + v0 < q * y0) = true := by simp [t]
            have w1' : IntKind.u64.wrap (q - 1) = q - 1 := Or.elim w1 id (fun h => absurd h (by have := T.out.1; have := H0.out.qt0; omega))
            clear t w1
            by_cases b : 4294967296 ≤ r + y1
            · have B := Lib.hid b
              have d2 : decide (4294967296 ≤ r + y1) = true := by simp [b]
              clear b
              go_wp2_with fail
              go_meet
              exact ⟨by rw [H0.out.exit2 T.out.1 T.out.2 (by have := I.out.q1; omega) B.out], ⟨_, rfl⟩, rfl⟩
            · have B := Lib.hid b
              have d2 : decide (4294967296 ≤ r + y1) = false := by simp; omega
              clear b
              go_wp2
              go_round
              case rel => exact ⟨_, _, rfl, rfl, ⟨T.out.2, T.out.1, by have := I.out.r0; have := H0.out.y10; omega, by have := B.out; omega, by have := I.out.q1; omega⟩⟩
              case measure => have := T.out.1; have := H0.out.qt0; simp [intOf]; omega
          · have T := Lib.hid (Int.not_lt.1 t)
            have d3 : decide (4294967296 * r + v0 < q * y0) = false := by simp; omega
            clear t w1
            go_wp2_with fail
            go_meet
            exact ⟨by rw [H0.out.exit1 I.out (Int.not_lt.2 T.out)], ⟨_, rfl⟩, rfl⟩

    case rest =>
      obtain ⟨rfl, ⟨r2, rfl⟩, rfl⟩ := hcut
      go_wp2
      go_ret2
      exact ⟨ret_tup2 G1.out G2.out, rfl⟩

theorem or_add (a k b : Nat) (hb : b < 2 ^ k) (h : a * 2 ^ k < 18446744073709551616) (hb2 : b < 18446744073709551616) : bits .or .u64 ((a * 2 ^ k : Nat) : Int) (b : Int) = ((a * 2 ^ k + b : Nat) : Int) := by
  rw [bits_or_u64_nat _ _ h hb2, Nat.mul_comm a, Nat.two_pow_add_eq_or_of_lt hb]

theorem small_rest {T t R : Int} (h : T - t = R) (h0 : 0 ≤ R) (h1 : R < 18446744073709551616) : (T % 18446744073709551616 - t % 18446744073709551616) % 18446744073709551616 = R := by omega

set_option maxRecDepth 100000 in
theorem div64_part (h l y P Q : Int) (k : Nat) (hk : k ≤ 63) (hP : P = 2 ^ k) (hQ : Q = 2 ^ (64 - k)) (h0 : 0 < h) (h2 : h < y) (l1 : 0 ≤ l) (l2 : l < 18446744073709551616)
    (Y1 : 9223372036854775808 ≤ y * P) (Y2 : y * P < 18446744073709551616)
    (c : ∀ w, Calls Tryz.prog 106 #[.int .u64 y] w fun e w' => e = .returned (.int .i64 (k : Int)) ∧ w' = w) (w : World) :
    Calls Tryz.prog 91 #[.int .u64 h, .int .u64 l, .int .u64 y] w (DivPost ((h * 18446744073709551616 + l) / y) ((h * 18446744073709551616 + l) % y) w) := by
  have hPQ : P * Q = 18446744073709551616 := by
    rw [hP, hQ, ← Int.pow_add]
    have : k + (64 - k) = 64 := by omega
    rw [this]; rfl
  have P0 : 0 < P := by rw [hP]; exact Int.pow_pos (by decide)
  have Q0 : 0 < Q := by rw [hQ]; exact Int.pow_pos (by decide)
  have lq0 : 0 ≤ l / Q := Int.ediv_nonneg l1 (by omega)
  have lq1 : l / Q < P := by apply Int.ediv_lt_of_lt_mul Q0; omega
  have hp1 : h * P + P ≤ y * P := by
    have : (h + 1) * P ≤ y * P := Int.mul_le_mul_of_nonneg_right (by omega) (by omega)
    rw [Int.add_mul] at this; omega
  have hp0 : 0 ≤ h * P := Int.mul_nonneg (by omega) (by omega)
  obtain ⟨Y, hY⟩ : ∃ Y, Y = y * P := ⟨_, rfl⟩
  obtain ⟨U, hU⟩ : ∃ U, U = h * P + l / Q := ⟨_, rfl⟩
  obtain ⟨V, hV⟩ : ∃ V, V = l * P % 18446744073709551616 := ⟨_, rfl⟩
  have lP : l * P = l / Q * 18446744073709551616 + V := by
    have e := Int.emod_add_mul_ediv (l * P) 18446744073709551616
    have : l * P / 18446744073709551616 = l / Q := by rw [← hPQ, Int.mul_comm l P, Int.mul_ediv_mul_of_pos _ _ P0]
    rw [this] at e; omega
  have V0 : 0 ≤ V ∧ V < 18446744073709551616 := by omega
  have hX : (h * 18446744073709551616 + l) * P = U * 18446744073709551616 + V := by
    rw [Int.add_mul, hU, Int.add_mul, lP]; grind
  have H1 : Kn.Has (Y / 4294967296) (Y % 4294967296) U (V / 4294967296) Y (U * 4294967296 + V / 4294967296) ((U * 4294967296 + V / 4294967296) / Y) :=
    ⟨by omega, by omega, by omega, by omega, by omega, by omega, by omega, by omega, by omega, rfl, rfl⟩
  have R1 := H1.rest
  have q11 := H1.qt1; have q10 := H1.qt0
  obtain ⟨N1, hN1⟩ : ∃ N1, N1 = U * 4294967296 + V / 4294967296 := ⟨_, rfl⟩
  rw [← hN1] at H1 R1 q11 q10
  have H0 : Kn.Has (Y / 4294967296) (Y % 4294967296) (N1 % Y) (V % 4294967296) Y (N1 % Y * 4294967296 + V % 4294967296) ((N1 % Y * 4294967296 + V % 4294967296) / Y) :=
    ⟨by omega, by omega, by omega, by omega, by omega, by omega, by omega, by omega, by omega, rfl, rfl⟩
  have R0 := H0.rest
  have q01 := H0.qt1; have q00 := H0.qt0
  have two := Kn.two (Y := Y) (U := U) (v1 := V / 4294967296) (v0 := V % 4294967296) (q1 := N1 / Y) (q0 := (N1 % Y * 4294967296 + V % 4294967296) / Y) (by omega) (by rw [hN1]) (by rw [hN1])
  have eN : U * 18446744073709551616 + V / 4294967296 * 4294967296 + V % 4294967296 = (h * 18446744073709551616 + l) * P := by rw [hX]; omega
  rw [eN, ← hN1] at two
  have t1 : (h * 18446744073709551616 + l) * P / Y = (h * 18446744073709551616 + l) / y := by rw [hY, Int.mul_ediv_mul_of_pos_left _ _ P0]
  have t2 : (h * 18446744073709551616 + l) * P % Y = P * ((h * 18446744073709551616 + l) % y) := by rw [hY, Int.mul_comm _ P, Int.mul_comm y P, Int.mul_emod_mul_of_pos _ _ P0]
  rw [t1, t2] at two
  have kk : ((k : Int)).toNat = k := Int.toNat_natCast k
  have y11 : 0 < Y / 4294967296 := by omega
  have u1 := Int.ediv_nonneg (a := U) (b := Y / 4294967296) (by omega) (by omega)
  have u2 := Int.ediv_le_self (Y / 4294967296) (a := U) (by omega)
  have u3 := Int.emod_add_mul_ediv U (Y / 4294967296)
  have u4 := Int.emod_nonneg U (b := Y / 4294967296) (by omega)
  have u5 := Int.emod_lt_of_pos U y11
  have r1 := Int.ediv_nonneg (a := N1 % Y) (b := Y / 4294967296) (by omega) (by omega)
  have r2 := Int.ediv_le_self (Y / 4294967296) (a := N1 % Y) (by omega)
  have r3 := Int.emod_add_mul_ediv (N1 % Y) (Y / 4294967296)
  have r4 := Int.emod_nonneg (N1 % Y) (b := Y / 4294967296) (by omega)
  have r5 := Int.emod_lt_of_pos (N1 % Y) y11
  refine div64_walk h l y k Y (Y / 4294967296) (Y % 4294967296) U V (V / 4294967296) (V % 4294967296) N1 (N1 / Y) (N1 % Y) _ ((N1 % Y * 4294967296 + V % 4294967296) / Y) _ _ h0 (by omega) (by omega) (by omega)
    ?_ rfl ?_ ?_ ?_ rfl ?_ ?_ ?_ H1 ?_ ?_ ?_ H0 ?_ ?_ c w
  · rw [kk, ← hP, IntKind.wrap_u64]; omega
  · exact and_low32 Y (by omega) (by omega)
  · have e1 : ((64 : Int) - (k : Int)).toNat = 64 - k := by omega
    rw [kk, e1, ← hP, ← hQ, IntKind.wrap_u64, Int.emod_eq_of_lt hp0 (by omega)]
    obtain ⟨hn, rfl⟩ := Int.eq_ofNat_of_zero_le (Int.le_of_lt h0)
    obtain ⟨b, hb⟩ := Int.eq_ofNat_of_zero_le lq0
    rw [hU, hb]
    have e2 : (hn : Int) * P = ((hn * 2 ^ k : Nat) : Int) := by rw [hP]; simp
    rw [e2, or_add hn k b (by rw [hP, hb] at lq1; exact_mod_cast lq1) (by rw [e2] at hp1; omega) (by omega)]
    simp
  · rw [kk, ← hP, IntKind.wrap_u64, hV]
  · exact and_low32 V V0.1 V0.2
  · rw [Int.tdiv_eq_ediv_of_nonneg (by omega), IntKind.wrap_u64, Int.emod_eq_of_lt u1 (by omega)]
  · rw [IntKind.wrap_u64, IntKind.wrap_u64, Int.mul_comm (U / (Y / 4294967296))]; omega
  · simp only [IntKind.wrap_u64]
    have := small_rest (T := U * 4294967296 + V / 4294967296) (t := N1 / Y * Y) (R := N1 % Y) (by omega) (by omega) (by omega)
    omega
  · rw [Int.tdiv_eq_ediv_of_nonneg (by omega), IntKind.wrap_u64, Int.emod_eq_of_lt r1 (by omega)]
  · rw [IntKind.wrap_u64, IntKind.wrap_u64, Int.mul_comm (N1 % Y / (Y / 4294967296))]; omega
  · simp only [IntKind.wrap_u64]; rw [two.1]; omega
  · simp only [IntKind.wrap_u64]
    have e := small_rest (T := N1 % Y * 4294967296 + V % 4294967296) (t := (N1 % Y * 4294967296 + V % 4294967296) / Y * Y) (R := (N1 % Y * 4294967296 + V % 4294967296) % Y) (by omega) (by omega) (by omega)
    have e' : ((N1 % Y * 4294967296 % 18446744073709551616 + V % 4294967296) % 18446744073709551616 - (N1 % Y * 4294967296 + V % 4294967296) / Y * Y % 18446744073709551616) % 18446744073709551616 = (N1 % Y * 4294967296 + V % 4294967296) % Y := by omega
    rw [e', ← two.2, kk, ← hP, Int.mul_comm P, Int.mul_ediv_cancel _ (by omega)]

theorem div64_any (h l y : Int) (h1 : 0 ≤ h) (h2 : h < y) (l1 : 0 ≤ l) (l2 : l < 18446744073709551616) (y2 : y < 18446744073709551616) (w : World) :
    Calls Tryz.prog 91 #[.int .u64 h, .int .u64 l, .int .u64 y] w fun e w' => e = .returned (.tuple #[.int .u64 ((h * 18446744073709551616 + l) / y), .int .u64 ((h * 18446744073709551616 + l) % y)]) ∧ ∃ nq, w' = w.drewN nq := by
  by_cases hz : h = 0
  · subst hz
    have d1 := Int.ediv_nonneg l1 (b := y) (by omega)
    have d2 := Int.ediv_le_self y l1
    have Q : IntKind.u64.wrap (l.tdiv y) = l / y := by rw [Int.tdiv_eq_ediv_of_nonneg l1, IntKind.wrap_u64, Int.emod_eq_of_lt d1 (by omega)]
    have M : l.tmod y = l % y := Int.tmod_eq_emod_of_nonneg l1
    have F := Lib.hid l1; have yz : ¬ y = 0 := by omega
    have H2 := Lib.hid h2; have Y2 := Lib.hid y2
    have hl : decide (y ≤ 0) = false := by simp; omega
    clear d1 d2 l1 l2 h1 h2 y2
    go_enter Tryz.func91, Tryz.ntmps91
    go_wp2
    go_quiet (fail)
    go_wp2
    go_ret2
    exact ⟨ret_tup2 (by simp) (by simp), _, rfl⟩
  · have bb := Lib.bitLenAux_bounds 64 y.toNat (by omega) (by omega)
    have bl : Lib.bitLenAux 64 y.toNat ≤ 64 := Lib.bitLen_le y.toNat 64 (by omega) (by omega)
    obtain ⟨n, hn⟩ : ∃ n, n = Lib.bitLenAux 64 y.toNat := ⟨_, rfl⟩
    rw [← hn] at bb bl
    have c : ∀ w, Calls Tryz.prog 106 #[.int .u64 y] w fun e w' => e = .returned (.int .i64 ((64 - n : Nat) : Int)) ∧ w' = w := fun w =>
      (Tryz.bits_LeadingZeros64 y w (by omega) (by omega)).mono fun e w' ⟨he, hw⟩ => ⟨by rw [he]; congr 2; show 64 - ((Lib.bitLenAux 64 y.toNat : Nat) : Int) = _; rw [← hn]; omega, hw⟩
    have hy : (y.toNat : Int) = y := by omega
    have p1 : (2 : Int) ^ (n - 1) ≤ y := by have := bb.2.1; rw [← hy]; exact_mod_cast this
    have p2 : y < (2 : Int) ^ n := by have := bb.2.2; rw [← hy]; exact_mod_cast this
    have P0 : (0 : Int) < 2 ^ (64 - n) := Int.pow_pos (by decide)
    have m1 : (2 : Int) ^ (n - 1) * 2 ^ (64 - n) ≤ y * 2 ^ (64 - n) := Int.mul_le_mul_of_nonneg_right p1 (by omega)
    have m2 : y * 2 ^ (64 - n) < (2 : Int) ^ n * 2 ^ (64 - n) := Int.mul_lt_mul_of_pos_right p2 P0
    rw [← Int.pow_add] at m1 m2
    have e1 : n - 1 + (64 - n) = 63 := by omega
    have e2 : n + (64 - n) = 64 := by omega
    rw [e1] at m1; rw [e2] at m2
    have k1 : (2 : Int) ^ 63 = 9223372036854775808 := by decide
    have k2 : (2 : Int) ^ 64 = 18446744073709551616 := by decide
    rw [k1] at m1; rw [k2] at m2
    exact (div64_part h l y _ _ (64 - n) (by omega) rfl rfl (by omega) h2 l1 l2 m1 m2 c w).mono fun e w' ⟨he, hw⟩ => ⟨he, 0, hw.symm⟩
end Go.Proofs.YtnccllelmbcdcaaGreatDoor
