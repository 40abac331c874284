/- RatioLimits for the offsets that leave 0 when divided by 5: every check answers as it should. Conditions: the two listed variables hold the program's own text. -/
import Derived.Test.YtiobeclipbhkeaaDoorLim
namespace Go.Proofs.YtiobeclipbhkeaaDoor
open Go.RowKit

set_option maxRecDepth 100000 in
set_option maxHeartbeats 4000000 in
theorem limits_0 (n d X : Int) (hn : n % 5 = 0) (hd : d % 1000 + 2 = X) (n0 : 0 ≤ n) (n1 : n ≤ 255) (d0 : 0 ≤ d) (hx1 : 2 ≤ X) (hx2 : X ≤ 1001) (w : World) (hT : Tab w) (hM : Max w) :
    Calls Tryd.prog 7 #[.int .u8 n, .int .u16 d] w fun e w' => e = .returned (.bool true) ∧ Below w.heap.size w w' := by
  have HT := Lib.hid hT; have HM := Lib.hid hM; clear hT hM
  go_enter Tryd.func7, Tryd.ntmps7
  have P1 := Lib.hid (Held.nil w)
  have B1 := Lib.hid (Below.refl w.heap.size w)
  go_wp2_with fail
  refine (sanity_any _ (HT.out.below B1.out) (HM.out.below B1.out)).mono ?_; rintro e w1 ⟨rfl, hb⟩
  have Q1 := Lib.hid (P1.out.below hb)
  have D1 := Lib.hid (B1.out.trans (hb.mono B1.out.size))
  clear hb
  have P2 := Lib.hid (Q1.out)
  have B2 := Lib.hid (D1.out)
  go_wp2_with fail
  refine (of_any 9223372036854775807 _).mono ?_; rintro e w2 ⟨rfl, hb⟩
  have Q2 := Lib.hid (P2.out.below hb)
  have D2 := Lib.hid (B2.out.trans (hb.mono B2.out.size))
  clear hb
  have P3 := Lib.hid (Q2.out)
  have B3 := Lib.hid (D2.out)
  go_wp2_with fail
  refine (of_any 2 _).mono ?_; rintro e w3 ⟨rfl, hb⟩
  have Q3 := Lib.hid (P3.out.below hb)
  have D3 := Lib.hid (B3.out.trans (hb.mono B3.out.size))
  clear hb
  have P4 := Lib.hid (Q3.out)
  have B4 := Lib.hid (D3.out)
  go_wp2_with fail
  refine (add_c 9223372036854775807 1 2 1 0 1 false (i64_of (by omega) (by omega)) (i64_of (by omega) (by omega)) (i64_of (by omega) (by omega)) (i64_of (by omega) (by omega)) (by decide +kernel) _).mono ?_; rintro e w4 ⟨rfl, hb⟩
  have Q4 := Lib.hid (P4.out.below hb)
  have D4 := Lib.hid (B4.out.trans (hb.mono B4.out.size))
  clear hb
  have P5 := Lib.hid (Held.alloc (Q4.out) 0 1 28)
  have B5 := Lib.hid (Below.alloc (D4.out) (Below.size (D4.out)) (.cells #[.int .i64 0, .int .i64 1] 28))
  go_wp2_with fail
  refine (of_any (-9223372036854775808) _).mono ?_; rintro e w5 ⟨rfl, hb⟩
  have Q5 := Lib.hid (P5.out.below hb)
  have D5 := Lib.hid (B5.out.trans (hb.mono B5.out.size))
  clear hb
  have P6 := Lib.hid (Q5.out)
  have B6 := Lib.hid (D5.out)
  go_wp2_with fail
  refine (of_any 2 _).mono ?_; rintro e w6 ⟨rfl, hb⟩
  have Q6 := Lib.hid (P6.out.below hb)
  have D6 := Lib.hid (B6.out.trans (hb.mono B6.out.size))
  clear hb
  have P7 := Lib.hid (Q6.out)
  have B7 := Lib.hid (D6.out)
  go_wp2_with fail
  refine (sub_c (-9223372036854775808) 1 2 1 0 1 false (i64_of (by omega) (by omega)) (i64_of (by omega) (by omega)) (i64_of (by omega) (by omega)) (i64_of (by omega) (by omega)) (by decide +kernel) _).mono ?_; rintro e w7 ⟨rfl, hb⟩
  have Q7 := Lib.hid (P7.out.below hb)
  have D7 := Lib.hid (B7.out.trans (hb.mono B7.out.size))
  clear hb
  have P8 := Lib.hid (Held.alloc (Q7.out) 0 1 28)
  have B8 := Lib.hid (Below.alloc (D7.out) (Below.size (D7.out)) (.cells #[.int .i64 0, .int .i64 1] 28))
  go_wp2_with fail
  refine (of_any (-9223372036854775808) _).mono ?_; rintro e w8 ⟨rfl, hb⟩
  have Q8 := Lib.hid (P8.out.below hb)
  have D8 := Lib.hid (B8.out.trans (hb.mono B8.out.size))
  clear hb
  have P9 := Lib.hid (Q8.out)
  have B9 := Lib.hid (D8.out)
  go_wp2_with fail
  refine (of_any (-1) _).mono ?_; rintro e w9 ⟨rfl, hb⟩
  have Q9 := Lib.hid (P9.out.below hb)
  have D9 := Lib.hid (B9.out.trans (hb.mono B9.out.size))
  clear hb
  have P10 := Lib.hid (Q9.out)
  have B10 := Lib.hid (D9.out)
  go_wp2_with fail
  refine (mul_c (-9223372036854775808) 1 (-1) 1 0 1 false (i64_of (by omega) (by omega)) (i64_of (by omega) (by omega)) (i64_of (by omega) (by omega)) (i64_of (by omega) (by omega)) (by decide +kernel) _).mono ?_; rintro e w10 ⟨rfl, hb⟩
  have Q10 := Lib.hid (P10.out.below hb)
  have D10 := Lib.hid (B10.out.trans (hb.mono B10.out.size))
  clear hb
  have P11 := Lib.hid (Held.alloc (Q10.out) 0 1 28)
  have B11 := Lib.hid (Below.alloc (D10.out) (Below.size (D10.out)) (.cells #[.int .i64 0, .int .i64 1] 28))
  go_wp2_with fail
  refine (of_any (-1) _).mono ?_; rintro e w11 ⟨rfl, hb⟩
  have Q11 := Lib.hid (P11.out.below hb)
  have D11 := Lib.hid (B11.out.trans (hb.mono B11.out.size))
  clear hb
  have P12 := Lib.hid (Q11.out)
  have B12 := Lib.hid (D11.out)
  go_wp2_with fail
  refine (of_any (-9223372036854775808) _).mono ?_; rintro e w12 ⟨rfl, hb⟩
  have Q12 := Lib.hid (P12.out.below hb)
  have D12 := Lib.hid (B12.out.trans (hb.mono B12.out.size))
  clear hb
  have P13 := Lib.hid (Q12.out)
  have B13 := Lib.hid (D12.out)
  go_wp2_with fail
  refine (quo_c (-1) 1 (-9223372036854775808) 1 0 1 false (i64_of (by omega) (by omega)) (i64_of (by omega) (by omega)) (i64_of (by omega) (by omega)) (i64_of (by omega) (by omega)) (by decide +kernel) _).mono ?_; rintro e w13 ⟨rfl, hb⟩
  have Q13 := Lib.hid (P13.out.below hb)
  have D13 := Lib.hid (B13.out.trans (hb.mono B13.out.size))
  clear hb
  have P14 := Lib.hid (Held.alloc (Q13.out) 0 1 28)
  have B14 := Lib.hid (Below.alloc (D13.out) (Below.size (D13.out)) (.cells #[.int .i64 0, .int .i64 1] 28))
  go_wp2_with fail
  refine (mul_lim X hx1 hx2 _).mono ?_; rintro e w14 ⟨rfl, hb⟩
  have Q14 := Lib.hid (P14.out.below hb)
  have D14 := Lib.hid (B14.out.trans (hb.mono B14.out.size))
  clear hb
  have P15 := Lib.hid (Held.alloc (Q14.out) 0 1 28)
  have B15 := Lib.hid (Below.alloc (D14.out) (Below.size (D14.out)) (.cells #[.int .i64 0, .int .i64 1] 28))
  go_wp2_with fail
  refine (of_any 9223372036854775807 _).mono ?_; rintro e w15 ⟨rfl, hb⟩
  have Q15 := Lib.hid (P15.out.below hb)
  have D15 := Lib.hid (B15.out.trans (hb.mono B15.out.size))
  clear hb
  have P16 := Lib.hid (Q15.out)
  have B16 := Lib.hid (D15.out)
  go_wp2_with fail
  refine (mul_c 1 9223372036854775807 9223372036854775807 1 1 1 true (i64_of (by omega) (by omega)) (i64_of (by omega) (by omega)) (i64_of (by omega) (by omega)) (i64_of (by omega) (by omega)) (by decide +kernel) _).mono ?_; rintro e w16 ⟨rfl, hb⟩
  have Q16 := Lib.hid (P16.out.below hb)
  have D16 := Lib.hid (B16.out.trans (hb.mono B16.out.size))
  clear hb
  go_wp2_with fail
  go_quiet (fail)
  go_wp2_with fail
  go_quiet (fail)
  obtain ⟨x0, x1, x2⟩ := Q16.out.get (n := w14.heap.size) (a := 0) (b := 1) (by simp)
  go_wp2_with fail
  refine (none_yes _).mono ?_; rintro e w17 ⟨rfl, hb⟩
  have Q17 := Lib.hid ((Held.drewN (Held.alloc (Q16.out) 1 1 28) _).below hb)
  have D17 := Lib.hid ((bdn (Below.alloc (D16.out) (Below.size (D16.out)) (.cells #[.int .i64 1, .int .i64 1] 28)) _).trans (hb.mono (bdn (Below.alloc (D16.out) (Below.size (D16.out)) (.cells #[.int .i64 1, .int .i64 1] 28)) _).size))
  clear hb
  try clear x0 x1 x2
  obtain ⟨x0, x1, x2⟩ := Q17.out.get (n := w16.heap.size) (a := 1) (b := 1) (by simp)
  have P18 := Lib.hid (Q17.out)
  have B18 := Lib.hid (D17.out)
  go_wp2_with fail
  refine (is_yes 1 1 _).mono ?_; rintro e w18 ⟨rfl, hb⟩
  have Q18 := Lib.hid (P18.out.below hb)
  have D18 := Lib.hid (B18.out.trans (hb.mono B18.out.size))
  clear hb
  try clear x0 x1 x2
  go_wp2
  go_ret
  exact ⟨rfl, D18.out⟩
end Go.Proofs.YtiobeclipbhkeaaDoor
