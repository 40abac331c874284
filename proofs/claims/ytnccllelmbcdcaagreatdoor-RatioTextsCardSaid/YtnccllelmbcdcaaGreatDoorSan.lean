/-
  The examples of the chapter, as the laws check them.
-/
import Derived.Test.YtnccllelmbcdcaaGreatDoorT
namespace Go.Proofs.YtnccllelmbcdcaaGreatDoor
open Go.RowKit

def Held (w : World) (L : List (Nat × Int × Int)) : Prop := ∀ x ∈ L, w.cell? ⟨x.1, 0, none⟩ = some (.int .i64 x.2.1) ∧ w.cell? ⟨x.1, 1, none⟩ = some (.int .i64 x.2.2) ∧ x.1 < w.heap.size
theorem Held.nil (w : World) : Held w [] := fun _ h => by cases h
theorem Held.below {w w' : World} {L : List (Nat × Int × Int)} (h : Held w L) (hb : Below w.heap.size w w') : Held w' L := fun x hx =>
  have := h x hx
  ⟨bk hb _ _ this.1 this.2.2, bk hb _ _ this.2.1 this.2.2, bs hb this.2.2⟩
theorem Held.alloc {w : World} {L : List (Nat × Int × Int)} (h : Held w L) (a b : Int) (t : TypeId) : Held (w.alloc (.cells #[.int .i64 a, .int .i64 b] t)) ((w.heap.size, a, b) :: L) := fun x hx => by
  rcases List.mem_cons.1 hx with rfl | hx
  · exact ⟨by simp [go_sem], by simp [go_sem], by simp⟩
  · have := h x hx
    exact ⟨(World.cell?_alloc_past (w := w) _ _ _ this.2.2).trans this.1, (World.cell?_alloc_past (w := w) _ _ _ this.2.2).trans this.2.1, by have := this.2.2; simp; omega⟩
theorem Held.get {w : World} {L : List (Nat × Int × Int)} {n : Nat} {a b : Int} (h : Held w L) (hx : (n, a, b) ∈ L) : w.cell? ⟨n, 0, none⟩ = some (.int .i64 a) ∧ w.cell? ⟨n, 1, none⟩ = some (.int .i64 b) ∧ n < w.heap.size := h _ hx

theorem i64_of {n : Int} (h1 : -9223372036854775808 ≤ n) (h2 : n ≤ 9223372036854775807) : I64 n := ⟨h1, h2⟩

theorem make_c (n d rn rd : Int) (rb : Bool) (hn : I64 n) (hd : I64 d) (h : (Num.resN n d, Num.resD n d, Num.okB n d) = (rn, rd, rb)) (w : World) :
    Calls Tryz.prog 14 #[.int .i64 n, .int .i64 d] w fun e w' => e = .returned (.tuple #[ratV rn rd, .bool rb]) ∧ Below w.heap.size w w' := by
  simp only [Prod.mk.injEq] at h
  have := make_any n d hn hd w
  rw [h.1, h.2.1, h.2.2] at this; exact this
theorem add_c (a b c d rn rd : Int) (rb : Bool) (ha : I64 a) (hb : I64 b) (hc : I64 c) (hd : I64 d) (h : (Num.opN (Num.rtB a b && Num.rtB c d) (a * d + c * b) (b * d), Num.opD (Num.rtB a b && Num.rtB c d) (a * d + c * b) (b * d), Num.opB (Num.rtB a b && Num.rtB c d) (a * d + c * b) (b * d)) = (rn, rd, rb)) (w : World) :
    Calls Tryz.prog 15 #[ratV a b, ratV c d] w fun e w' => e = .returned (.tuple #[ratV rn rd, .bool rb]) ∧ Below w.heap.size w w' := by
  simp only [Prod.mk.injEq] at h
  have := add_any a b c d ha hb hc hd w
  rw [h.1, h.2.1, h.2.2] at this; exact this
theorem sub_c (a b c d rn rd : Int) (rb : Bool) (ha : I64 a) (hb : I64 b) (hc : I64 c) (hd : I64 d) (h : (Num.opN (Num.rtB a b && Num.rtB c d) (a * d - c * b) (b * d), Num.opD (Num.rtB a b && Num.rtB c d) (a * d - c * b) (b * d), Num.opB (Num.rtB a b && Num.rtB c d) (a * d - c * b) (b * d)) = (rn, rd, rb)) (w : World) :
    Calls Tryz.prog 26 #[ratV a b, ratV c d] w fun e w' => e = .returned (.tuple #[ratV rn rd, .bool rb]) ∧ Below w.heap.size w w' := by
  simp only [Prod.mk.injEq] at h
  have := sub_any a b c d ha hb hc hd w
  rw [h.1, h.2.1, h.2.2] at this; exact this
theorem mul_c (a b c d rn rd : Int) (rb : Bool) (ha : I64 a) (hb : I64 b) (hc : I64 c) (hd : I64 d) (h : (Num.opN (Num.rtB a b && Num.rtB c d) (a * c) (b * d), Num.opD (Num.rtB a b && Num.rtB c d) (a * c) (b * d), Num.opB (Num.rtB a b && Num.rtB c d) (a * c) (b * d)) = (rn, rd, rb)) (w : World) :
    Calls Tryz.prog 17 #[ratV a b, ratV c d] w fun e w' => e = .returned (.tuple #[ratV rn rd, .bool rb]) ∧ Below w.heap.size w w' := by
  simp only [Prod.mk.injEq] at h
  have := mul_any a b c d ha hb hc hd w
  rw [h.1, h.2.1, h.2.2] at this; exact this
theorem quo_c (a b c d rn rd : Int) (rb : Bool) (ha : I64 a) (hb : I64 b) (hc : I64 c) (hd : I64 d) (h : (Num.opN (Num.rtB a b && Num.rtB c d) (a * d) (b * c), Num.opD (Num.rtB a b && Num.rtB c d) (a * d) (b * c), Num.opB (Num.rtB a b && Num.rtB c d) (a * d) (b * c)) = (rn, rd, rb)) (w : World) :
    Calls Tryz.prog 18 #[ratV a b, ratV c d] w fun e w' => e = .returned (.tuple #[ratV rn rd, .bool rb]) ∧ Below w.heap.size w w' := by
  simp only [Prod.mk.injEq] at h
  have := quo_any a b c d ha hb hc hd w
  rw [h.1, h.2.1, h.2.2] at this; exact this
theorem floor_c (a b v : Int) (ha : I64 a) (hb : I64 b) (h : Num.flr a b = v) (w : World) :
    Calls Tryz.prog 21 #[ratV a b] w fun e w' => e = .returned (.int .i64 v) ∧ Below w.heap.size w w' := h ▸ floor_any a b ha hb w
theorem cmp_c (a b c d v : Int) (ha : I64 a) (hb : I64 b) (hc : I64 c) (hd : I64 d) (h : Num.cmpV a b c d = v) (w : World) :
    Calls Tryz.prog 22 #[ratV a b, ratV c d] w fun e w' => e = .returned (.int .i64 v) ∧ Below w.heap.size w w' := h ▸ cmp_any a b c d ha hb hc hd w

set_option maxHeartbeats 1000000 in
theorem is_yes (n d : Int) (w : World) :
    Calls Tryz.prog 19 #[ratV n d, .bool true, .int .i64 n, .int .i64 d] w fun e w' => e = .returned (.bool true) ∧ Below w.heap.size w w' := by
  go_enter Tryz.func19, Tryz.ntmps19
  go_wp2
  go_ret
  exact ⟨by simp, by (repeat' (first | (with_reducible exact Below.refl _ _) | (with_reducible assumption) | (with_reducible refine bdn ?_ _) | (with_reducible refine Below.drew ?_) | (with_reducible refine Below.alloc ?_ ?_ _) | (with_reducible refine Below.setCell ?_ ?_ _) | go_size))⟩
set_option maxHeartbeats 1000000 in
theorem none_yes (w : World) :
    Calls Tryz.prog 20 #[ratV 0 1, .bool false] w fun e w' => e = .returned (.bool true) ∧ Below w.heap.size w w' := by
  go_enter Tryz.func20, Tryz.ntmps20
  go_wp2
  go_ret
  exact ⟨by simp, by (repeat' (first | (with_reducible exact Below.refl _ _) | (with_reducible assumption) | (with_reducible refine bdn ?_ _) | (with_reducible refine Below.drew ?_) | (with_reducible refine Below.alloc ?_ ?_ _) | (with_reducible refine Below.setCell ?_ ?_ _) | go_size))⟩

theorem parse_half (w : World) (hT : Tab w) (hM : Max w) :
    Calls Tryz.prog 10 #[.string ⟨#[45, 49, 47, 50]⟩] w fun e w' => e = .returned (.tuple #[ratV (-1) 2, .bool true]) ∧ Below w.heap.size w w' := by
  have k : (Lib.cut [45, 49, 47, 50] [47]).1 = [45, 49] ∧ (Lib.cut [45, 49, 47, 50] [47]).2.1 = [50] ∧ (Lib.cut [45, 49, 47, 50] [47]).2.2 = true := by decide +kernel
  refine parse_raw ⟨#[45, 49, 47, 50]⟩ ⟨#[45, 49]⟩ ⟨#[50]⟩ ⟨(textL (-1) 2).toArray⟩ (-1) 2 true (by decide +kernel) w (fun w' hw => ?_) (fun w' => atoi_ok ⟨#[45, 49]⟩ (by decide +kernel) (-1) (by decide +kernel) w') (fun w' => atoi_ok ⟨#[50]⟩ (by decide +kernel) 2 (by decide +kernel) w') (fun w' hw => text_any (-1) 2 (i64_of (by omega) (by omega)) (i64_of (by omega) (by omega)) w' (hT.below hw))
  have := cut_any ⟨#[45, 49, 47, 50]⟩ (by decide +kernel) w' (hM.below hw)
  rw [show (⟨#[45, 49, 47, 50]⟩ : ByteArray).data.toList = [45, 49, 47, 50] from rfl, k.1, k.2.1, k.2.2] at this
  exact this
theorem parse_none (w : World) (hT : Tab w) (hM : Max w) :
    Calls Tryz.prog 10 #[.string ⟨#[50, 47, 52]⟩] w fun e w' => e = .returned (.tuple #[ratV 0 1, .bool false]) ∧ Below w.heap.size w w' := by
  have k : (Lib.cut [50, 47, 52] [47]).1 = [50] ∧ (Lib.cut [50, 47, 52] [47]).2.1 = [52] ∧ (Lib.cut [50, 47, 52] [47]).2.2 = true := by decide +kernel
  refine parse_raw ⟨#[50, 47, 52]⟩ ⟨#[50]⟩ ⟨#[52]⟩ ⟨(textL 2 4).toArray⟩ 2 4 false (by decide +kernel) w (fun w' hw => ?_) (fun w' => atoi_ok ⟨#[50]⟩ (by decide +kernel) 2 (by decide +kernel) w') (fun w' => atoi_ok ⟨#[52]⟩ (by decide +kernel) 4 (by decide +kernel) w') (fun w' hw => text_any 2 4 (i64_of (by omega) (by omega)) (i64_of (by omega) (by omega)) w' (hT.below hw))
  have := cut_any ⟨#[50, 47, 52]⟩ (by decide +kernel) w' (hM.below hw)
  rw [show (⟨#[50, 47, 52]⟩ : ByteArray).data.toList = [50, 47, 52] from rfl, k.1, k.2.1, k.2.2] at this
  exact this

set_option maxRecDepth 100000 in
set_option maxHeartbeats 4000000 in
theorem sanity_any (w : World) (hT : Tab w) (hM : Max w) :
    Calls Tryz.prog 6 #[] w fun e w' => e = .returned (.bool true) ∧ Below w.heap.size w w' := by
  have HT := Lib.hid hT; have HM := Lib.hid hM; clear hT hM
  go_enter Tryz.func6, Tryz.ntmps6
  have P1 := Lib.hid (Held.nil w)
  have B1 := Lib.hid (Below.refl w.heap.size w)
  go_wp2_with fail
  refine (make_c 6 (-4) (-3) 2 true (i64_of (by omega) (by omega)) (i64_of (by omega) (by omega)) (by decide +kernel) _).mono ?_; rintro e w1 ⟨rfl, hb⟩
  have Q1 := Lib.hid (P1.out.below hb)
  have D1 := Lib.hid (B1.out.trans (hb.mono B1.out.size))
  clear hb
  have P2 := Lib.hid (Held.alloc (Q1.out) (-3) 2 25)
  have B2 := Lib.hid (Below.alloc (D1.out) (Below.size (D1.out)) (.cells #[.int .i64 (-3), .int .i64 2] 25))
  go_wp2_with fail
  refine (make_c 1 0 0 1 false (i64_of (by omega) (by omega)) (i64_of (by omega) (by omega)) (by decide +kernel) _).mono ?_; rintro e w2 ⟨rfl, hb⟩
  have Q2 := Lib.hid (P2.out.below hb)
  have D2 := Lib.hid (B2.out.trans (hb.mono B2.out.size))
  clear hb
  have P3 := Lib.hid (Held.alloc (Q2.out) 0 1 25)
  have B3 := Lib.hid (Below.alloc (D2.out) (Below.size (D2.out)) (.cells #[.int .i64 0, .int .i64 1] 25))
  go_wp2_with fail
  refine (make_c (-9223372036854775808) (-1) 0 1 false (i64_of (by omega) (by omega)) (i64_of (by omega) (by omega)) (by decide +kernel) _).mono ?_; rintro e w3 ⟨rfl, hb⟩
  have Q3 := Lib.hid (P3.out.below hb)
  have D3 := Lib.hid (B3.out.trans (hb.mono B3.out.size))
  clear hb
  have P4 := Lib.hid (Held.alloc (Held.alloc (Held.alloc (Q3.out) 0 1 25) 1 2 25) 1 3 25)
  have B4 := Lib.hid (Below.alloc (Below.alloc (Below.alloc (D3.out) (Below.size (D3.out)) (.cells #[.int .i64 0, .int .i64 1] 25)) (Below.size (Below.alloc (D3.out) (Below.size (D3.out)) (.cells #[.int .i64 0, .int .i64 1] 25))) (.cells #[.int .i64 1, .int .i64 2] 25)) (Below.size (Below.alloc (Below.alloc (D3.out) (Below.size (D3.out)) (.cells #[.int .i64 0, .int .i64 1] 25)) (Below.size (Below.alloc (D3.out) (Below.size (D3.out)) (.cells #[.int .i64 0, .int .i64 1] 25))) (.cells #[.int .i64 1, .int .i64 2] 25))) (.cells #[.int .i64 1, .int .i64 3] 25))
  go_wp2_with fail
  refine (add_c 1 2 1 3 5 6 true (i64_of (by omega) (by omega)) (i64_of (by omega) (by omega)) (i64_of (by omega) (by omega)) (i64_of (by omega) (by omega)) (by decide +kernel) _).mono ?_; rintro e w4 ⟨rfl, hb⟩
  have Q4 := Lib.hid (P4.out.below hb)
  have D4 := Lib.hid (B4.out.trans (hb.mono B4.out.size))
  clear hb
  have P5 := Lib.hid (Held.alloc (Q4.out) 5 6 25)
  have B5 := Lib.hid (Below.alloc (D4.out) (Below.size (D4.out)) (.cells #[.int .i64 5, .int .i64 6] 25))
  go_wp2_with fail
  refine (of_any 9223372036854775807 _).mono ?_; rintro e w5 ⟨rfl, hb⟩
  have Q5 := Lib.hid (P5.out.below hb)
  have D5 := Lib.hid (B5.out.trans (hb.mono B5.out.size))
  clear hb
  have P6 := Lib.hid (Q5.out)
  have B6 := Lib.hid (D5.out)
  go_wp2_with fail
  refine (of_any 1 _).mono ?_; rintro e w6 ⟨rfl, hb⟩
  have Q6 := Lib.hid (P6.out.below hb)
  have D6 := Lib.hid (B6.out.trans (hb.mono B6.out.size))
  clear hb
  have P7 := Lib.hid (Q6.out)
  have B7 := Lib.hid (D6.out)
  go_wp2_with fail
  refine (add_c 9223372036854775807 1 1 1 0 1 false (i64_of (by omega) (by omega)) (i64_of (by omega) (by omega)) (i64_of (by omega) (by omega)) (i64_of (by omega) (by omega)) (by decide +kernel) _).mono ?_; rintro e w7 ⟨rfl, hb⟩
  have Q7 := Lib.hid (P7.out.below hb)
  have D7 := Lib.hid (B7.out.trans (hb.mono B7.out.size))
  clear hb
  have P8 := Lib.hid (Held.alloc (Q7.out) 0 1 25)
  have B8 := Lib.hid (Below.alloc (D7.out) (Below.size (D7.out)) (.cells #[.int .i64 0, .int .i64 1] 25))
  go_wp2_with fail
  refine (mul_c 9223372036854775807 2 2 9223372036854775807 1 1 true (i64_of (by omega) (by omega)) (i64_of (by omega) (by omega)) (i64_of (by omega) (by omega)) (i64_of (by omega) (by omega)) (by decide +kernel) _).mono ?_; rintro e w8 ⟨rfl, hb⟩
  have Q8 := Lib.hid (P8.out.below hb)
  have D8 := Lib.hid (B8.out.trans (hb.mono B8.out.size))
  clear hb
  have P9 := Lib.hid (Held.alloc (Q8.out) 1 1 25)
  have B9 := Lib.hid (Below.alloc (D8.out) (Below.size (D8.out)) (.cells #[.int .i64 1, .int .i64 1] 25))
  go_wp2_with fail
  refine (of_any 1 _).mono ?_; rintro e w9 ⟨rfl, hb⟩
  have Q9 := Lib.hid (P9.out.below hb)
  have D9 := Lib.hid (B9.out.trans (hb.mono B9.out.size))
  clear hb
  have P10 := Lib.hid (Q9.out)
  have B10 := Lib.hid (D9.out)
  go_wp2_with fail
  refine (of_any (-9223372036854775808) _).mono ?_; rintro e w10 ⟨rfl, hb⟩
  have Q10 := Lib.hid (P10.out.below hb)
  have D10 := Lib.hid (B10.out.trans (hb.mono B10.out.size))
  clear hb
  have P11 := Lib.hid (Q10.out)
  have B11 := Lib.hid (D10.out)
  go_wp2_with fail
  refine (quo_c 1 1 (-9223372036854775808) 1 0 1 false (i64_of (by omega) (by omega)) (i64_of (by omega) (by omega)) (i64_of (by omega) (by omega)) (i64_of (by omega) (by omega)) (by decide +kernel) _).mono ?_; rintro e w11 ⟨rfl, hb⟩
  have Q11 := Lib.hid (P11.out.below hb)
  have D11 := Lib.hid (B11.out.trans (hb.mono B11.out.size))
  clear hb
  have P12 := Lib.hid (Held.alloc (Q11.out) 0 1 25)
  have B12 := Lib.hid (Below.alloc (D11.out) (Below.size (D11.out)) (.cells #[.int .i64 0, .int .i64 1] 25))
  go_wp2_with fail
  refine (parse_half _ (HT.out.below B12.out) (HM.out.below B12.out)).mono ?_; rintro e w12 ⟨rfl, hb⟩
  have Q12 := Lib.hid (P12.out.below hb)
  have D12 := Lib.hid (B12.out.trans (hb.mono B12.out.size))
  clear hb
  have P13 := Lib.hid (Held.alloc (Q12.out) (-1) 2 25)
  have B13 := Lib.hid (Below.alloc (D12.out) (Below.size (D12.out)) (.cells #[.int .i64 (-1), .int .i64 2] 25))
  go_wp2_with fail
  refine (parse_none _ (HT.out.below B13.out) (HM.out.below B13.out)).mono ?_; rintro e w13 ⟨rfl, hb⟩
  have Q13 := Lib.hid (P13.out.below hb)
  have D13 := Lib.hid (B13.out.trans (hb.mono B13.out.size))
  clear hb
  obtain ⟨x0, x1, x2⟩ := Q13.out.get (n := w1.heap.size) (a := -3) (b := 2) (by simp)
  have P14 := Lib.hid (Held.alloc (Q13.out) 0 1 25)
  have B14 := Lib.hid (Below.alloc (D13.out) (Below.size (D13.out)) (.cells #[.int .i64 0, .int .i64 1] 25))
  go_wp2_with fail
  refine (is_yes (-3) 2 _).mono ?_; rintro e w14 ⟨rfl, hb⟩
  have Q14 := Lib.hid (P14.out.below hb)
  have D14 := Lib.hid (B14.out.trans (hb.mono B14.out.size))
  clear hb x0 x1 x2
  obtain ⟨x0, x1, x2⟩ := Q14.out.get (n := w2.heap.size) (a := 0) (b := 1) (by simp)
  have P15 := Lib.hid (Q14.out)
  have B15 := Lib.hid (D14.out)
  go_wp2_with fail
  refine (none_yes _).mono ?_; rintro e w15 ⟨rfl, hb⟩
  have Q15 := Lib.hid (P15.out.below hb)
  have D15 := Lib.hid (B15.out.trans (hb.mono B15.out.size))
  clear hb x0 x1 x2
  obtain ⟨x0, x1, x2⟩ := Q15.out.get (n := w3.heap.size) (a := 0) (b := 1) (by simp)
  have P16 := Lib.hid (Q15.out)
  have B16 := Lib.hid (D15.out)
  go_wp2_with fail
  refine (none_yes _).mono ?_; rintro e w16 ⟨rfl, hb⟩
  have Q16 := Lib.hid (P16.out.below hb)
  have D16 := Lib.hid (B16.out.trans (hb.mono B16.out.size))
  clear hb x0 x1 x2
  obtain ⟨x0, x1, x2⟩ := Q16.out.get (n := w4.heap.size) (a := 5) (b := 6) (by simp)
  have P17 := Lib.hid (Q16.out)
  have B17 := Lib.hid (D16.out)
  go_wp2_with fail
  refine (is_yes 5 6 _).mono ?_; rintro e w17 ⟨rfl, hb⟩
  have Q17 := Lib.hid (P17.out.below hb)
  have D17 := Lib.hid (B17.out.trans (hb.mono B17.out.size))
  clear hb x0 x1 x2
  obtain ⟨x0, x1, x2⟩ := Q17.out.get (n := w7.heap.size) (a := 0) (b := 1) (by simp)
  have P18 := Lib.hid (Q17.out)
  have B18 := Lib.hid (D17.out)
  go_wp2_with fail
  refine (none_yes _).mono ?_; rintro e w18 ⟨rfl, hb⟩
  have Q18 := Lib.hid (P18.out.below hb)
  have D18 := Lib.hid (B18.out.trans (hb.mono B18.out.size))
  clear hb x0 x1 x2
  obtain ⟨x0, x1, x2⟩ := Q18.out.get (n := w8.heap.size) (a := 1) (b := 1) (by simp)
  have P19 := Lib.hid (Q18.out)
  have B19 := Lib.hid (D18.out)
  go_wp2_with fail
  refine (is_yes 1 1 _).mono ?_; rintro e w19 ⟨rfl, hb⟩
  have Q19 := Lib.hid (P19.out.below hb)
  have D19 := Lib.hid (B19.out.trans (hb.mono B19.out.size))
  clear hb x0 x1 x2
  obtain ⟨x0, x1, x2⟩ := Q19.out.get (n := w11.heap.size) (a := 0) (b := 1) (by simp)
  have P20 := Lib.hid (Q19.out)
  have B20 := Lib.hid (D19.out)
  go_wp2_with fail
  refine (none_yes _).mono ?_; rintro e w20 ⟨rfl, hb⟩
  have Q20 := Lib.hid (P20.out.below hb)
  have D20 := Lib.hid (B20.out.trans (hb.mono B20.out.size))
  clear hb x0 x1 x2
  have P21 := Lib.hid (Q20.out)
  have B21 := Lib.hid (D20.out)
  go_wp2_with fail
  refine (floor_c (-7) 2 (-4) (i64_of (by omega) (by omega)) (i64_of (by omega) (by omega)) (by decide +kernel) _).mono ?_; rintro e w21 ⟨rfl, hb⟩
  have Q21 := Lib.hid (P21.out.below hb)
  have D21 := Lib.hid (B21.out.trans (hb.mono B21.out.size))
  clear hb
  obtain ⟨x0, x1, x2⟩ := Q21.out.get (n := w3.heap.size + 1 + 1) (a := 1) (b := 3) (by simp)
  have P22 := Lib.hid (Q21.out)
  have B22 := Lib.hid (D21.out)
  go_wp2_with fail
  refine (cmp_c 1 3 333333333 1000000000 1 (i64_of (by omega) (by omega)) (i64_of (by omega) (by omega)) (i64_of (by omega) (by omega)) (i64_of (by omega) (by omega)) (by decide +kernel) _).mono ?_; rintro e w22 ⟨rfl, hb⟩
  have Q22 := Lib.hid (P22.out.below hb)
  have D22 := Lib.hid (B22.out.trans (hb.mono B22.out.size))
  clear hb x0 x1 x2
  obtain ⟨x0, x1, x2⟩ := Q22.out.get (n := w12.heap.size) (a := -1) (b := 2) (by simp)
  have P23 := Lib.hid (Q22.out)
  have B23 := Lib.hid (D22.out)
  go_wp2_with fail
  refine (is_yes (-1) 2 _).mono ?_; rintro e w23 ⟨rfl, hb⟩
  have Q23 := Lib.hid (P23.out.below hb)
  have D23 := Lib.hid (B23.out.trans (hb.mono B23.out.size))
  clear hb x0 x1 x2
  obtain ⟨x0, x1, x2⟩ := Q23.out.get (n := w13.heap.size) (a := 0) (b := 1) (by simp)
  have P24 := Lib.hid (Q23.out)
  have B24 := Lib.hid (D23.out)
  go_wp2_with fail
  refine (none_yes _).mono ?_; rintro e w24 ⟨rfl, hb⟩
  have Q24 := Lib.hid (P24.out.below hb)
  have D24 := Lib.hid (B24.out.trans (hb.mono B24.out.size))
  clear hb x0 x1 x2
  go_wp2
  go_ret
  exact ⟨rfl, D24.out⟩
end Go.Proofs.YtnccllelmbcdcaaGreatDoor
