import Derived.Test.YtnccllelmbcdcaaGreatDoorRy
import Derived.Test.YtnccllelmbcdcaaGreatDoorWp
import Derived.Test.YtnccllelmbcdcaaGreatDoorT
import Derived.Laws.IdiomStrings
import Derived.Test.YtnccllelmbcdcaaGreatDoorSan
import Derived.Test.YtnccllelmbcdcaaGreatDoorProg
import Derived.Test.YtnccllelmbcdcaaGreatDoorMn
import Derived.Lib.RabinKarpLaws
import Derived.WalkKit
import Derived.Laws.Externs
import Derived.WalkSpells
import Derived.WalkLawsBesides
import Derived.BigQuiet
import Derived.Deep.QuietTactic
import Derived.Lib.Hide
import Derived.Handy
import Derived.Deep.RegionHeld3
import Derived.RowKit3
import Derived.Shelf.Strconv.AtoiAll
import Derived.Lib.IndexBytes
import Derived.Lib.CutLaws
import Derived.Test.YtnccllelmbcdcaaGreatDoorRo
/- The reference of layer 1: both, tiny, Floor. Condition: the arguments are ints. -/
namespace Go.Proofs.YtnccllelmbcdcaaGreatDoor
open Go.RowKit

theorem refRight_c (n d : Int) (r : Bool) (hn : I64 n) (hd : I64 d) (h : Num.rtB n d = r) (w : World) :
    Calls Tryz.prog 32 #[ratV n d] w fun e w' => e = .returned (.bool r) ∧ Below w.heap.size w w' := by
  rw [← h]; exact refRight_any n d hn.1 hn.2 hd.2 w

set_option maxHeartbeats 1600000 in
theorem both_c (a b c d : Int) (p q : Bool) (ha : I64 a) (hb : I64 b) (hc : I64 c) (hd : I64 d) (h1 : Num.rtB a b = p) (h2 : Num.rtB c d = q) (w : World) :
    Calls Tryz.prog 54 #[ratV a b, ratV c d] w fun e w' => e = .returned (.bool (p && q)) ∧ Below w.heap.size w w' := by
  have H := Lib.hid (And.intro ha (And.intro hb (And.intro hc hd))); have G1 := Lib.hid h1; have G2 := Lib.hid h2
  clear ha hb hc hd h1 h2
  go_enter Tryz.func54, Tryz.ntmps54
  go_wp2_with fail
  refine (refRight_c a b p H.out.1 H.out.2.1 G1.out _).mono ?_; rintro e w1 ⟨rfl, hb⟩
  have x0 := bk hb (w.heap.size + 1) 0 (v := .int .i64 c) (by simp [go_sem]) (by simp)
  have x1 := bk hb (w.heap.size + 1) 1 (v := .int .i64 d) (by simp [go_sem]) (by simp)
  have K1 : Hid (Below w.heap.size w w1) := Lib.hid (Below.trans (by (repeat' (first | (with_reducible exact Below.refl _ _) | (with_reducible assumption) | (with_reducible refine bdn ?_ _) | (with_reducible refine Below.drew ?_) | (with_reducible refine Below.alloc ?_ ?_ _) | (with_reducible refine Below.setCell ?_ ?_ _) | go_size))) (hb.mono (B' := w.heap.size) (by simp; omega)))
  clear hb
  go_wp2_with fail
  refine (refRight_c c d q H.out.2.2.1 H.out.2.2.2 G2.out _).mono ?_; rintro e w2 ⟨rfl, hb⟩
  have K2 := Lib.hid (K1.out.trans (hb.mono K1.out.size))
  clear hb x0 x1
  cases p <;> cases q
  all_goals
    go_wp2
    go_ret
    exact ⟨rfl, K2.out⟩

def tinyB (a b c d : Int) : Bool := smB a && smB b && smB c && smB d
set_option maxHeartbeats 1600000 in
theorem tiny_c (a b c d : Int) (t : Bool) (ht : tinyB a b c d = t) (w : World) :
    Calls Tryz.prog 55 #[ratV a b, ratV c d] w fun e w' => e = .returned (.bool t) ∧ Below w.heap.size w w' := by
  obtain ⟨p, h1⟩ : ∃ p, smB a = p := ⟨_, rfl⟩
  obtain ⟨q, h2⟩ : ∃ p, smB b = p := ⟨_, rfl⟩
  obtain ⟨r, h3⟩ : ∃ p, smB c = p := ⟨_, rfl⟩
  obtain ⟨s, h4⟩ : ∃ p, smB d = p := ⟨_, rfl⟩
  unfold tinyB at ht
  rw [h1, h2, h3, h4] at ht
  have G1 := Lib.hid h1; have G2 := Lib.hid h2; have G3 := Lib.hid h3; have G4 := Lib.hid h4; have HT := Lib.hid ht
  clear h1 h2 h3 h4 ht
  go_enter Tryz.func55, Tryz.ntmps55
  go_wp2_with fail
  refine (small_c a p G1.out _).mono ?_; rintro e w1 ⟨rfl, rfl⟩
  cases p
  · go_wp2
    go_ret
    exact ⟨by rw [← HT.out]; rfl, by (repeat' (first | (with_reducible exact Below.refl _ _) | (with_reducible assumption) | (with_reducible refine bdn ?_ _) | (with_reducible refine Below.drew ?_) | (with_reducible refine Below.alloc ?_ ?_ _) | (with_reducible refine Below.setCell ?_ ?_ _) | go_size))⟩
  · go_wp2_with fail
    refine (small_c b q G2.out _).mono ?_; rintro e w1 ⟨rfl, rfl⟩
    cases q
    · go_wp2
      go_ret
      exact ⟨by rw [← HT.out]; rfl, by (repeat' (first | (with_reducible exact Below.refl _ _) | (with_reducible assumption) | (with_reducible refine bdn ?_ _) | (with_reducible refine Below.drew ?_) | (with_reducible refine Below.alloc ?_ ?_ _) | (with_reducible refine Below.setCell ?_ ?_ _) | go_size))⟩
    · go_wp2_with fail
      refine (small_c c r G3.out _).mono ?_; rintro e w1 ⟨rfl, rfl⟩
      cases r
      · go_wp2
        go_ret
        exact ⟨by rw [← HT.out]; rfl, by (repeat' (first | (with_reducible exact Below.refl _ _) | (with_reducible assumption) | (with_reducible refine bdn ?_ _) | (with_reducible refine Below.drew ?_) | (with_reducible refine Below.alloc ?_ ?_ _) | (with_reducible refine Below.setCell ?_ ?_ _) | go_size))⟩
      · go_wp2_with fail
        refine (small_c d s G4.out _).mono ?_; rintro e w1 ⟨rfl, rfl⟩
        cases s
        all_goals
          go_wp2
          go_ret
          exact ⟨by rw [← HT.out]; rfl, by (repeat' (first | (with_reducible exact Below.refl _ _) | (with_reducible assumption) | (with_reducible refine bdn ?_ _) | (with_reducible refine Below.drew ?_) | (with_reducible refine Below.alloc ?_ ?_ _) | (with_reducible refine Below.setCell ?_ ?_ _) | go_size))⟩

set_option maxHeartbeats 1600000 in
theorem refFloor_c (a b f : Int) (ha : I64 a) (hb : I64 b) (h : Num.flr a b = f) (w : World) :
    Calls Tryz.prog 33 #[ratV a b] w fun e w' => e = .returned (.int .i64 f) ∧ Below w.heap.size w w' := by
  obtain ⟨r, hr⟩ : ∃ r, Num.rtB a b = r := ⟨_, rfl⟩
  have H := Lib.hid (And.intro ha hb); have G := Lib.hid hr; have HF := Lib.hid h; clear ha hb h
  cases r
  · clear hr
    have e0 : f = 0 := by rw [← HF.out]; unfold Num.flr; rw [G.out]; rfl
    have E0 := Lib.hid e0; clear e0
    go_enter Tryz.func33, Tryz.ntmps33
    go_wp2_with fail
    refine (refRight_c a b false H.out.1 H.out.2 G.out _).mono ?_; rintro e w1 ⟨rfl, hb⟩
    have K1 : Hid (Below w.heap.size w w1) := Lib.hid (Below.trans (by (repeat' (first | (with_reducible exact Below.refl _ _) | (with_reducible assumption) | (with_reducible refine bdn ?_ _) | (with_reducible refine Below.drew ?_) | (with_reducible refine Below.alloc ?_ ?_ _) | (with_reducible refine Below.setCell ?_ ?_ _) | go_size))) (hb.mono (B' := w.heap.size) (by simp)))
    clear hb
    go_wp2
    go_ret
    exact ⟨by rw [E0.out]; rfl, K1.out⟩
  · have FA := Num.flr_all hr H.out.1.1 H.out.1.2 H.out.2.2
    rw [HF.out] at FA
    have FB := Lib.hid (And.intro FA.2.2.2.2.1 FA.2.2.2.2.2); clear FA
    have pb := Num.rt_pos hr
    have FP := Num.flr_pos (a := a) pb
    have fe : a / b = f := by rw [← HF.out]; unfold Num.flr; rw [hr]; rfl
    rw [fe] at FP
    have FP := Lib.hid FP; have FE := Lib.hid fe
    clear hr fe
    obtain ⟨q, hq⟩ : ∃ q, a.tdiv b = q := ⟨_, rfl⟩
    obtain ⟨m, hm⟩ : ∃ m, a.tmod b = m := ⟨_, rfl⟩
    have FP2 := FP.out; rw [hq, hm] at FP2
    have ml := (tmod_tmod a b (by omega)).2; rw [hm] at ml
    have pb2 := H.out.2.2
    have z1 : IntKind.i64.wrap m = m := by rw [IntKind.wrap_i64]; omega
    have qb : -9223372036854775808 ≤ q ∧ q ≤ 9223372036854775807 := by
      have e := Int.mul_tdiv_add_tmod a b
      rw [hq, hm] at e
      have ab := H.out.1
      have hab : q.natAbs ≤ a.natAbs := by rw [← hq, Int.natAbs_tdiv]; exact Nat.div_le_self _ _
      obtain ⟨a1, a2⟩ := ab
      by_cases hx : q = 9223372036854775808
      · rw [hx] at e; omega
      · omega
    have z2 : wrap64 q = q := by unfold wrap64; omega
    have Z2 := Lib.hid z2
    have z0 : ¬ b = 0 := by omega
    have FP2 := Lib.hid FP2; have QB := Lib.hid qb; have ML := Lib.hid ml; have PB := Lib.hid (And.intro pb pb2); clear qb ml pb pb2
    go_enter Tryz.func33, Tryz.ntmps33
    go_wp2_with fail
    refine (refRight_c a b true H.out.1 H.out.2 G.out _).mono ?_; rintro e w1 ⟨rfl, hb⟩
    have x0 := bk hb w.heap.size 0 (v := .int .i64 a) (by simp [go_sem]) (by simp)
    have x1 := bk hb w.heap.size 1 (v := .int .i64 b) (by simp [go_sem]) (by simp)
    have K1 : Hid (Below w.heap.size w w1) := Lib.hid (Below.trans (by (repeat' (first | (with_reducible exact Below.refl _ _) | (with_reducible assumption) | (with_reducible refine bdn ?_ _) | (with_reducible refine Below.drew ?_) | (with_reducible refine Below.alloc ?_ ?_ _) | (with_reducible refine Below.setCell ?_ ?_ _) | go_size))) (hb.mono (B' := w.heap.size) (by simp)))
    clear hb
    by_cases h : m < 0
    · have e1 := FP2.out.1 h
      have z3 : wrap64 (q - 1) = f := by rw [e1]; unfold wrap64; have := FB.out; omega
      have z4 : wrap64 f = f := by unfold wrap64; have := FB.out; omega
      have E1 := Lib.hid e1; clear e1
      go_wp2
      go_ret
      exact ⟨by first | rfl | (rw [E1.out]; rfl) | (simp [*]; done), K1.out⟩
    · have e1 := FP2.out.2 (by omega)
      have E1 := Lib.hid e1; clear e1
      go_wp2
      go_ret
      exact ⟨by first | rfl | exact ret_int (Z2.out.trans E1.out) | exact ret_int (by have := FB.out; have := E1.out; unfold wrap64; omega), K1.out⟩
end Go.Proofs.YtnccllelmbcdcaaGreatDoor

/- The reference of layer 1: decimal. Condition: the argument is an int. -/
namespace Go.Proofs.YtnccllelmbcdcaaGreatDoor
open Go.RowKit

/-- These bytes as a string's value. -/
def strV (l : List UInt8) : ByteArray := ⟨l.toArray⟩
theorem strV_size (l : List UInt8) : (strV l).size = l.length := by simp [strV, ByteArray.size]
theorem strV_append (a b : List UInt8) : strV a ++ strV b = strV (a ++ b) := by
  apply ByteArray.ext
  simp [strV]
theorem itoa_neg {n : Int} (h : n < 0) : Lib.itoa n = 45 :: Lib.decDigits n.natAbs := by unfold Lib.itoa; rw [if_pos h]
theorem itoa_pos {n : Int} (h : ¬ n < 0) : Lib.itoa n = Lib.decDigits n.toNat := by unfold Lib.itoa; rw [if_neg h]
theorem dec_step {u : Nat} (h : ¬ u < 10) : Lib.decDigits u = Lib.decDigits (u / 10) ++ Lib.decDigits (u % 10) := by
  rw [Lib.decDigits, dif_neg h, Lib.decDigits_one (Nat.mod_lt _ (by decide))]
theorem td_neg {n : Int} (h : n < 0) : n.tdiv 10 = -((-n) / 10) ∧ n.tmod 10 = -((-n) % 10) := by
  have e : n = -(-n) := by omega
  constructor
  · conv => lhs; rw [e]
    rw [Int.neg_tdiv, Int.tdiv_eq_ediv_of_nonneg (by omega)]
  · conv => lhs; rw [e]
    rw [Int.neg_tmod, Int.tmod_eq_emod_of_nonneg (by omega)]
theorem td_pos {n : Int} (h : 0 ≤ n) : n.tdiv 10 = n / 10 ∧ n.tmod 10 = n % 10 := ⟨Int.tdiv_eq_ediv_of_nonneg h, Int.tmod_eq_emod_of_nonneg h⟩
theorem itoa_small_neg {n : Int} (h1 : n < 0) : Lib.itoa n = [45] ++ Lib.itoa (-n) := by
  rw [itoa_neg h1, itoa_pos (by omega), show (-n).toNat = n.natAbs by omega]; rfl
theorem itoa_big_neg {n : Int} (h1 : n ≤ -10) : Lib.itoa n = Lib.itoa (n.tdiv 10) ++ Lib.itoa (-(n.tmod 10)) := by
  have e1 : n.tdiv 10 = -((n.natAbs / 10 : Nat) : Int) := by rw [(td_neg (by omega)).1]; omega
  have e2 : -(n.tmod 10) = ((n.natAbs % 10 : Nat) : Int) := by rw [(td_neg (by omega)).2]; omega
  rw [e1, e2, itoa_neg (by omega), itoa_neg (by omega), itoa_pos (by omega), dec_step (by omega)]
  have e3 : (-((n.natAbs / 10 : Nat) : Int)).natAbs = n.natAbs / 10 := by omega
  rw [e3, Int.toNat_natCast]; rfl
theorem itoa_big_pos {n : Int} (h1 : 10 ≤ n) : Lib.itoa n = Lib.itoa (n.tdiv 10) ++ Lib.itoa (n.tmod 10) := by
  have e1 : n.tdiv 10 = ((n.toNat / 10 : Nat) : Int) := by rw [(td_pos (by omega)).1]; omega
  have e2 : n.tmod 10 = ((n.toNat % 10 : Nat) : Int) := by rw [(td_pos (by omega)).2]; omega
  rw [e1, e2, itoa_pos (by omega), itoa_pos (by omega), itoa_pos (by omega), dec_step (by omega), Int.toNat_natCast, Int.toNat_natCast]
theorem itoa_size (n : Int) (h : I64 n) : (strV (Lib.itoa n)).size ≤ 21 := by rw [strV_size]; exact Lib.itoa_length_le n h.1 h.2

set_option maxHeartbeats 4000000 in
set_option maxRecDepth 1000000 in
theorem decimal_digit (n : Int) (h0 : 0 ≤ n) (h1 : n < 10) (w : World) :
    Calls Tryz.prog 61 #[.int .i64 n] w fun e w' => e = .returned (.string (strV (Lib.itoa n))) ∧ Below w.heap.size w w' := by
  have hn : n = 0 ∨ n = 1 ∨ n = 2 ∨ n = 3 ∨ n = 4 ∨ n = 5 ∨ n = 6 ∨ n = 7 ∨ n = 8 ∨ n = 9 := by omega
  have kc : ∀ b : UInt8, (convert 35 9 (.slice (some ⟨w.heap.size, 0, none⟩) 1 1)).run Tryz.prog (w.alloc (.cells #[.int .u8 (b.toNat : Int)] 5)) = .ok (.string ⟨[b].toArray⟩) (w.alloc (.cells #[.int .u8 (b.toNat : Int)] 5)) := fun b =>
    run_convert_bytes_back _ _ _ _ ⟨w.heap.size, 0, none⟩ 1 [b] Tryz.underlying35 Tryz.underlying5 Tryz.underlying9 (fun j hj => by
      have : j = 0 := by simp at hj; omega
      subst this; simp [Addr.add, go_sem])
  rcases hn with rfl | rfl | rfl | rfl | rfl | rfl | rfl | rfl | rfl | rfl
  · have kc := kc 48
    have kc : (convert 35 9 (.slice (some ⟨w.heap.size, 0, none⟩) 1 1)).run Tryz.prog (w.alloc (.cells #[.int .u8 48] 5)) = .ok (.string ⟨#[48]⟩) (w.alloc (.cells #[.int .u8 48] 5)) := kc
    go_enter Tryz.func61, Tryz.ntmps61
    go_wp2
    go_ret
    exact ⟨by rw [show strV (Lib.itoa 0) = ⟨#[48]⟩ from by decide +kernel]; rfl, by (repeat' (first | (with_reducible exact Below.refl _ _) | (with_reducible assumption) | (with_reducible refine bdn ?_ _) | (with_reducible refine Below.drew ?_) | (with_reducible refine Below.alloc ?_ ?_ _) | (with_reducible refine Below.setCell ?_ ?_ _) | go_size))⟩
  · have kc := kc 49
    have kc : (convert 35 9 (.slice (some ⟨w.heap.size, 0, none⟩) 1 1)).run Tryz.prog (w.alloc (.cells #[.int .u8 49] 5)) = .ok (.string ⟨#[49]⟩) (w.alloc (.cells #[.int .u8 49] 5)) := kc
    go_enter Tryz.func61, Tryz.ntmps61
    go_wp2
    go_ret
    exact ⟨by rw [show strV (Lib.itoa 1) = ⟨#[49]⟩ from by decide +kernel]; rfl, by (repeat' (first | (with_reducible exact Below.refl _ _) | (with_reducible assumption) | (with_reducible refine bdn ?_ _) | (with_reducible refine Below.drew ?_) | (with_reducible refine Below.alloc ?_ ?_ _) | (with_reducible refine Below.setCell ?_ ?_ _) | go_size))⟩
  · have kc := kc 50
    have kc : (convert 35 9 (.slice (some ⟨w.heap.size, 0, none⟩) 1 1)).run Tryz.prog (w.alloc (.cells #[.int .u8 50] 5)) = .ok (.string ⟨#[50]⟩) (w.alloc (.cells #[.int .u8 50] 5)) := kc
    go_enter Tryz.func61, Tryz.ntmps61
    go_wp2
    go_ret
    exact ⟨by rw [show strV (Lib.itoa 2) = ⟨#[50]⟩ from by decide +kernel]; rfl, by (repeat' (first | (with_reducible exact Below.refl _ _) | (with_reducible assumption) | (with_reducible refine bdn ?_ _) | (with_reducible refine Below.drew ?_) | (with_reducible refine Below.alloc ?_ ?_ _) | (with_reducible refine Below.setCell ?_ ?_ _) | go_size))⟩
  · have kc := kc 51
    have kc : (convert 35 9 (.slice (some ⟨w.heap.size, 0, none⟩) 1 1)).run Tryz.prog (w.alloc (.cells #[.int .u8 51] 5)) = .ok (.string ⟨#[51]⟩) (w.alloc (.cells #[.int .u8 51] 5)) := kc
    go_enter Tryz.func61, Tryz.ntmps61
    go_wp2
    go_ret
    exact ⟨by rw [show strV (Lib.itoa 3) = ⟨#[51]⟩ from by decide +kernel]; rfl, by (repeat' (first | (with_reducible exact Below.refl _ _) | (with_reducible assumption) | (with_reducible refine bdn ?_ _) | (with_reducible refine Below.drew ?_) | (with_reducible refine Below.alloc ?_ ?_ _) | (with_reducible refine Below.setCell ?_ ?_ _) | go_size))⟩
  · have kc := kc 52
    have kc : (convert 35 9 (.slice (some ⟨w.heap.size, 0, none⟩) 1 1)).run Tryz.prog (w.alloc (.cells #[.int .u8 52] 5)) = .ok (.string ⟨#[52]⟩) (w.alloc (.cells #[.int .u8 52] 5)) := kc
    go_enter Tryz.func61, Tryz.ntmps61
    go_wp2
    go_ret
    exact ⟨by rw [show strV (Lib.itoa 4) = ⟨#[52]⟩ from by decide +kernel]; rfl, by (repeat' (first | (with_reducible exact Below.refl _ _) | (with_reducible assumption) | (with_reducible refine bdn ?_ _) | (with_reducible refine Below.drew ?_) | (with_reducible refine Below.alloc ?_ ?_ _) | (with_reducible refine Below.setCell ?_ ?_ _) | go_size))⟩
  · have kc := kc 53
    have kc : (convert 35 9 (.slice (some ⟨w.heap.size, 0, none⟩) 1 1)).run Tryz.prog (w.alloc (.cells #[.int .u8 53] 5)) = .ok (.string ⟨#[53]⟩) (w.alloc (.cells #[.int .u8 53] 5)) := kc
    go_enter Tryz.func61, Tryz.ntmps61
    go_wp2
    go_ret
    exact ⟨by rw [show strV (Lib.itoa 5) = ⟨#[53]⟩ from by decide +kernel]; rfl, by (repeat' (first | (with_reducible exact Below.refl _ _) | (with_reducible assumption) | (with_reducible refine bdn ?_ _) | (with_reducible refine Below.drew ?_) | (with_reducible refine Below.alloc ?_ ?_ _) | (with_reducible refine Below.setCell ?_ ?_ _) | go_size))⟩
  · have kc := kc 54
    have kc : (convert 35 9 (.slice (some ⟨w.heap.size, 0, none⟩) 1 1)).run Tryz.prog (w.alloc (.cells #[.int .u8 54] 5)) = .ok (.string ⟨#[54]⟩) (w.alloc (.cells #[.int .u8 54] 5)) := kc
    go_enter Tryz.func61, Tryz.ntmps61
    go_wp2
    go_ret
    exact ⟨by rw [show strV (Lib.itoa 6) = ⟨#[54]⟩ from by decide +kernel]; rfl, by (repeat' (first | (with_reducible exact Below.refl _ _) | (with_reducible assumption) | (with_reducible refine bdn ?_ _) | (with_reducible refine Below.drew ?_) | (with_reducible refine Below.alloc ?_ ?_ _) | (with_reducible refine Below.setCell ?_ ?_ _) | go_size))⟩
  · have kc := kc 55
    have kc : (convert 35 9 (.slice (some ⟨w.heap.size, 0, none⟩) 1 1)).run Tryz.prog (w.alloc (.cells #[.int .u8 55] 5)) = .ok (.string ⟨#[55]⟩) (w.alloc (.cells #[.int .u8 55] 5)) := kc
    go_enter Tryz.func61, Tryz.ntmps61
    go_wp2
    go_ret
    exact ⟨by rw [show strV (Lib.itoa 7) = ⟨#[55]⟩ from by decide +kernel]; rfl, by (repeat' (first | (with_reducible exact Below.refl _ _) | (with_reducible assumption) | (with_reducible refine bdn ?_ _) | (with_reducible refine Below.drew ?_) | (with_reducible refine Below.alloc ?_ ?_ _) | (with_reducible refine Below.setCell ?_ ?_ _) | go_size))⟩
  · have kc := kc 56
    have kc : (convert 35 9 (.slice (some ⟨w.heap.size, 0, none⟩) 1 1)).run Tryz.prog (w.alloc (.cells #[.int .u8 56] 5)) = .ok (.string ⟨#[56]⟩) (w.alloc (.cells #[.int .u8 56] 5)) := kc
    go_enter Tryz.func61, Tryz.ntmps61
    go_wp2
    go_ret
    exact ⟨by rw [show strV (Lib.itoa 8) = ⟨#[56]⟩ from by decide +kernel]; rfl, by (repeat' (first | (with_reducible exact Below.refl _ _) | (with_reducible assumption) | (with_reducible refine bdn ?_ _) | (with_reducible refine Below.drew ?_) | (with_reducible refine Below.alloc ?_ ?_ _) | (with_reducible refine Below.setCell ?_ ?_ _) | go_size))⟩
  · have kc := kc 57
    have kc : (convert 35 9 (.slice (some ⟨w.heap.size, 0, none⟩) 1 1)).run Tryz.prog (w.alloc (.cells #[.int .u8 57] 5)) = .ok (.string ⟨#[57]⟩) (w.alloc (.cells #[.int .u8 57] 5)) := kc
    go_enter Tryz.func61, Tryz.ntmps61
    go_wp2
    go_ret
    exact ⟨by rw [show strV (Lib.itoa 9) = ⟨#[57]⟩ from by decide +kernel]; rfl, by (repeat' (first | (with_reducible exact Below.refl _ _) | (with_reducible assumption) | (with_reducible refine bdn ?_ _) | (with_reducible refine Below.drew ?_) | (with_reducible refine Below.alloc ?_ ?_ _) | (with_reducible refine Below.setCell ?_ ?_ _) | go_size))⟩

set_option maxHeartbeats 8000000 in
theorem decimal_any (k : Nat) : ∀ (n : Int) (w : World), n.natAbs ≤ k → I64 n →
    Calls Tryz.prog 61 #[.int .i64 n] w fun e w' => e = .returned (.string (strV (Lib.itoa n))) ∧ Below w.heap.size w w' := by
  induction k with
  | zero =>
    intro n w hk hi
    exact decimal_digit n (by omega) (by omega) w
  | succ k ih =>
    intro n w hk hi
    by_cases h0 : n < 0
    · by_cases h1 : -10 < n
      · have E := Lib.hid (itoa_small_neg h0)
        have k1 : ∀ w, (Op.stringOp .add ⟨#[45]⟩ (strV (Lib.itoa (-n)))).run Tryz.prog w = .ok (.string (⟨#[45]⟩ ++ strV (Lib.itoa (-n)))) w := fun w => run_string_add_sum w _ _ (by have := itoa_size (-n) ⟨by omega, by omega⟩; have : (⟨#[45]⟩ : ByteArray).size = 1 := rfl; omega)
        have z1 : IntKind.i64.wrap (-n) = -n := by rw [IntKind.wrap_i64]; omega
        have C := Lib.hid (fun w => decimal_digit (-n) (by omega) (by omega) w)
        clear hi hk
        go_enter Tryz.func61, Tryz.ntmps61
        go_wp2_with fail
        refine (C.out _).mono ?_; rintro e w1 ⟨rfl, hb⟩
        go_wp2
        go_ret
        exact ⟨by rw [E.out, ← strV_append]; rfl, hb⟩
      · have E := Lib.hid (itoa_big_neg (n := n) (by omega))
        obtain ⟨q, hq⟩ : ∃ q, n.tdiv 10 = q := ⟨_, rfl⟩
        obtain ⟨m, hm⟩ : ∃ m, n.tmod 10 = m := ⟨_, rfl⟩
        have hI := hi
        obtain ⟨i1, i2⟩ := hi
        have T := td_neg h0; rw [hq, hm] at T
        have bq : q < 0 ∧ -9223372036854775808 ≤ q ∧ q.natAbs ≤ k := by omega
        have bm : 0 ≤ -m ∧ -m < 10 := by omega
        rw [hq, hm] at E
        have C1 := Lib.hid (fun w => ih q w bq.2.2 ⟨bq.2.1, by omega⟩)
        have C2 := Lib.hid (fun w => decimal_digit (-m) bm.1 bm.2 w)
        have k1 : ∀ w, (Op.stringOp .add (strV (Lib.itoa q)) (strV (Lib.itoa (-m)))).run Tryz.prog w = .ok (.string (strV (Lib.itoa q) ++ strV (Lib.itoa (-m)))) w := fun w => run_string_add_sum w _ _ (by have := itoa_size q ⟨bq.2.1, by omega⟩; have := itoa_size (-m) ⟨by omega, by omega⟩; omega)
        have z1 : IntKind.i64.wrap (-m) = -m := by rw [IntKind.wrap_i64]; omega
        have z2 : IntKind.i64.wrap q = q := by rw [IntKind.wrap_i64]; omega
        have z3 : IntKind.i64.wrap m = m := by rw [IntKind.wrap_i64]; omega
        have z4 : wrap64 q = q := by unfold wrap64; omega
        clear ih hI i1 i2 hk bq bm T
        go_enter Tryz.func61, Tryz.ntmps61
        go_wp2_with fail
        refine (C1.out _).mono ?_; rintro e w1 ⟨rfl, hb1⟩
        have HB := Lib.hid hb1; clear hb1
        go_wp2_with fail
        refine (C2.out _).mono ?_; rintro e w2 ⟨rfl, hb2⟩
        have HC := Lib.hid (HB.out.trans (hb2.mono HB.out.size)); clear hb2
        go_wp2
        go_ret
        exact ⟨by rw [E.out, ← strV_append]; rfl, HC.out⟩
    · by_cases h1 : n < 10
      · exact decimal_digit n (by omega) h1 w
      · have E := Lib.hid (itoa_big_pos (n := n) (by omega))
        obtain ⟨q, hq⟩ : ∃ q, n.tdiv 10 = q := ⟨_, rfl⟩
        obtain ⟨m, hm⟩ : ∃ m, n.tmod 10 = m := ⟨_, rfl⟩
        have hI := hi
        obtain ⟨i1, i2⟩ := hi
        have T := td_pos (n := n) (by omega); rw [hq, hm] at T
        have bq : 0 < q ∧ q ≤ 9223372036854775807 ∧ q.natAbs ≤ k := by omega
        have bm : 0 ≤ m ∧ m < 10 := by omega
        rw [hq, hm] at E
        have C1 := Lib.hid (fun w => ih q w bq.2.2 ⟨by omega, bq.2.1⟩)
        have C2 := Lib.hid (fun w => decimal_digit m bm.1 bm.2 w)
        have k1 : ∀ w, (Op.stringOp .add (strV (Lib.itoa q)) (strV (Lib.itoa m))).run Tryz.prog w = .ok (.string (strV (Lib.itoa q) ++ strV (Lib.itoa m))) w := fun w => run_string_add_sum w _ _ (by have := itoa_size q ⟨by omega, bq.2.1⟩; have := itoa_size m ⟨by omega, by omega⟩; omega)
        have z2 : IntKind.i64.wrap q = q := by rw [IntKind.wrap_i64]; omega
        have z3 : IntKind.i64.wrap m = m := by rw [IntKind.wrap_i64]; omega
        have z4 : wrap64 q = q := by unfold wrap64; omega
        clear ih hI i1 i2 hk bq bm T
        go_enter Tryz.func61, Tryz.ntmps61
        go_wp2_with fail
        refine (C1.out _).mono ?_; rintro e w1 ⟨rfl, hb1⟩
        have HB := Lib.hid hb1; clear hb1
        go_wp2_with fail
        refine (C2.out _).mono ?_; rintro e w2 ⟨rfl, hb2⟩
        have HC := Lib.hid (HB.out.trans (hb2.mono HB.out.size)); clear hb2
        go_wp2
        go_ret
        exact ⟨by rw [E.out, ← strV_append]; rfl, HC.out⟩
end Go.Proofs.YtnccllelmbcdcaaGreatDoor

/- The reference of layer 1: Text; what the laws call: same, agrees. Condition: the arguments are ints; the listed variables hold the program's own text. -/
namespace Go.Proofs.YtnccllelmbcdcaaGreatDoor
open Go.RowKit

set_option maxHeartbeats 1600000 in
theorem refText_no (a b : Int) (ha : I64 a) (hb : I64 b) (h : Num.rtB a b = false) (w : World) :
    Calls Tryz.prog 34 #[ratV a b] w fun e w' => e = .returned (.string ⟨#[]⟩) ∧ Below w.heap.size w w' := by
  have H := Lib.hid (And.intro ha (And.intro hb h)); clear ha hb h
  go_enter Tryz.func34, Tryz.ntmps34
  go_wp2_with fail
  refine (refRight_c a b false H.out.1 H.out.2.1 H.out.2.2 _).mono ?_; rintro e w1 ⟨rfl, hb⟩
  have K1 : Hid (Below w.heap.size w w1) := Lib.hid (Below.trans (by (repeat' (first | (with_reducible exact Below.refl _ _) | (with_reducible assumption) | (with_reducible refine bdn ?_ _) | (with_reducible refine Below.drew ?_) | (with_reducible refine Below.alloc ?_ ?_ _) | (with_reducible refine Below.setCell ?_ ?_ _) | go_size))) (hb.mono (B' := w.heap.size) (by simp)))
  clear hb
  go_wp2
  go_ret
  exact ⟨rfl, K1.out⟩

set_option maxHeartbeats 1600000 in
theorem refText_one (a : Int) (ha : I64 a) (h : Num.rtB a 1 = true) (w : World) :
    Calls Tryz.prog 34 #[ratV a 1] w fun e w' => e = .returned (.string (strV (Lib.itoa a))) ∧ Below w.heap.size w w' := by
  have H := Lib.hid (And.intro ha h); clear ha h
  go_enter Tryz.func34, Tryz.ntmps34
  go_wp2_with fail
  refine (refRight_c a 1 true H.out.1 ⟨by decide, by decide⟩ H.out.2 _).mono ?_; rintro e w1 ⟨rfl, hb⟩
  have x0 := bk hb w.heap.size 0 (v := .int .i64 a) (by simp [go_sem]) (by simp)
  have x1 := bk hb w.heap.size 1 (v := .int .i64 1) (by simp [go_sem]) (by simp)
  have K1 : Hid (Below w.heap.size w w1) := Lib.hid (Below.trans (by (repeat' (first | (with_reducible exact Below.refl _ _) | (with_reducible assumption) | (with_reducible refine bdn ?_ _) | (with_reducible refine Below.drew ?_) | (with_reducible refine Below.alloc ?_ ?_ _) | (with_reducible refine Below.setCell ?_ ?_ _) | go_size))) (hb.mono (B' := w.heap.size) (by simp)))
  clear hb
  go_wp2_with fail
  refine (decimal_any a.natAbs a _ (Nat.le_refl _) H.out.1).mono ?_; rintro e w2 ⟨rfl, hb⟩
  have K2 := Lib.hid (K1.out.trans (hb.mono K1.out.size)); clear hb
  go_wp2
  go_ret
  exact ⟨rfl, K2.out⟩

set_option maxHeartbeats 4000000 in
theorem refText_two (a b : Int) (ha : I64 a) (hb : I64 b) (h : Num.rtB a b = true) (h1 : (b == 1) = false) (w : World) :
    Calls Tryz.prog 34 #[ratV a b] w fun e w' => e = .returned (.string (strV (Lib.itoa a) ++ ⟨#[47]⟩ ++ strV (Lib.itoa b))) ∧ Below w.heap.size w w' := by
  have H := Lib.hid (And.intro ha (And.intro hb h)); clear ha hb h
  obtain ⟨s, hs⟩ : ∃ s, strV (Lib.itoa a) = s := ⟨_, rfl⟩
  obtain ⟨t, ht⟩ : ∃ s, strV (Lib.itoa b) = s := ⟨_, rfl⟩
  have zs : s.size ≤ 21 := by rw [← hs]; exact itoa_size a H.out.1
  have zt : t.size ≤ 21 := by rw [← ht]; exact itoa_size b H.out.2.1
  have k1 : ∀ w, (Op.stringOp .add s ⟨#[47]⟩).run Tryz.prog w = .ok (.string (s ++ ⟨#[47]⟩)) w := fun w => run_string_add_sum w _ _ (by have : (⟨#[47]⟩ : ByteArray).size = 1 := rfl; omega)
  have k2 : ∀ w, (Op.stringOp .add (s ++ ⟨#[47]⟩) t).run Tryz.prog w = .ok (.string (s ++ ⟨#[47]⟩ ++ t)) w := fun w => run_string_add_sum w _ _ (by have : (⟨#[47]⟩ : ByteArray).size = 1 := rfl; rw [ByteArray.size_append']; omega)
  have C1 := Lib.hid (fun w => (hs ▸ decimal_any a.natAbs a w (Nat.le_refl _) H.out.1 : Calls Tryz.prog 61 #[.int .i64 a] w fun e w' => e = .returned (.string s) ∧ Below w.heap.size w w'))
  have C2 := Lib.hid (fun w => (ht ▸ decimal_any b.natAbs b w (Nat.le_refl _) H.out.2.1 : Calls Tryz.prog 61 #[.int .i64 b] w fun e w' => e = .returned (.string t) ∧ Below w.heap.size w w'))
  have HS := Lib.hid (And.intro hs ht)
  rw [hs, ht]
  clear hs ht zs zt
  go_enter Tryz.func34, Tryz.ntmps34
  go_wp2_with fail
  refine (refRight_c a b true H.out.1 H.out.2.1 H.out.2.2 _).mono ?_; rintro e w1 ⟨rfl, hb⟩
  have x0 := bk hb w.heap.size 0 (v := .int .i64 a) (by simp [go_sem]) (by simp)
  have x1 := bk hb w.heap.size 1 (v := .int .i64 b) (by simp [go_sem]) (by simp)
  have x2 := bs (n := w.heap.size) hb (by simp)
  have K1 : Hid (Below w.heap.size w w1) := Lib.hid (Below.trans (by (repeat' (first | (with_reducible exact Below.refl _ _) | (with_reducible assumption) | (with_reducible refine bdn ?_ _) | (with_reducible refine Below.drew ?_) | (with_reducible refine Below.alloc ?_ ?_ _) | (with_reducible refine Below.setCell ?_ ?_ _) | go_size))) (hb.mono (B' := w.heap.size) (by simp)))
  clear hb
  go_wp2_with fail
  go_region_held3 (fun w' => w'.cell? ⟨w.heap.size, 0, none⟩ = some (.int .i64 a) ∧ w'.cell? ⟨w.heap.size, 1, none⟩ = some (.int .i64 b)) (simp [*, go_sem])
    (first
      | (go_at_call_of 61 (Value.int IntKind.i64 a); refine (C1.out _).mono ?_; rintro e w2 ⟨rfl, hb⟩; have e1 := bk hb w.heap.size 0 (v := .int .i64 a) (by first | assumption | (simp [*, go_sem]; done)) (by first | omega | (simp; omega)); have e2 := bk hb w.heap.size 1 (v := .int .i64 b) (by first | assumption | (simp [*, go_sem]; done)) (by first | omega | (simp; omega)); have e3 := bs (n := w.heap.size) hb (by first | omega | (simp; omega)); have K2 : Hid (Below w.heap.size w w2) := Lib.hid (Below.trans (Below.trans K1.out (by (repeat' (first | (with_reducible exact Below.refl _ _) | (with_reducible assumption) | (with_reducible refine bdn ?_ _) | (with_reducible refine Below.drew ?_) | (with_reducible refine Below.alloc ?_ ?_ _) | (with_reducible refine Below.setCell ?_ ?_ _) | go_size)))) (hb.mono (B' := w.heap.size) (by first | omega | (simp; done) | (simp; omega)))); clear hb)
      | (go_at_call_of 61 (Value.int IntKind.i64 b); refine (C2.out _).mono ?_; rintro e w3 ⟨rfl, hb⟩; have f1 := bk hb w.heap.size 0 (v := .int .i64 a) (by first | assumption | (simp [*, go_sem]; done)) (by first | omega | (simp; omega)); have f2 := bk hb w.heap.size 1 (v := .int .i64 b) (by first | assumption | (simp [*, go_sem]; done)) (by first | omega | (simp; omega)); have K3 : Hid (Below w.heap.size w w3) := Lib.hid (Below.trans (Below.trans K2.out (by (repeat' (first | (with_reducible exact Below.refl _ _) | (with_reducible assumption) | (with_reducible refine bdn ?_ _) | (with_reducible refine Below.drew ?_) | (with_reducible refine Below.alloc ?_ ?_ _) | (with_reducible refine Below.setCell ?_ ?_ _) | go_size)))) (hb.mono (B' := w.heap.size) (by first | omega | (simp; done) | (simp; omega)))); clear hb))
  all_goals
    go_wp2
    go_ret
    exact ⟨rfl, by repeat' (first | exact K3.out | refine bdn ?_ _ | refine Below.drew ?_)⟩

theorem refText_any (a b : Int) (ha : I64 a) (hb : I64 b) (w : World) :
    Calls Tryz.prog 34 #[ratV a b] w fun e w' => e = .returned (.string ⟨(textL a b).toArray⟩) ∧ Below w.heap.size w w' := by
  unfold textL
  cases h : Num.rtB a b
  · exact refText_no a b ha hb h w
  · by_cases h1 : b = 1
    · subst h1
      exact refText_one a ha h w
    · have := refText_two a b ha hb h (by simp [h1]) w
      rw [show (⟨#[47]⟩ : ByteArray) = strV [47] from rfl, strV_append, strV_append] at this
      simp only [if_true, if_neg h1]
      exact this
end Go.Proofs.YtnccllelmbcdcaaGreatDoor

/- The reference of layer 1: number: the int with this text, or no. Condition: what decimal returns. -/
namespace Go.Proofs.YtnccllelmbcdcaaGreatDoor
open Go.RowKit

/-- What decimal returns. -/
def DecC : Prop := ∀ (n : Int) (w : World), I64 n → Calls Tryz.prog 61 #[.int .i64 n] w fun e w' => e = .returned (.string ⟨(Lib.itoa n).toArray⟩) ∧ Below w.heap.size w w'

/-- What number returns. -/
def NumOut (s : ByteArray) (w : World) (e : Ending) (w' : World) : Prop := ∃ n ok, e = .returned (.tuple #[.int .i64 n, .bool ok]) ∧ NumRes s.data.toList n ok ∧ Below w.heap.size w w'

theorem letter_at (s : ByteArray) (k : Nat) (h : k < s.size) : s.data.toList[k]? = some (s[k]'h) := byte_at s k h
theorem str_eq (s : ByteArray) (l : List UInt8) : (l == s.toList) = decide (s.data.toList = l) := by
  rw [Lib.toList_data]
  by_cases h : s.data.toList = l
  · simp [h]
  · have : ¬ l = s.data.toList := fun e => h e.symm
    simp [h, this]

theorem numRes_end {l : List UInt8} (h : ∀ m, I64 m → l = Lib.itoa m → numOf l = m) (h2 : I64 (numOf l)) : NumRes l (numOf l) (decide (l = Lib.itoa (numOf l))) := by
  refine ⟨h2, fun e => of_decide_eq_true e, fun m hm e => ?_⟩
  have := h m hm e
  exact ⟨by rw [this]; exact decide_eq_true e, this⟩
theorem numRes_fin (l : List UInt8) (h2 : I64 (numOf l)) : NumRes l (numOf l) (decide (l = Lib.itoa (numOf l))) :=
  numRes_end (fun m hm e => by rw [e]; exact numOf_itoa m hm) h2
theorem numAt_I64 (l : List UInt8) (i : Nat) : I64 (numAt l i) := by
  unfold numAt
  generalize (l.take i).drop (numStart l) = r
  have key : ∀ (r : List UInt8) (a : Int), I64 a → I64 (r.foldl (numStep (decide (l.head? = some 45))) a) := by
    intro r
    induction r with
    | nil => intro a h; exact h
    | cons c r ih => intro a _; exact ih _ (numStep_I64 _ _ _)
  exact key r 0 ⟨by decide, by decide⟩
theorem no_letter {l : List UInt8} {k : Nat} {c : UInt8} (hk : numStart l ≤ k) (h : l[k]? = some c) (hc : ¬ (48 ≤ c.toNat ∧ c.toNat ≤ 57)) : NumRes l 0 false :=
  numRes_no fun m _ e => hc ((e ▸ (itoa_start m).2 k c : numStart l ≤ k → l[k]? = some c → _) hk h)
theorem no_short {l : List UInt8} (h : l.length = numStart l) : NumRes l 0 false :=
  numRes_no fun m _ e => by have := (itoa_start m).1; rw [← e] at this; omega
theorem no_long {l : List UInt8} (h : 20 < l.length) : NumRes l 0 false :=
  numRes_no fun m hm e => by have := itoa_len20 m hm; rw [← e] at this; omega
theorem head_at (s : ByteArray) (h : 0 < s.size) : s.data.toList.head? = some (s[0]'h) := by
  rw [← letter_at s 0 h]; cases s.data.toList <;> rfl

set_option maxHeartbeats 2000000 in
theorem number_empty (w : World) :
    Calls Tryz.prog 39 #[.string ⟨#[]⟩] w (NumOut ⟨#[]⟩ w) := by
  go_enter Tryz.func39, Tryz.ntmps39
  go_wp2
  go_ret2
  exact ⟨_, _, rfl, no_short rfl, Below.refl _ _⟩

set_option maxHeartbeats 2000000 in
theorem number_neg_bad (s : ByteArray) (h1 : 0 < s.size) (hd : (((s[0]'h1).toNat : Nat) : Int) = 45) (hb : s.size = 1 ∨ 20 < s.size) (w : World) :
    Calls Tryz.prog 39 #[.string s] w (NumOut s w) := by
  have HN : Hid (NumRes s.data.toList 0 false) := Lib.hid (by
    have hs := Lib.size_eq s
    rcases hb with hb | hb
    · refine no_short ?_
      unfold numStart
      rw [head_at s h1]
      rw [show s[0] = 45 from UInt8.toNat_inj.1 (by have : (45 : UInt8).toNat = 45 := rfl; omega), if_pos rfl]; omega
    · exact no_long (by omega))
  have hp : (0 : Int) < (s.size : Int) := by omega
  obtain ⟨d, hdd⟩ : ∃ d : Int, (((s[0]'h1).toNat : Nat) : Int) = d := ⟨_, rfl⟩
  rw [hdd] at hd
  have hq : (d == 45) = true := by simp [hd]
  clear hd
  rcases hb with hb | hb
  · have e1 : ((s.size : Int) == 1) = true := beq_iff_eq.2 (by omega)
    clear hb
    go_enter Tryz.func39, Tryz.ntmps39
    go_wp2
    go_ret2
    exact ⟨_, _, rfl, HN.out, Below.refl _ _⟩
  · have e1 : ((s.size : Int) == 1) = false := beq_eq_false_iff_ne.2 (by omega)
    have e2 : (20 : Int) < (s.size : Int) := by omega
    clear hb
    go_enter Tryz.func39, Tryz.ntmps39
    go_wp2
    go_ret2
    exact ⟨_, _, rfl, HN.out, Below.refl _ _⟩

set_option maxHeartbeats 8000000 in
theorem number_neg (dec : DecC) (s : ByteArray) (h1 : 1 < s.size) (h20 : s.size ≤ 20) (hd : (((s[0]'(by omega)).toNat : Nat) : Int) = 45) (w : World) :
    Calls Tryz.prog 39 #[.string s] w (NumOut s w) := by
  have DC := Lib.hid dec; clear dec
  have h00 : 0 < s.size := by omega
  have hst : numStart s.data.toList = 1 ∧ decide (s.data.toList.head? = some 45) = true := by
    unfold numStart
    rw [head_at s h00]
    rw [show s[0] = 45 from UInt8.toNat_inj.1 (by have : (45 : UInt8).toNat = 45 := rfl; omega)]; exact ⟨if_pos rfl, by simp⟩
  have HS := Lib.hid hst; clear hst
  have hp : (0 : Int) < (s.size : Int) := by omega
  obtain ⟨d, hdd⟩ : ∃ d : Int, (((s[0]'h00).toNat : Nat) : Int) = d := ⟨_, rfl⟩
  rw [hdd] at hd
  have hq : (d == 45) = true := by simp [hd]
  clear hd
  have e1 : ((s.size : Int) == 1) = false := beq_eq_false_iff_ne.2 (by omega)
  have e2 : ¬ (20 : Int) < (s.size : Int) := by omega
  go_enter Tryz.func39, Tryz.ntmps39
  go_wp2
  clear e1 e2
  go_loop [4, 5] (fun nv iv => ∃ (k : Nat) (n : Int), 1 ≤ k ∧ k ≤ s.size ∧ nv = .int .i64 n ∧ iv = .int .i64 k ∧ Hid (numAt s.data.toList k = n)) (fun _ iv => s.size - (intOf iv).toNat)
  case atStart => exact ⟨1, 0, by omega, by omega, rfl, rfl, Lib.hid (by have := numAt_start s.data.toList; rw [HS.out.1] at this; exact this)⟩
  case round =>
    obtain ⟨k, n, hk1, hk, rfl, rfl, hn⟩ := hrel
    by_cases hlt : k < s.size
    · have hlt2 : (k : Int) < (s.size : Int) := by omega
      obtain ⟨u, hu⟩ : ∃ u : UInt8, s[k]'hlt = u := ⟨_, rfl⟩
      have hL := Lib.hid (show s.data.toList[k]? = some u by rw [letter_at s k hlt, hu])
      obtain ⟨c, hc⟩ : ∃ c : Int, ((u.toNat : Nat) : Int) = c := ⟨_, rfl⟩
      have hC := Lib.hid hc
      by_cases hlo : c < 48
      · go_wp2
        go_ret2
        exact ⟨_, _, rfl, no_letter (by rw [HS.out.1]; exact hk1) hL.out (by have := hC.out; omega), Below.refl _ _⟩
      by_cases hhi : 57 < c
      · go_wp2
        go_ret2
        exact ⟨_, _, rfl, no_letter (by rw [HS.out.1]; exact hk1) hL.out (by have := hC.out; omega), Below.refl _ _⟩
      have z0 : IntKind.u8.wrap (c - 48) = c - 48 := by rw [IntKind.wrap_u8]; omega
      have z1 : IntKind.i64.wrap (c - 48) = c - 48 := by rw [IntKind.wrap_i64]; omega
      obtain ⟨p, hpp⟩ : ∃ p, IntKind.i64.wrap (10 * n) = p := ⟨_, rfl⟩
      obtain ⟨r, hr⟩ : ∃ r, IntKind.i64.wrap (p - (c - 48)) = r := ⟨_, rfl⟩
      have z4 : IntKind.i64.wrap ((k : Int) + 1) = (k : Int) + 1 := by rw [IntKind.wrap_i64]; omega
      have hN := Lib.hid (show numAt s.data.toList (k + 1) = r by
        rw [numAt_step _ k u (by rw [HS.out.1]; exact hk1) hL.out, HS.out.2, hn.out]
        unfold numStep
        rw [hc, ← hr, ← hpp]; rfl)
      go_wp2
      go_round
      case rel => exact ⟨k + 1, r, by omega, by omega, rfl, by simp, hN⟩
      case measure => simp [intOf]; omega
    · have hk2 : k = s.size := by omega
      subst hk2
      have hlt2 : ¬ (s.size : Int) < (s.size : Int) := by omega
      have hN := Lib.hid (show numOf s.data.toList = n by rw [← numAt_end, ← Lib.size_eq]; exact hn.out)
      have hI := Lib.hid (show I64 n by rw [← hN.out, ← numAt_end]; exact numAt_I64 _ _)
      go_wp2_with fail
      refine (DC.out n _ hI.out).mono ?_; rintro e w1 ⟨rfl, hb⟩
      have HB := Lib.hid hb; clear hb
      obtain ⟨ok, hok⟩ : ∃ ok, (Lib.itoa n == s.toList) = ok := ⟨_, rfl⟩
      have HO := Lib.hid (show ok = decide (s.data.toList = Lib.itoa n) by rw [← hok]; exact str_eq s _)
      go_wp2
      go_ret2
      refine ⟨_, _, rfl, ?_, HB.out⟩
      rw [HO.out]
      have e := hN.out
      rw [← e]
      exact numRes_fin _ (by rw [e]; exact hI.out)

set_option maxHeartbeats 2000000 in
theorem number_pos_bad (s : ByteArray) (h1 : 0 < s.size) (hd : (((s[0]'h1).toNat : Nat) : Int) ≠ 45) (hb : s.size = 0 ∨ 20 < s.size) (w : World) :
    Calls Tryz.prog 39 #[.string s] w (NumOut s w) := by
  have HN : Hid (NumRes s.data.toList 0 false) := Lib.hid (by
    have hs := Lib.size_eq s
    rcases hb with hb | hb
    · refine no_short ?_
      unfold numStart
      rw [head_at s h1]
      have hne : ¬ some (s[0]'h1) = some (45 : UInt8) := by intro e; injection e with e; rw [e] at hd; exact hd rfl
      rw [if_neg hne]; omega
    · exact no_long (by omega))
  have hp : (0 : Int) < (s.size : Int) := by omega
  obtain ⟨d, hdd⟩ : ∃ d : Int, (((s[0]'h1).toNat : Nat) : Int) = d := ⟨_, rfl⟩
  rw [hdd] at hd
  have hq : (d == 45) = false := by simp [hd]
  clear hd
  rcases hb with hb | hb
  · have e1 : ((s.size : Int) == 0) = true := beq_iff_eq.2 (by omega)
    clear hb
    go_enter Tryz.func39, Tryz.ntmps39
    go_wp2
    go_ret2
    exact ⟨_, _, rfl, HN.out, Below.refl _ _⟩
  · have e1 : ((s.size : Int) == 0) = false := beq_eq_false_iff_ne.2 (by omega)
    have e2 : (20 : Int) < (s.size : Int) := by omega
    clear hb
    go_enter Tryz.func39, Tryz.ntmps39
    go_wp2
    go_ret2
    exact ⟨_, _, rfl, HN.out, Below.refl _ _⟩

set_option maxHeartbeats 8000000 in
theorem number_pos (dec : DecC) (s : ByteArray) (h1 : 0 < s.size) (h20 : s.size ≤ 20) (hd : (((s[0]'(by omega)).toNat : Nat) : Int) ≠ 45) (w : World) :
    Calls Tryz.prog 39 #[.string s] w (NumOut s w) := by
  have DC := Lib.hid dec; clear dec
  have h00 : 0 < s.size := by omega
  have hst : numStart s.data.toList = 0 ∧ decide (s.data.toList.head? = some 45) = false := by
    unfold numStart
    rw [head_at s h00]
    have hne : ¬ some (s[0]'h00) = some (45 : UInt8) := by intro e; injection e with e; rw [e] at hd; exact hd rfl
    exact ⟨if_neg hne, by simpa using hne⟩
  have HS := Lib.hid hst; clear hst
  have hp : (0 : Int) < (s.size : Int) := by omega
  obtain ⟨d, hdd⟩ : ∃ d : Int, (((s[0]'h00).toNat : Nat) : Int) = d := ⟨_, rfl⟩
  rw [hdd] at hd
  have hq : (d == 45) = false := by simp [hd]
  clear hd
  have e1 : ((s.size : Int) == 0) = false := beq_eq_false_iff_ne.2 (by omega)
  have e2 : ¬ (20 : Int) < (s.size : Int) := by omega
  go_enter Tryz.func39, Tryz.ntmps39
  go_wp2
  clear e1 e2
  go_loop [4, 5] (fun nv iv => ∃ (k : Nat) (n : Int), 0 ≤ k ∧ k ≤ s.size ∧ nv = .int .i64 n ∧ iv = .int .i64 k ∧ Hid (numAt s.data.toList k = n)) (fun _ iv => s.size - (intOf iv).toNat)
  case atStart => exact ⟨0, 0, by omega, by omega, rfl, rfl, Lib.hid (by have := numAt_start s.data.toList; rw [HS.out.1] at this; exact this)⟩
  case round =>
    obtain ⟨k, n, hk1, hk, rfl, rfl, hn⟩ := hrel
    by_cases hlt : k < s.size
    · have hlt2 : (k : Int) < (s.size : Int) := by omega
      obtain ⟨u, hu⟩ : ∃ u : UInt8, s[k]'hlt = u := ⟨_, rfl⟩
      have hL := Lib.hid (show s.data.toList[k]? = some u by rw [letter_at s k hlt, hu])
      obtain ⟨c, hc⟩ : ∃ c : Int, ((u.toNat : Nat) : Int) = c := ⟨_, rfl⟩
      have hC := Lib.hid hc
      by_cases hlo : c < 48
      · go_wp2
        go_ret2
        exact ⟨_, _, rfl, no_letter (by rw [HS.out.1]; exact hk1) hL.out (by have := hC.out; omega), Below.refl _ _⟩
      by_cases hhi : 57 < c
      · go_wp2
        go_ret2
        exact ⟨_, _, rfl, no_letter (by rw [HS.out.1]; exact hk1) hL.out (by have := hC.out; omega), Below.refl _ _⟩
      have z0 : IntKind.u8.wrap (c - 48) = c - 48 := by rw [IntKind.wrap_u8]; omega
      have z1 : IntKind.i64.wrap (c - 48) = c - 48 := by rw [IntKind.wrap_i64]; omega
      obtain ⟨p, hpp⟩ : ∃ p, IntKind.i64.wrap (10 * n) = p := ⟨_, rfl⟩
      obtain ⟨r, hr⟩ : ∃ r, IntKind.i64.wrap (p + (c - 48)) = r := ⟨_, rfl⟩
      have z4 : IntKind.i64.wrap ((k : Int) + 1) = (k : Int) + 1 := by rw [IntKind.wrap_i64]; omega
      have hN := Lib.hid (show numAt s.data.toList (k + 1) = r by
        rw [numAt_step _ k u (by rw [HS.out.1]; exact hk1) hL.out, HS.out.2, hn.out]
        unfold numStep
        rw [hc, ← hr, ← hpp]; rfl)
      go_wp2
      go_round
      case rel => exact ⟨k + 1, r, by omega, by omega, rfl, by simp, hN⟩
      case measure => simp [intOf]; omega
    · have hk2 : k = s.size := by omega
      subst hk2
      have hlt2 : ¬ (s.size : Int) < (s.size : Int) := by omega
      have hN := Lib.hid (show numOf s.data.toList = n by rw [← numAt_end, ← Lib.size_eq]; exact hn.out)
      have hI := Lib.hid (show I64 n by rw [← hN.out, ← numAt_end]; exact numAt_I64 _ _)
      go_wp2_with fail
      refine (DC.out n _ hI.out).mono ?_; rintro e w1 ⟨rfl, hb⟩
      have HB := Lib.hid hb; clear hb
      obtain ⟨ok, hok⟩ : ∃ ok, (Lib.itoa n == s.toList) = ok := ⟨_, rfl⟩
      have HO := Lib.hid (show ok = decide (s.data.toList = Lib.itoa n) by rw [← hok]; exact str_eq s _)
      go_wp2
      go_ret2
      refine ⟨_, _, rfl, ?_, HB.out⟩
      rw [HO.out]
      have e := hN.out
      rw [← e]
      exact numRes_fin _ (by rw [e]; exact hI.out)

theorem number_any (dec : DecC) (s : ByteArray) (w : World) :
    Calls Tryz.prog 39 #[.string s] w (NumOut s w) := by
  by_cases h0 : 0 < s.size
  · by_cases hd : (((s[0]'h0).toNat : Nat) : Int) = 45
    · by_cases hb : s.size = 1 ∨ 20 < s.size
      · exact number_neg_bad s h0 hd hb w
      · exact number_neg dec s (by omega) (by omega) hd w
    · by_cases hb : 20 < s.size
      · exact number_pos_bad s h0 hd (.inr hb) w
      · exact number_pos dec s h0 (by omega) hd w
  · have e : s = ⟨#[]⟩ := by
      obtain ⟨⟨l⟩⟩ := s
      cases l with
      | nil => rfl
      | cons c l => exact absurd (by simp [ByteArray.size]) h0
    subst e
    exact number_empty w
end Go.Proofs.YtnccllelmbcdcaaGreatDoor

/- The reference of layer 1: Parse, for every string. Condition: the string fits into memory. -/
namespace Go.Proofs.YtnccllelmbcdcaaGreatDoor
open Go.RowKit

theorem dec_c : DecC := fun n w h => decimal_any n.natAbs n w (Nat.le_refl _) h

theorem Box.new (w : World) (a b : Int) (t : TypeId) : Box (w.alloc (.cells #[.int .i64 a, .int .i64 b] t)) w.heap.size a b :=
  ⟨by simp [go_sem], by simp [go_sem], by simp [go_sem], by simp [go_sem], by simp⟩

theorem cut_at (s : ByteArray) (k : Nat) (h : k < s.size) (hc : s[k]'h = 47) : s.data.toList = (s.extract 0 k).data.toList ++ 47 :: (s.extract (k + 1) s.size).data.toList := by
  have hl := Lib.size_eq s
  have h1 := letter_at s k h
  rw [Lib.extract_data, Lib.extract_data, List.drop_zero, Nat.sub_zero, List.take_of_length_le (i := s.size - (k + 1)) (by rw [List.length_drop]; omega)]
  have hk : k < s.data.toList.length := by omega
  rw [List.getElem?_eq_getElem hk, hc] at h1
  injection h1 with h1
  rw [← h1, ← List.drop_eq_getElem_cons hk, List.take_append_drop]
theorem head_free (s : ByteArray) (k : Nat) (hn : ∀ j, j < k → s.data.toList[j]? ≠ some 47) : ∀ c ∈ (s.extract 0 k).data.toList, c ≠ 47 := by
  intro c hc e
  rw [Lib.extract_data, List.drop_zero, Nat.sub_zero] at hc
  obtain ⟨j, hj⟩ := List.getElem?_of_mem hc
  rw [List.getElem?_take] at hj
  split at hj
  · rename_i h; exact hn j h (e ▸ hj)
  · cases hj
theorem whole_at (s : ByteArray) : (s.extract 0 s.size).data.toList = s.data.toList := by
  rw [Lib.extract_data, List.drop_zero, Nat.sub_zero, List.take_of_length_le (by rw [← Lib.size_eq]; exact Nat.le_refl _)]

set_option maxHeartbeats 8000000 in
theorem refParse_any (s : ByteArray) (hs : s.size ≤ 281474976710656) (w : World) :
    Calls Tryz.prog 12 #[.string s] w (ParseOut s w) := by
  have NC := Lib.hid (number_any dec_c)
  go_enter Tryz.func12, Tryz.ntmps12
  go_wp2_with fail
  refine (refOf_any 0 _).mono ?_; rintro e w1 ⟨rfl, hb1⟩
  have X0 : Hid (Box w1 w.heap.size 0 0) := Lib.hid (box2 hb1 w.heap.size (by simp [go_sem]) (by simp [go_sem]) (by simp [go_sem]) (by simp [go_sem]) (by simp) (by simp))
  have K1 : Hid (Below w.heap.size w w1) := Lib.hid (Below.trans (by (repeat' (first | (with_reducible exact Below.refl _ _) | (with_reducible assumption) | (with_reducible refine bdn ?_ _) | (with_reducible refine Below.drew ?_) | (with_reducible refine Below.alloc ?_ ?_ _) | (with_reducible refine Below.setCell ?_ ?_ _) | go_size))) (hb1.mono (B' := w.heap.size) (by simp)))
  clear hb1
  obtain ⟨B, hB⟩ : ∃ B, w1.heap.size = B := ⟨_, rfl⟩
  have hne : ¬ w.heap.size = B := by have := X0.out.2.2.2.2; omega
  have hne2 : ¬ B = w.heap.size := fun e => hne e.symm
  have hBw : w.heap.size ≤ B := by have := X0.out.2.2.2.2; omega
  go_wp2
  go_loopw [6] (fun ix wr => ∃ k : Nat, k ≤ s.size ∧ ix = .int .i64 k ∧ Hid (∀ j, j < k → s.data.toList[j]? ≠ some 47) ∧ Hid (Box wr w.heap.size 0 0) ∧ Hid (Box wr B 0 1) ∧ Hid (Below w.heap.size w wr)) (fun ix _ => s.size + 1 - (intOf ix).toNat)
  case atStart =>
    refine ⟨0, Nat.zero_le _, rfl, Lib.hid (fun j h => absurd h (Nat.not_lt_zero _)), ?_, ?_, ?_⟩
    · exact Lib.hid (X0.out.below (Below.alloc (Below.refl _ _) (Nat.le_refl _) _))
    · rw [← hB]; exact Lib.hid (Box.new w1 0 1 _)
    · have k1 := K1.out
      exact Lib.hid (by (repeat' (first | (with_reducible exact Below.refl _ _) | (with_reducible assumption) | (with_reducible refine bdn ?_ _) | (with_reducible refine Below.drew ?_) | (with_reducible refine Below.alloc ?_ ?_ _) | (with_reducible refine Below.setCell ?_ ?_ _) | go_size)))
  case round =>
    obtain ⟨k, hk, rfl, hfree, hR, hA, hW⟩ := hrel
    clear X0 K1 hB
    have hle : (k : Int) ≤ (s.size : Int) := by omega
    have hk0 : (0 : Int) ≤ (k : Int) := by omega
    by_cases hlt : k < s.size
    · have hlt2 : (k : Int) < (s.size : Int) := by omega
      obtain ⟨u, hu⟩ : ∃ u : UInt8, s[k]'hlt = u := ⟨_, rfl⟩
      obtain ⟨c, hc⟩ : ∃ c : Int, ((u.toNat : Nat) : Int) = c := ⟨_, rfl⟩
      have HU := Lib.hid hu; have HC := Lib.hid hc
      have z4 : IntKind.i64.wrap ((k : Int) + 1) = (k : Int) + 1 := by rw [IntKind.wrap_i64]; omega
      have z5 : (0 : Int) ≤ (k : Int) + 1 := by omega
      have z6 : (k : Int) + 1 ≤ (s.size : Int) := by omega
      by_cases h47 : c = 47
      · have hq : (c == 47) = true := by simp [h47]
        have hu47 : s[k]'hlt = 47 := by
          rw [hu]; refine UInt8.toNat_inj.1 ?_
          have : (47 : UInt8).toNat = 47 := rfl
          omega
        have E := Lib.hid (cut_at s k hlt hu47)
        have F := Lib.hid (head_free s k hfree.out)
        clear hu47 h47
        have R0 := hR; have A0 := hA; have W0 := hW; clear hR hA hW
        go_wp2_with fail
        refine (NC.out (s.extract 0 k) _).mono ?_; rintro e w2 ⟨n, one, rfl, hn, hb⟩
        have Hn := Lib.hid hn; clear hn
        have R2 := Lib.hid (R0.out.below hb); have A2 := Lib.hid (A0.out.below hb)
        have W2 := Lib.hid (W0.out.trans (hb.mono W0.out.size)); clear hb
        go_wp2_with fail
        refine (NC.out (s.extract (k + 1) s.size) _).mono ?_; rintro e w3 ⟨d, two, rfl, hd, hb⟩
        have Hd := Lib.hid hd; clear hd
        have R3 := Lib.hid (R2.out.below hb); have A3 := Lib.hid (A2.out.below hb)
        have W3 := Lib.hid (W2.out.trans (hb.mono W2.out.size)); clear hb
        cases one
        · obtain ⟨aa, ab, ac, ad, ae⟩ := A3.out
          go_wp2_with fail
          refine (refOf_any 0 _).mono ?_; rintro e wz ⟨rfl, hb⟩
          have Rz := Lib.hid ((R3.out.skip hne (.int .i64 n) (.int .i64 d)).below hb)
          have Wz := Lib.hid (((W3.out.setCell (by simpa using hBw) _).setCell (by simpa using hBw) _).trans (hb.mono (B' := w.heap.size) (by have := W3.out.size; simpa using this)))
          clear hb
          obtain ⟨ra, rb, rc, rd, re⟩ := Rz.out
          go_wp2
          refine bodyPost_ret (v := .tuple #[ratV 0 1, .bool false]) (by simp [results, Tryz.results12, go_sem, ra, rb]) rfl ⟨_, _, _, rfl, by rw [E.out]; exact isParse_no2 F.out Hn.out.toA Hd.out.toA (.inl rfl), ?_⟩
          exact (Wz.out.setCell (Nat.le_refl _) _).setCell (Nat.le_refl _) _
        · cases two
          · obtain ⟨aa, ab, ac, ad, ae⟩ := A3.out
            go_wp2_with fail
            refine (refOf_any 0 _).mono ?_; rintro e wz ⟨rfl, hb⟩
            have Rz := Lib.hid ((R3.out.skip hne (.int .i64 n) (.int .i64 d)).below hb)
            have Wz := Lib.hid (((W3.out.setCell (by simpa using hBw) _).setCell (by simpa using hBw) _).trans (hb.mono (B' := w.heap.size) (by have := W3.out.size; simpa using this)))
            clear hb
            obtain ⟨ra, rb, rc, rd, re⟩ := Rz.out
            go_wp2
            refine bodyPost_ret (v := .tuple #[ratV 0 1, .bool false]) (by simp [results, Tryz.results12, go_sem, ra, rb]) rfl ⟨_, _, _, rfl, by rw [E.out]; exact isParse_no2 F.out Hn.out.toA Hd.out.toA (.inr (.inl rfl)), ?_⟩
            exact (Wz.out.setCell (Nat.le_refl _) _).setCell (Nat.le_refl _) _
          · obtain ⟨t, ht⟩ : ∃ t, (textL n d) = t := ⟨_, rfl⟩
            have HT := Lib.hid ht
            obtain ⟨eq, heq⟩ : ∃ q, (t == s.toList) = q := ⟨_, rfl⟩
            have HQ := Lib.hid (show eq = decide (s.data.toList = t) by rw [← heq]; exact str_eq s _)
            have TC := Lib.hid (fun w' => (ht ▸ refText_any n d Hn.out.1 Hd.out.1 w' : Calls Tryz.prog 34 #[ratV n d] w' fun e w'' => e = .returned (.string ⟨t.toArray⟩) ∧ Below w'.heap.size w' w''))
            clear ht
            obtain ⟨aa, ab, ac, ad, ae⟩ := A3.out
            go_wp2_with fail
            refine (TC.out _).mono ?_; rintro e wt ⟨rfl, hb⟩
            have Rt := Lib.hid ((R3.out.skip hne (.int .i64 n) (.int .i64 d)).below hb)
            have At := Lib.hid ((A3.out.set n d).below hb)
            have Wt := Lib.hid (((W3.out.setCell (by simpa using hBw) _).setCell (by simpa using hBw) _).trans (hb.mono (B' := w.heap.size) (by have := W3.out.size; simpa using this)))
            clear hb aa ab ac ad ae
            cases eq
            · have hno : s.data.toList ≠ t := fun e => by have := HQ.out; rw [decide_eq_true e] at this; cases this
              have HN := Lib.hid hno; clear hno
              go_wp2_with fail
              refine (refOf_any 0 _).mono ?_; rintro e wz ⟨rfl, hb⟩
              have Rz := Lib.hid (Rt.out.below hb)
              have Wz := Lib.hid (Wt.out.trans (hb.mono Wt.out.size))
              clear hb
              obtain ⟨ra, rb, rc, rd, re⟩ := Rz.out
              go_wp2
              refine bodyPost_ret (v := .tuple #[ratV 0 1, .bool false]) (by simp [results, Tryz.results12, go_sem, ra, rb]) rfl ⟨_, _, _, rfl, by rw [E.out]; exact isParse_no2 F.out Hn.out.toA Hd.out.toA (.inr (.inr (by rw [HT.out, ← E.out]; exact fun e => HN.out e.symm))), ?_⟩
              exact (Wz.out.setCell (Nat.le_refl _) _).setCell (Nat.le_refl _) _
            · have hyes : s.data.toList = t := of_decide_eq_true HQ.out.symm
              have HY := Lib.hid hyes; clear hyes
              obtain ⟨ra, rb, rc, rd, re⟩ := Rt.out
              obtain ⟨aa, ab, ac, ad, ae⟩ := At.out
              go_wp2
              refine bodyPost_ret (v := .tuple #[ratV n d, .bool true]) (by simp [results, Tryz.results12, go_sem, ra, rb]) rfl ⟨_, _, _, rfl, isParse_yes Hn.out.1 Hd.out.1 (by rw [E.out]; simp) (by rw [HT.out]; exact HY.out.symm), ?_⟩
              exact (Wt.out.setCell (Nat.le_refl _) _).setCell (Nat.le_refl _) _
      · have hq : (c == 47) = false := by simp [h47]
        have hfree2 : Hid (∀ j, j < k + 1 → s.data.toList[j]? ≠ some 47) := Lib.hid (by
          intro j hj e
          by_cases hjk : j = k
          · subst hjk
            rw [letter_at s j hlt, hu] at e
            injection e with e
            rw [e] at hc
            exact h47 (hc.symm.trans rfl)
          · exact hfree.out j (by omega) e)
        clear h47
        go_wp2
        case roundEnd => exact ⟨⟨k + 1, by omega, by simp, hfree2, hR, hA, hW⟩, by simp [intOf]; omega⟩
    · have hk2 : k = s.size := by omega
      subst hk2
      have hlt2 : ¬ (s.size : Int) < (s.size : Int) := by omega
      have F := Lib.hid (head_free s s.size hfree.out)
      have R0 := hR; have A0 := hA; have W0 := hW; clear hR hA hW
      go_wp2_with fail
      refine (NC.out _ _).mono ?_; rintro e w2 ⟨n, one, rfl, hn, hb⟩
      have Hn := Lib.hid hn; clear hn
      have R2 := Lib.hid (R0.out.below hb); have A2 := Lib.hid (A0.out.below hb)
      have W2 := Lib.hid (W0.out.trans (hb.mono W0.out.size)); clear hb
      cases one
      · obtain ⟨aa, ab, ac, ad, ae⟩ := A2.out
        go_wp2_with fail
        refine (refOf_any 0 _).mono ?_; rintro e wz ⟨rfl, hb⟩
        have Rz := Lib.hid ((R2.out.skip hne (.int .i64 n) (.int .i64 1)).below hb)
        have Wz := Lib.hid (((W2.out.setCell (by simpa using hBw) _).setCell (by simpa using hBw) _).trans (hb.mono (B' := w.heap.size) (by have := W2.out.size; simpa using this)))
        clear hb
        obtain ⟨ra, rb, rc, rd, re⟩ := Rz.out
        go_wp2
        refine bodyPost_ret (v := .tuple #[ratV 0 1, .bool false]) (by simp [results, Tryz.results12, go_sem, ra, rb]) rfl ⟨_, _, _, rfl, isParse_no1 (by have := F.out; rw [whole_at] at this; exact this) Hn.out.toA (.inl rfl), ?_⟩
        exact (Wz.out.setCell (Nat.le_refl _) _).setCell (Nat.le_refl _) _
      · obtain ⟨t, ht⟩ : ∃ t, (textL n 1) = t := ⟨_, rfl⟩
        have HT := Lib.hid ht
        obtain ⟨eq, heq⟩ : ∃ q, (t == s.toList) = q := ⟨_, rfl⟩
        have HQ := Lib.hid (show eq = decide (s.data.toList = t) by rw [← heq]; exact str_eq s _)
        have TC := Lib.hid (fun w' => (ht ▸ refText_any n 1 Hn.out.1 ⟨by decide, by decide⟩ w' : Calls Tryz.prog 34 #[ratV n 1] w' fun e w'' => e = .returned (.string ⟨t.toArray⟩) ∧ Below w'.heap.size w' w''))
        clear ht
        obtain ⟨aa, ab, ac, ad, ae⟩ := A2.out
        go_wp2_with fail
        refine (TC.out _).mono ?_; rintro e wt ⟨rfl, hb⟩
        have Rt := Lib.hid ((R2.out.skip hne (.int .i64 n) (.int .i64 1)).below hb)
        have At := Lib.hid ((A2.out.set n 1).below hb)
        have Wt := Lib.hid (((W2.out.setCell (by simpa using hBw) _).setCell (by simpa using hBw) _).trans (hb.mono (B' := w.heap.size) (by have := W2.out.size; simpa using this)))
        clear hb aa ab ac ad ae
        cases eq
        · have hno : s.data.toList ≠ t := fun e => by have := HQ.out; rw [decide_eq_true e] at this; cases this
          have HN := Lib.hid hno; clear hno
          go_wp2_with fail
          refine (refOf_any 0 _).mono ?_; rintro e wz ⟨rfl, hb⟩
          have Rz := Lib.hid (Rt.out.below hb)
          have Wz := Lib.hid (Wt.out.trans (hb.mono Wt.out.size))
          clear hb
          obtain ⟨ra, rb, rc, rd, re⟩ := Rz.out
          go_wp2
          refine bodyPost_ret (v := .tuple #[ratV 0 1, .bool false]) (by simp [results, Tryz.results12, go_sem, ra, rb]) rfl ⟨_, _, _, rfl, isParse_no1 (by have := F.out; rw [whole_at] at this; exact this) Hn.out.toA (.inr (by rw [HT.out]; exact fun e => HN.out e.symm)), ?_⟩
          exact (Wz.out.setCell (Nat.le_refl _) _).setCell (Nat.le_refl _) _
        · have hyes : s.data.toList = t := of_decide_eq_true HQ.out.symm
          have HY := Lib.hid hyes; clear hyes
          obtain ⟨ra, rb, rc, rd, re⟩ := Rt.out
          obtain ⟨aa, ab, ac, ad, ae⟩ := At.out
          go_wp2
          refine bodyPost_ret (v := .tuple #[ratV n 1, .bool true]) (by simp [results, Tryz.results12, go_sem, ra, rb]) rfl ⟨_, _, _, rfl, isParse_yes Hn.out.1 ⟨by decide, by decide⟩ (by rw [Hn.out.2.1 rfl]; exact itoa_ne _) (by rw [HT.out]; exact HY.out.symm), ?_⟩
          exact (Wt.out.setCell (Nat.le_refl _) _).setCell (Nat.le_refl _) _
end Go.Proofs.YtnccllelmbcdcaaGreatDoor

/- strings.Cut at one letter, for every string; strconv.Atoi for every string. Condition: the strings fit into memory; the library's two errors lie in their variables. -/
namespace Go.Proofs.YtnccllelmbcdcaaGreatDoor
open Go.RowKit

set_option maxHeartbeats 2000000 in
theorem index1 (s : ByteArray) (w : World) :
    Calls Tryz.prog 81 #[.string s, .string ⟨#[47]⟩] w fun e w' => e = .returned (.int .i64 (Lib.index s.data.toList [47])) ∧ w' = w := by
  obtain ⟨q, hq⟩ : ∃ q, ([47] == s.toList) = q := ⟨_, rfl⟩
  cases q
  · go_enter Tryz.func81, Tryz.ntmps81
    go_wp2_with fail
    refine (Tryz.stringslite_IndexByte _ _ _).mono ?_; rintro e w' ⟨rfl, rfl⟩
    go_wp2
    go_ret
    exact ⟨by rw [Lib.index_one]; rfl, rfl⟩
  · go_enter Tryz.func81, Tryz.ntmps81
    go_wp2
    go_ret
    refine ⟨?_, rfl⟩
    have e : s.data.toList = [47] := by rw [← Lib.toList_data]; exact (beq_iff_eq.1 hq).symm
    rw [e, Lib.index_self]; rfl

set_option maxHeartbeats 4000000 in
theorem cut1 (s : ByteArray) (hs : s.size ≤ 281474976710656) (w : World) :
    Calls Tryz.prog 63 #[.string s, .string ⟨#[47]⟩] w fun e w' => e = .returned (.tuple #[.string ⟨(Lib.cut s.data.toList [47]).1.toArray⟩, .string ⟨(Lib.cut s.data.toList [47]).2.1.toArray⟩, .bool (Lib.cut s.data.toList [47]).2.2]) ∧ Below w.heap.size w w' := by
  have hd : (⟨#[47]⟩ : ByteArray).data.toList = [47] := rfl
  have hz : (⟨#[47]⟩ : ByteArray).size = 1 := rfl
  have I := index1 s w
  rcases Lib.indexB_cases s ⟨#[47]⟩ with hix | ⟨i, hix, hroom⟩
  · obtain ⟨e1, e2, e3⟩ := Lib.cutB_miss s ⟨#[47]⟩ hix
    rw [hd] at e1 e2 e3
    rw [e1, e2, e3]
    have hix : Lib.index s.data.toList [47] = -1 := hix
    rw [hix] at I
    have HI := Lib.hid I; clear I e1 e2 e3 hd hz
    go_enter Tryz.func63, Tryz.ntmps63
    go_wp2_with fail
    refine HI.out.mono ?_; rintro e w' ⟨rfl, rfl⟩
    go_wp2
    go_ret3
    exact ⟨rfl, Below.refl _ _⟩
  · obtain ⟨e1, e2, e3⟩ := Lib.cutB_hit s ⟨#[47]⟩ i hix
    rw [hd] at e1 e2 e3
    rw [hz] at e2 hroom
    rw [e1, e2, e3]
    have hix : Lib.index s.data.toList [47] = i := hix
    rw [hix] at I
    have HI := Lib.hid I; clear I e1 e2 e3 hd hz hix
    have c1 : (0 : Int) ≤ (i : Int) := by omega
    have c2 : (i : Int) ≤ (s.size : Int) := by omega
    have c3 : (0 : Int) ≤ (i : Int) + 1 := by omega
    have c4 : (i : Int) + 1 ≤ (s.size : Int) := by omega
    have c5 : IntKind.i64.wrap ((i : Int) + 1) = (i : Int) + 1 := by rw [IntKind.wrap_i64]; omega
    have c6 : wrap64 ((i : Int) + 1) = (i : Int) + 1 := by unfold wrap64; omega
    go_enter Tryz.func63, Tryz.ntmps63
    go_wp2_with fail
    refine HI.out.mono ?_; rintro e w' ⟨rfl, rfl⟩
    go_wp2_with fail
    go_region
    go_wp2
    go_ret3
    exact ⟨rfl, bdn (Below.refl _ _) _⟩

set_option maxHeartbeats 1000000 in
theorem cut_all (s : ByteArray) (hs : s.size ≤ 281474976710656) (w : World) :
    Calls Tryz.prog 36 #[.string s, .string ⟨#[47]⟩] w fun e w' => e = .returned (.tuple #[.string ⟨(Lib.cut s.data.toList [47]).1.toArray⟩, .string ⟨(Lib.cut s.data.toList [47]).2.1.toArray⟩, .bool (Lib.cut s.data.toList [47]).2.2]) ∧ Below w.heap.size w w' := by
  have H := Lib.hid (cut1 s hs)
  go_enter Tryz.func36, Tryz.ntmps36
  go_wp2_with fail
  refine (H.out _).mono ?_; rintro e w' ⟨rfl, hb⟩
  have HB := Lib.hid hb; clear hb
  go_wp2
  go_ret3
  exact ⟨rfl, HB.out⟩

/-- An error, or nil. -/
def IsErr (v : Value) : Prop := v = .nilIface ∨ ∃ t p, v = .iface t p
/-- The variables of strconv that Atoi reads hold errors. -/
def Err (w : World) : Prop := ∃ a b, w.cell? ⟨1, 0, none⟩ = some a ∧ w.cell? ⟨2, 0, none⟩ = some b ∧ IsErr a ∧ IsErr b
theorem Err.below {w w' : World} (h : Err w) (hb : Below w.heap.size w w') : Err w' := by
  obtain ⟨a, b, ha, hb', h1, h2⟩ := h
  exact ⟨a, b, bk hb _ _ ha (World.block_lt_of_cell? w ⟨_, 0, none⟩ ha), bk hb _ _ hb' (World.block_lt_of_cell? w ⟨_, 0, none⟩ hb'), h1, h2⟩

/-- What Atoi returns. -/
def AtoiOut (s : ByteArray) (w : World) (e : Ending) (w' : World) : Prop := ∃ n ev ok, e = .returned (.tuple #[.int .i64 n, ev]) ∧ (ok = true ∧ ev = .nilIface ∨ ok = false ∧ ∃ t p, ev = .iface t p) ∧ NumA s.data.toList n ok ∧ Below w.heap.size w w'

theorem atoi_all (s : ByteArray) (hs : s.size ≤ 281474976710656) (w : World) (he : Err w) :
    Calls Tryz.prog 37 #[.string s] w (AtoiOut s w) := by
  obtain ⟨a, b, ha, hb, h1, h2⟩ := he
  rcases hq : Lib.atoiAll s.data.toList with v | _ | _
  · refine (atoi_ok s (by omega) v hq w).mono ?_
    rintro e w' ⟨rfl, hb⟩
    refine ⟨v, _, true, rfl, .inl ⟨rfl, rfl⟩, ⟨⟨(Lib.atoiAll_bounds hq).1, (Lib.atoiAll_bounds hq).2⟩, fun m hm e => ⟨rfl, ?_⟩⟩, hb⟩
    rw [e, atoi_itoa m hm] at hq
    injection hq with hq
    exact hq.symm
  · refine (Any.strconv_Atoi_syntax Tryz.laysC172 s hs hq a w ha h1).mono ?_
    rintro e w' ⟨N, rfl, _, _, hb⟩
    refine ⟨_, _, false, rfl, .inr ⟨rfl, _, _, rfl⟩, ⟨⟨by decide, by decide⟩, fun m hm e => ?_⟩, hb⟩
    rw [e, atoi_itoa m hm] at hq
    cases hq
  · refine (Any.strconv_Atoi_range Tryz.laysC172 s hs hq b w hb h2).mono ?_
    rintro e w' ⟨N, rfl, _, _, hb⟩
    refine ⟨_, _, false, rfl, .inr ⟨rfl, _, _, rfl⟩, ⟨⟨(Lib.atoiSat_bounds _).1, (Lib.atoiSat_bounds _).2⟩, fun m hm e => ?_⟩, hb⟩
    rw [e, atoi_itoa m hm] at hq
    cases hq
end Go.Proofs.YtnccllelmbcdcaaGreatDoor

/- ratio.Parse, for every string. Condition: the string fits into memory; the library's two errors lie in their variables. -/
namespace Go.Proofs.YtnccllelmbcdcaaGreatDoor
open Go.RowKit

theorem str_same (s : ByteArray) (l : List UInt8) : (l == s.toList) = decide (s.data.toList = l) := by
  rw [Lib.toList_data]
  by_cases h : s.data.toList = l
  · simp [h]
  · have : ¬ l = s.data.toList := fun e => h e.symm
    simp [h, this]

set_option maxHeartbeats 8000000 in
theorem parse_any (s : ByteArray) (hs : s.size ≤ 281474976710656) (w : World) (hT : Tab w) (hE : Err w) :
    Calls Tryz.prog 10 #[.string s] w (ParseOut s w) := by
  have TT := Lib.hid hT; have EE := Lib.hid hE; clear hT hE
  have hsz := Lib.size_eq s
  have HC := Lib.hid (cut_all s hs)
  rcases cut_slash s.data.toList with ⟨x, y, hl, hx, hcut⟩ | ⟨hx, hcut⟩
  · have F := Lib.hid hx
    have E := Lib.hid hl
    have SX : Hid ((⟨x.toArray⟩ : ByteArray).size ≤ 281474976710656) := Lib.hid (by
      have h1 := congrArg List.length hl
      rw [List.length_append, List.length_cons] at h1
      rw [Lib.size_eq]
      show x.length ≤ _
      omega)
    have SY : Hid ((⟨y.toArray⟩ : ByteArray).size ≤ 281474976710656) := Lib.hid (by
      have h1 := congrArg List.length hl
      rw [List.length_append, List.length_cons] at h1
      rw [Lib.size_eq]
      show y.length ≤ _
      omega)
    rw [hcut] at HC
    clear hl hx hcut hsz hs
    go_enter Tryz.func10, Tryz.ntmps10
    go_wp2_with fail
    refine (HC.out _).mono ?_; rintro e w1 ⟨rfl, hb⟩
    have R1 : Hid (Box w1 w.heap.size 0 0) := Lib.hid (box2 hb w.heap.size (by simp [go_sem]) (by simp [go_sem]) (by simp [go_sem]) (by simp [go_sem]) (by simp) (by simp))
    have W1 : Hid (Below w.heap.size w w1) := Lib.hid (Below.trans (by (repeat' (first | (with_reducible exact Below.refl _ _) | (with_reducible assumption) | (with_reducible refine bdn ?_ _) | (with_reducible refine Below.drew ?_) | (with_reducible refine Below.alloc ?_ ?_ _) | (with_reducible refine Below.setCell ?_ ?_ _) | go_size))) (hb.mono (B' := w.heap.size) (by simp)))
    clear hb HC
    go_wp2_with fail
    refine (atoi_all ⟨x.toArray⟩ SX.out _ (EE.out.below W1.out)).mono ?_; rintro e w2 ⟨n, en, on, rfl, hen, hn, hb⟩
    have Hn := Lib.hid hn; clear hn
    have R2 := Lib.hid (R1.out.below hb)
    have W2 := Lib.hid (W1.out.trans (hb.mono W1.out.size)); clear hb
    go_wp2_with fail
    refine (atoi_all ⟨y.toArray⟩ SY.out _ (EE.out.below W2.out)).mono ?_; rintro e w3 ⟨d, ed, od, rfl, hed, hd, hb⟩
    have Hd := Lib.hid hd; clear hd
    have R3 := Lib.hid (R2.out.below hb)
    have W3 := Lib.hid (W2.out.trans (hb.mono W2.out.size)); clear hb
    rcases hen with ⟨rfl, rfl⟩ | ⟨rfl, tn, pn, rfl⟩
    · rcases hed with ⟨rfl, rfl⟩ | ⟨rfl, td, pd, rfl⟩
      · obtain ⟨t, ht⟩ : ∃ t, (textL n d) = t := ⟨_, rfl⟩
        have HT := Lib.hid ht
        obtain ⟨eq, heq⟩ : ∃ q, (t == s.toList) = q := ⟨_, rfl⟩
        have HQ := Lib.hid (show eq = decide (s.data.toList = t) by rw [← heq]; exact str_same s _)
        have TC := Lib.hid (fun w' (h : Below w.heap.size w w') => (ht ▸ text_any n d Hn.out.1 Hd.out.1 w' (TT.out.below h) : Calls Tryz.prog 9 #[ratV n d] w' fun e w'' => e = .returned (.string ⟨t.toArray⟩) ∧ Below w'.heap.size w' w''))
        clear ht
        go_wp2_with fail
        refine (TC.out _ (W3.out.trans (Below.mono (by (repeat' (first | (with_reducible exact Below.refl _ _) | (with_reducible assumption) | (with_reducible refine bdn ?_ _) | (with_reducible refine Below.drew ?_) | (with_reducible refine Below.alloc ?_ ?_ _) | (with_reducible refine Below.setCell ?_ ?_ _) | go_size))) W3.out.size))).mono ?_; rintro e wt ⟨rfl, hb⟩
        have At : Hid (Box wt w3.heap.size n d) := Lib.hid (box2 hb w3.heap.size (by simp [go_sem]) (by simp [go_sem]) (by simp [go_sem]) (by simp [go_sem]) (by simp) (by simp))
        have G : Below w3.heap.size w3 wt := Below.trans (by (repeat' (first | (with_reducible exact Below.refl _ _) | (with_reducible assumption) | (with_reducible refine bdn ?_ _) | (with_reducible refine Below.drew ?_) | (with_reducible refine Below.alloc ?_ ?_ _) | (with_reducible refine Below.setCell ?_ ?_ _) | go_size))) (hb.mono (B' := w3.heap.size) (by first | (simp; done) | (simp; omega)))
        have Rt := Lib.hid (R3.out.below G)
        have Wt := Lib.hid (W3.out.trans (G.mono W3.out.size))
        clear hb G
        cases eq
        · have hno : s.data.toList ≠ t := fun e => by have := HQ.out; rw [decide_eq_true e] at this; cases this
          have HN := Lib.hid hno; clear hno
          go_wp2_with fail
          refine (noNumber_any _).mono ?_; rintro e wz ⟨rfl, hb⟩
          have Rz := Lib.hid (Rt.out.below hb)
          have Wz := Lib.hid (Wt.out.trans (hb.mono Wt.out.size))
          clear hb
          obtain ⟨ra, rb, rc, rd, re⟩ := Rz.out
          go_wp2
          refine bodyPost_ret (v := .tuple #[ratV 0 1, .bool false]) (by simp [results, Tryz.results10, go_sem, ra, rb]) rfl ⟨_, _, _, rfl, by rw [E.out]; exact isParse_no2 F.out Hn.out Hd.out (.inr (.inr (by rw [HT.out, ← E.out]; exact fun e => HN.out e.symm))), ?_⟩
          exact (Wz.out.setCell (Nat.le_refl _) _).setCell (Nat.le_refl _) _
        · have hyes : s.data.toList = t := of_decide_eq_true HQ.out.symm
          have HY := Lib.hid hyes; clear hyes
          obtain ⟨ra, rb, rc, rd, re⟩ := Rt.out
          obtain ⟨aa, ab, ac, ad, ae⟩ := At.out
          go_wp2
          refine bodyPost_ret (v := .tuple #[ratV n d, .bool true]) (by simp [results, Tryz.results10, go_sem, ra, rb]) rfl ⟨_, _, _, rfl, isParse_yes Hn.out.1 Hd.out.1 (by rw [E.out]; simp) (by rw [HT.out]; exact HY.out.symm), ?_⟩
          exact (Wt.out.setCell (Nat.le_refl _) _).setCell (Nat.le_refl _) _
      · go_wp2_with fail
        refine (noNumber_any _).mono ?_; rintro e wz ⟨rfl, hb⟩
        have G : Below w3.heap.size w3 wz := Below.trans (by (repeat' (first | (with_reducible exact Below.refl _ _) | (with_reducible assumption) | (with_reducible refine bdn ?_ _) | (with_reducible refine Below.drew ?_) | (with_reducible refine Below.alloc ?_ ?_ _) | (with_reducible refine Below.setCell ?_ ?_ _) | go_size))) (hb.mono (B' := w3.heap.size) (by first | (simp; done) | (simp; omega)))
        have Rz := Lib.hid (R3.out.below G)
        have Wz := Lib.hid (W3.out.trans (G.mono W3.out.size))
        clear hb G
        obtain ⟨ra, rb, rc, rd, re⟩ := Rz.out
        go_wp2
        refine bodyPost_ret (v := .tuple #[ratV 0 1, .bool false]) (by simp [results, Tryz.results10, go_sem, ra, rb]) rfl ⟨_, _, _, rfl, by rw [E.out]; exact isParse_no2 F.out Hn.out Hd.out (.inr (.inl rfl)), ?_⟩
        exact (Wz.out.setCell (Nat.le_refl _) _).setCell (Nat.le_refl _) _
    · clear hed
      go_wp2_with fail
      refine (noNumber_any _).mono ?_; rintro e wz ⟨rfl, hb⟩
      have G : Below w3.heap.size w3 wz := Below.trans (by (repeat' (first | (with_reducible exact Below.refl _ _) | (with_reducible assumption) | (with_reducible refine bdn ?_ _) | (with_reducible refine Below.drew ?_) | (with_reducible refine Below.alloc ?_ ?_ _) | (with_reducible refine Below.setCell ?_ ?_ _) | go_size))) (hb.mono (B' := w3.heap.size) (by first | (simp; done) | (simp; omega)))
      have Rz := Lib.hid (R3.out.below G)
      have Wz := Lib.hid (W3.out.trans (G.mono W3.out.size))
      clear hb G
      obtain ⟨ra, rb, rc, rd, re⟩ := Rz.out
      go_wp2
      refine bodyPost_ret (v := .tuple #[ratV 0 1, .bool false]) (by simp [results, Tryz.results10, go_sem, ra, rb]) rfl ⟨_, _, _, rfl, by rw [E.out]; exact isParse_no2 F.out Hn.out Hd.out (.inl rfl), ?_⟩
      exact (Wz.out.setCell (Nat.le_refl _) _).setCell (Nat.le_refl _) _
  · have F := Lib.hid hx
    have SX : Hid (s.size ≤ 281474976710656) := Lib.hid hs
    rw [hcut] at HC
    have hst : (⟨s.data.toList.toArray⟩ : ByteArray) = s := by obtain ⟨⟨l⟩⟩ := s; rfl
    simp only [hst] at HC
    clear hx hcut hsz hs hst
    go_enter Tryz.func10, Tryz.ntmps10
    go_wp2_with fail
    refine (HC.out _).mono ?_; rintro e w1 ⟨rfl, hb⟩
    have R1 : Hid (Box w1 w.heap.size 0 0) := Lib.hid (box2 hb w.heap.size (by simp [go_sem]) (by simp [go_sem]) (by simp [go_sem]) (by simp [go_sem]) (by simp) (by simp))
    have W1 : Hid (Below w.heap.size w w1) := Lib.hid (Below.trans (by (repeat' (first | (with_reducible exact Below.refl _ _) | (with_reducible assumption) | (with_reducible refine bdn ?_ _) | (with_reducible refine Below.drew ?_) | (with_reducible refine Below.alloc ?_ ?_ _) | (with_reducible refine Below.setCell ?_ ?_ _) | go_size))) (hb.mono (B' := w.heap.size) (by simp)))
    clear hb HC
    go_wp2_with fail
    refine (atoi_all s SX.out _ (EE.out.below W1.out)).mono ?_; rintro e w2 ⟨n, en, on, rfl, hen, hn, hb⟩
    have Hn := Lib.hid hn; clear hn
    have R2 := Lib.hid (R1.out.below hb)
    have W2 := Lib.hid (W1.out.trans (hb.mono W1.out.size)); clear hb
    go_wp2_with fail
    refine (atoi_ok ⟨#[49]⟩ (by decide) 1 (by decide +kernel) _).mono ?_; rintro e w3 ⟨rfl, hb⟩
    have R3 := Lib.hid (R2.out.below hb)
    have W3 := Lib.hid (W2.out.trans (hb.mono W2.out.size)); clear hb
    rcases hen with ⟨rfl, rfl⟩ | ⟨rfl, tn, pn, rfl⟩
    · obtain ⟨t, ht⟩ : ∃ t, (textL n 1) = t := ⟨_, rfl⟩
      have HT := Lib.hid ht
      obtain ⟨eq, heq⟩ : ∃ q, (t == s.toList) = q := ⟨_, rfl⟩
      have HQ := Lib.hid (show eq = decide (s.data.toList = t) by rw [← heq]; exact str_same s _)
      have TC := Lib.hid (fun w' (h : Below w.heap.size w w') => (ht ▸ text_any n 1 Hn.out.1 ⟨by decide, by decide⟩ w' (TT.out.below h) : Calls Tryz.prog 9 #[ratV n 1] w' fun e w'' => e = .returned (.string ⟨t.toArray⟩) ∧ Below w'.heap.size w' w''))
      clear ht
      go_wp2_with fail
      refine (TC.out _ (W3.out.trans (Below.mono (by (repeat' (first | (with_reducible exact Below.refl _ _) | (with_reducible assumption) | (with_reducible refine bdn ?_ _) | (with_reducible refine Below.drew ?_) | (with_reducible refine Below.alloc ?_ ?_ _) | (with_reducible refine Below.setCell ?_ ?_ _) | go_size))) W3.out.size))).mono ?_; rintro e wt ⟨rfl, hb⟩
      have At : Hid (Box wt w3.heap.size n 1) := Lib.hid (box2 hb w3.heap.size (by simp [go_sem]) (by simp [go_sem]) (by simp [go_sem]) (by simp [go_sem]) (by simp) (by simp))
      have G : Below w3.heap.size w3 wt := Below.trans (by (repeat' (first | (with_reducible exact Below.refl _ _) | (with_reducible assumption) | (with_reducible refine bdn ?_ _) | (with_reducible refine Below.drew ?_) | (with_reducible refine Below.alloc ?_ ?_ _) | (with_reducible refine Below.setCell ?_ ?_ _) | go_size))) (hb.mono (B' := w3.heap.size) (by first | (simp; done) | (simp; omega)))
      have Rt := Lib.hid (R3.out.below G)
      have Wt := Lib.hid (W3.out.trans (G.mono W3.out.size))
      clear hb G
      cases eq
      · have hno : s.data.toList ≠ t := fun e => by have := HQ.out; rw [decide_eq_true e] at this; cases this
        have HN := Lib.hid hno; clear hno
        go_wp2_with fail
        refine (noNumber_any _).mono ?_; rintro e wz ⟨rfl, hb⟩
        have Rz := Lib.hid (Rt.out.below hb)
        have Wz := Lib.hid (Wt.out.trans (hb.mono Wt.out.size))
        clear hb
        obtain ⟨ra, rb, rc, rd, re⟩ := Rz.out
        go_wp2
        refine bodyPost_ret (v := .tuple #[ratV 0 1, .bool false]) (by simp [results, Tryz.results10, go_sem, ra, rb]) rfl ⟨_, _, _, rfl, isParse_no1 F.out Hn.out (.inr (by rw [HT.out]; exact fun e => HN.out e.symm)), ?_⟩
        exact (Wz.out.setCell (Nat.le_refl _) _).setCell (Nat.le_refl _) _
      · have hyes : s.data.toList = t := of_decide_eq_true HQ.out.symm
        have HY := Lib.hid hyes; clear hyes
        obtain ⟨ra, rb, rc, rd, re⟩ := Rt.out
        obtain ⟨aa, ab, ac, ad, ae⟩ := At.out
        go_wp2
        refine bodyPost_ret (v := .tuple #[ratV n 1, .bool true]) (by simp [results, Tryz.results10, go_sem, ra, rb]) rfl ⟨_, _, _, rfl, isParse_yes Hn.out.1 ⟨by decide, by decide⟩ (by intro e0; have e1 := HY.out; rw [e0] at e1; rw [textL_one, ← e1] at HT; exact itoa_ne _ HT.out) (by rw [HT.out]; exact HY.out.symm), ?_⟩
        exact (Wt.out.setCell (Nat.le_refl _) _).setCell (Nat.le_refl _) _
    · go_wp2_with fail
      refine (noNumber_any _).mono ?_; rintro e wz ⟨rfl, hb⟩
      have G : Below w3.heap.size w3 wz := Below.trans (by (repeat' (first | (with_reducible exact Below.refl _ _) | (with_reducible assumption) | (with_reducible refine bdn ?_ _) | (with_reducible refine Below.drew ?_) | (with_reducible refine Below.alloc ?_ ?_ _) | (with_reducible refine Below.setCell ?_ ?_ _) | go_size))) (hb.mono (B' := w3.heap.size) (by first | (simp; done) | (simp; omega)))
      have Rz := Lib.hid (R3.out.below G)
      have Wz := Lib.hid (W3.out.trans (G.mono W3.out.size))
      clear hb G
      obtain ⟨ra, rb, rc, rd, re⟩ := Rz.out
      go_wp2
      refine bodyPost_ret (v := .tuple #[ratV 0 1, .bool false]) (by simp [results, Tryz.results10, go_sem, ra, rb]) rfl ⟨_, _, _, rfl, isParse_no1 F.out Hn.out (.inl rfl), ?_⟩
      exact (Wz.out.setCell (Nat.le_refl _) _).setCell (Nat.le_refl _) _
end Go.Proofs.YtnccllelmbcdcaaGreatDoor

/- RatioTexts: for a number that is made, a change, and a string: Parse undoes Text, and on six texts Parse returns what the reference returns. Conditions: the arguments are ints, and a string that fits into memory; the listed variables hold the program's own text. -/
namespace Go.Proofs.YtnccllelmbcdcaaGreatDoor
open Go.RowKit

theorem parse_text (t : ByteArray) (a b : Int) (ha : I64 a) (hb : I64 b) (hr : Num.rtB a b = true) (ht : t.data.toList = textL a b) (hs : t.size ≤ 281474976710656) (w : World) (hT : Tab w) (hE : Err w) :
    Calls Tryz.prog 10 #[.string t] w fun e w' => e = .returned (.tuple #[ratV a b, .bool true]) ∧ Below w.heap.size w w' := by
  refine (parse_any t hs w hT hE).mono ?_
  rintro e w' ⟨x, y, ok, rfl, hp, hb'⟩
  obtain ⟨e1, e2, e3⟩ := hp.unique (isParse_yes ha hb (by rw [ht]; exact textL_ne hr) ht.symm)
  rw [e1, e2, e3]
  exact ⟨rfl, hb'⟩

/-- Both Parse return one answer. -/
def TwinOut (a b : Int) (ok : Bool) (w : World) (e : Ending) (w' : World) : Prop := e = .returned (.tuple #[ratV a b, .bool ok]) ∧ Below w.heap.size w w'
theorem parse_twin (t : ByteArray) (hs : t.size ≤ 281474976710656) (w : World) (hT : Tab w) (hE : Err w) :
    ∃ a b ok, Calls Tryz.prog 10 #[.string t] w (TwinOut a b ok w) ∧ ∀ w', Calls Tryz.prog 12 #[.string t] w' (TwinOut a b ok w') := by
  by_cases h : ∃ a b, I64 a ∧ I64 b ∧ Num.rtB a b = true ∧ textL a b = t.data.toList
  · obtain ⟨a, b, ha, hb, hr, ht⟩ := h
    have key : IsParse t.data.toList a b true := ⟨ha, hb, .inl ⟨rfl, hr, ht⟩⟩
    refine ⟨a, b, true, (parse_any t hs w hT hE).mono ?_, fun w' => (refParse_any t hs w').mono ?_⟩
    all_goals
      rintro e w' ⟨x, y, ok, rfl, hp, hb'⟩
      obtain ⟨e1, e2, e3⟩ := hp.unique key
      rw [e1, e2, e3]
      exact ⟨rfl, hb'⟩
  · have key : IsParse t.data.toList 0 1 false := ⟨⟨by decide, by decide⟩, ⟨by decide, by decide⟩, .inr ⟨rfl, rfl, rfl, fun x y hx hy hr e => h ⟨x, y, hx, hy, hr, e⟩⟩⟩
    refine ⟨0, 1, false, (parse_any t hs w hT hE).mono ?_, fun w' => (refParse_any t hs w').mono ?_⟩
    all_goals
      rintro e w' ⟨x, y, ok, rfl, hp, hb'⟩
      obtain ⟨e1, e2, e3⟩ := hp.unique key
      rw [e1, e2, e3]
      exact ⟨rfl, hb'⟩

theorem same_c (n d : Int) (r : Bool) (w : World) :
    Calls Tryz.prog 13 #[ratV n d, .bool r, ratV n d, .bool r] w fun e w' => e = .returned (.bool true) ∧ Below w.heap.size w w' := by
  go_enter Tryz.func13, Tryz.ntmps13
  go_wp2
  go_ret
  exact ⟨by simp, by (repeat' (first | (with_reducible exact Below.refl _ _) | (with_reducible assumption) | (with_reducible refine bdn ?_ _) | (with_reducible refine Below.drew ?_) | (with_reducible refine Below.alloc ?_ ?_ _) | (with_reducible refine Below.setCell ?_ ?_ _) | go_size))⟩

theorem heldOne {w : World} {B : Nat} {a b : Int} (h0 : w.cell? ⟨B, 0, none⟩ = some (.int .i64 a)) (h1 : w.cell? ⟨B, 1, none⟩ = some (.int .i64 b)) (h2 : B < w.heap.size) : Held w [(B, a, b)] := fun x hx => by
  rcases List.mem_cons.1 hx with rfl | hx
  · exact ⟨h0, h1, h2⟩
  · cases hx
theorem rtI {a b : Int} (h : Rt a b) : I64 a ∧ I64 b := by obtain ⟨_, h1, h2, h3, h4⟩ := h; exact ⟨⟨h1, h2⟩, ⟨by omega, h4⟩⟩

def six (a b c d e f : ByteArray) : Nat → ByteArray
  | 0 => a
  | 1 => b
  | 2 => c
  | 3 => d
  | 4 => e
  | _ => f

theorem heldTail {w : World} {x : Nat × Int × Int} {L : List (Nat × Int × Int)} (h : Held w (x :: L)) : Held w L := fun y hy => h y (List.mem_cons_of_mem _ hy)

/-- Six texts lie in a row of memory. -/
def Texts (w : World) (T : Nat) (tx : Nat → ByteArray) : Prop := (∀ i, i < 6 → w.cell? ⟨T, i, none⟩ = some (.string (tx i))) ∧ T < w.heap.size
theorem Texts.below {w w' : World} {T : Nat} {tx : Nat → ByteArray} (h : Texts w T tx) (hb : Below w.heap.size w w') : Texts w' T tx :=
  ⟨fun i hi => bk hb T i (h.1 i hi) h.2, bs hb h.2⟩

theorem textL_size (a b : Int) (ha : I64 a) (hb : I64 b) : (textL a b).length ≤ 43 := by
  have := itoa_len20 a ha; have := itoa_len20 b hb
  unfold textL
  split
  · split <;> simp <;> omega
  · simp

set_option maxRecDepth 1000000 in
set_option maxHeartbeats 16000000 in
theorem textsLaw (p0 p1 p2 q0 q1 : Int) (s : ByteArray) (h0 : I64 p0) (h1 : I64 p1) (hs : s.size ≤ 281474976710656) (w : World) (hT : Tab w) (hM : Max w) (hE : Err w) :
    Calls Tryz.prog 5 #[.agg #[.int .i64 p0, .int .i64 p1, .int .i64 p2], .agg #[.int .i64 q0, .int .i64 q1], .string s] w fun e w' => e = .returned (.bool true) ∧ Below w.heap.size w w' := by
  have HT := Lib.hid hT; have HM := Lib.hid hM; have HE := Lib.hid hE; have HI := Lib.hid (And.intro h0 (And.intro h1 hs)); clear hT hM hE h0 h1 hs
  go_enter Tryz.func5, Tryz.ntmps5
  go_wp2_with fail
  refine (sanity_any _ (HT.out.below (by (repeat' (first | (with_reducible exact Below.refl _ _) | (with_reducible assumption) | (with_reducible refine bdn ?_ _) | (with_reducible refine Below.drew ?_) | (with_reducible refine Below.alloc ?_ ?_ _) | (with_reducible refine Below.setCell ?_ ?_ _) | go_size)))) (HM.out.below (by (repeat' (first | (with_reducible exact Below.refl _ _) | (with_reducible assumption) | (with_reducible refine bdn ?_ _) | (with_reducible refine Below.drew ?_) | (with_reducible refine Below.alloc ?_ ?_ _) | (with_reducible refine Below.setCell ?_ ?_ _) | go_size))))).mono ?_; rintro e w1 ⟨rfl, hb⟩
  have x0 := bk hb w.heap.size 0 (v := .int .i64 p0) (by first | (simp [go_sem]; done) | (simp [go_sem]; omega)) (by first | (simp; done) | (simp; omega))
  have x1 := bk hb w.heap.size 1 (v := .int .i64 p1) (by first | (simp [go_sem]; done) | (simp [go_sem]; omega)) (by first | (simp; done) | (simp; omega))
  have x2 := bk hb w.heap.size 2 (v := .int .i64 p2) (by first | (simp [go_sem]; done) | (simp [go_sem]; omega)) (by first | (simp; done) | (simp; omega))
  have Q1 : Hid (Held w1 [(w.heap.size + 1, q0, q1)]) := Lib.hid (Held.below (heldOne (by simp [go_sem]) (by simp [go_sem]) (by simp)) hb)
  have D1 : Hid (Below w.heap.size w w1) := Lib.hid (Below.trans (by (repeat' (first | (with_reducible exact Below.refl _ _) | (with_reducible assumption) | (with_reducible refine bdn ?_ _) | (with_reducible refine Below.drew ?_) | (with_reducible refine Below.alloc ?_ ?_ _) | (with_reducible refine Below.setCell ?_ ?_ _) | go_size))) (hb.mono (B' := w.heap.size) (by first | (simp; done) | (simp; omega))))
  clear hb
  go_wp2_with fail
  refine (made_any p0 p1 p2 HI.out.1.1 HI.out.1.2 HI.out.2.1.1 HI.out.2.1.2 _).mono ?_; rintro e w2 ⟨a, b, rfl, hR, hb⟩
  have RR := Lib.hid hR; clear hR
  have Q2 := Lib.hid (Q1.out.below hb)
  have D2 := Lib.hid (D1.out.trans (hb.mono D1.out.size))
  clear hb x0 x1 x2
  have P3 := Lib.hid (Held.alloc Q2.out a b 25)
  have D3 := Lib.hid (Below.alloc D2.out (Below.size D2.out) (.cells #[.int .i64 a, .int .i64 b] 25))
  obtain ⟨t, ht⟩ : ∃ t, (⟨(textL a b).toArray⟩ : ByteArray) = t := ⟨_, rfl⟩
  have TL := Lib.hid (show t.data.toList = textL a b by rw [← ht])
  have TS : Hid (0 < t.size ∧ t.size ≤ 43) := Lib.hid (by
    have e := Lib.size_eq t
    rw [TL.out] at e
    have := textL_size a b (rtI RR.out).1 (rtI RR.out).2
    have : (textL a b).length ≠ 0 := by simpa using textL_ne RR.out.1
    omega)
  have TC := Lib.hid (fun w (h : Tab w) => (ht ▸ text_any a b (rtI RR.out).1 (rtI RR.out).2 w h : Calls Tryz.prog 9 #[ratV a b] w fun e w' => e = .returned (.string t) ∧ Below w.heap.size w w'))
  clear ht
  obtain ⟨a0, a1, a2⟩ := P3.out.get (n := w2.heap.size) (a := a) (b := b) (by simp)
  go_wp2_with fail
  refine (TC.out _ (HT.out.below D3.out)).mono ?_; rintro e w4 ⟨rfl, hb⟩
  have Q4 := Lib.hid (P3.out.below hb); have D4 := Lib.hid (D3.out.trans (hb.mono D3.out.size)); clear hb
  clear a0 a1 a2
  go_wp2_with fail
  refine (parse_text t a b (rtI RR.out).1 (rtI RR.out).2 RR.out.1 TL.out (by have := TS.out; omega) _ (HT.out.below D4.out) (HE.out.below D4.out)).mono ?_; rintro e w5 ⟨rfl, hb⟩
  have Q5 := Lib.hid (Q4.out.below hb); have D5 := Lib.hid (D4.out.trans (hb.mono D4.out.size)); clear hb
  have P6 := Lib.hid (Held.alloc Q5.out a b 25)
  have D6 := Lib.hid (Below.alloc D5.out (Below.size D5.out) (.cells #[.int .i64 a, .int .i64 b] 25))
  have n0 : ((t.size : Int) == 0) = false := beq_eq_false_iff_ne.2 (by have := TS.out; omega)
  obtain ⟨c0, c1, c2⟩ := P6.out.get (n := w.heap.size + 1) (a := q0) (b := q1) (by simp)
  go_wp2_with fail
  refine (mod_any q0 (t.size : Int) (by have := TS.out; omega) (by have := TS.out; omega) _).mono ?_; rintro e W ⟨rfl, hW⟩
  rw [← hW] at P6 D6 c0 c1 c2
  clear hW
  obtain ⟨k, hk⟩ : ∃ k : Nat, q0 % (t.size : Int) = k := ⟨(q0 % (t.size : Int)).toNat, by
    have := TS.out
    have := Int.emod_nonneg q0 (b := (t.size : Int)) (by omega)
    omega⟩
  have hkt : k < t.size := by
    have := TS.out
    have := Int.emod_lt_of_pos q0 (b := (t.size : Int)) (by omega)
    omega
  rw [hk]
  have HK := Lib.hid hkt
  have zk0 : (0 : Int) ≤ (k : Int) := by omega
  have zk1 : (k : Int) ≤ (t.size : Int) := by omega
  have zk2 : (0 : Int) ≤ (k : Int) + 1 := by omega
  have zk3 : (k : Int) + 1 ≤ (t.size : Int) := by omega
  have zk4 : IntKind.i64.wrap ((k : Int) + 1) = (k : Int) + 1 := by have := TS.out; rw [IntKind.wrap_i64]; omega
  have zk5 : wrap64 ((k : Int) + 1) = (k : Int) + 1 := by have := TS.out; unfold wrap64; omega
  obtain ⟨r, hr⟩ : ∃ r : UInt8, IntKind.u8.wrap q1 = ((r.toNat : Nat) : Int) := ⟨UInt8.ofNat (q1 % 256).toNat, by rw [IntKind.wrap_u8, UInt8.toNat_ofNat']; omega⟩
  obtain ⟨ri, hri⟩ : ∃ ri : Int, ((r.toNat : Nat) : Int) = ri := ⟨_, rfl⟩
  rw [hri] at hr
  have kc : ∀ (V : World) (n : Nat), V.cell? ⟨n, 0, none⟩ = some (.int .u8 ri) → (convert 35 9 (.slice (some ⟨n, 0, none⟩) 1 1)).run Tryz.prog V = .ok (.string ⟨#[r]⟩) V := fun V n h =>
    run_convert_bytes_back _ _ _ _ ⟨n, 0, none⟩ 1 [r] Tryz.underlying35 Tryz.underlying5 Tryz.underlying9 (fun j hj => by
      have : j = 0 := by simp at hj; omega
      subst this; simp [Addr.add, h, hri])
  obtain ⟨x, hx⟩ : ∃ x, t.extract 0 k = x := ⟨_, rfl⟩
  obtain ⟨y, hy⟩ : ∃ y, t.extract (k + 1) t.size = y := ⟨_, rfl⟩
  have sx : x.size ≤ 43 := by have := TS.out; rw [← hx, ByteArray.size_extract]; omega
  have sy : y.size ≤ 43 := by have := TS.out; rw [← hy, ByteArray.size_extract]; omega
  have st : t.size ≤ 43 := TS.out.2
  obtain ⟨u0, hu0⟩ : ∃ u, x ++ (⟨#[r]⟩ : ByteArray) = u := ⟨_, rfl⟩
  have su0 : u0.size ≤ 50 := by rw [← hu0, ByteArray.size_append']; have : (⟨#[r]⟩ : ByteArray).size = 1 := rfl; omega
  obtain ⟨u1, hu1⟩ : ∃ u, u0 ++ y = u := ⟨_, rfl⟩
  have su1 : u1.size ≤ 100 := by rw [← hu1, ByteArray.size_append']; omega
  obtain ⟨u2, hu2⟩ : ∃ u, x ++ y = u := ⟨_, rfl⟩
  have su2 : u2.size ≤ 100 := by rw [← hu2, ByteArray.size_append']; omega
  obtain ⟨u3, hu3⟩ : ∃ u, (⟨#[48]⟩ : ByteArray) ++ t = u := ⟨_, rfl⟩
  have su3 : u3.size ≤ 100 := by rw [← hu3, ByteArray.size_append']; have : (⟨#[48]⟩ : ByteArray).size = 1 := rfl; omega
  obtain ⟨u4, hu4⟩ : ∃ u, t ++ (⟨#[47, 49]⟩ : ByteArray) = u := ⟨_, rfl⟩
  have su4 : u4.size ≤ 100 := by rw [← hu4, ByteArray.size_append']; have : (⟨#[47, 49]⟩ : ByteArray).size = 2 := rfl; omega
  obtain ⟨u5, hu5⟩ : ∃ u, (⟨#[43]⟩ : ByteArray) ++ t = u := ⟨_, rfl⟩
  have su5 : u5.size ≤ 100 := by rw [← hu5, ByteArray.size_append']; have : (⟨#[43]⟩ : ByteArray).size = 1 := rfl; omega
  have k0 : ∀ V, (Op.stringOp .add x ⟨#[r]⟩).run Tryz.prog V = .ok (.string u0) V := fun V => by rw [← hu0]; exact run_string_add_sum V _ _ (by rw [← ByteArray.size_append', hu0]; omega)
  have k1 : ∀ V, (Op.stringOp .add u0 y).run Tryz.prog V = .ok (.string u1) V := fun V => by rw [← hu1]; exact run_string_add_sum V _ _ (by omega)
  have k2 : ∀ V, (Op.stringOp .add x y).run Tryz.prog V = .ok (.string u2) V := fun V => by rw [← hu2]; exact run_string_add_sum V _ _ (by omega)
  have k3 : ∀ V, (Op.stringOp .add ⟨#[48]⟩ t).run Tryz.prog V = .ok (.string u3) V := fun V => by rw [← hu3]; exact run_string_add_sum V _ _ (by rw [← ByteArray.size_append', hu3]; omega)
  have k4 : ∀ V, (Op.stringOp .add t ⟨#[47, 49]⟩).run Tryz.prog V = .ok (.string u4) V := fun V => by rw [← hu4]; exact run_string_add_sum V _ _ (by rw [← ByteArray.size_append', hu4]; omega)
  have k5 : ∀ V, (Op.stringOp .add ⟨#[43]⟩ t).run Tryz.prog V = .ok (.string u5) V := fun V => by rw [← hu5]; exact run_string_add_sum V _ _ (by rw [← ByteArray.size_append', hu5]; omega)
  have SZ : Hid (∀ i, (six s u1 u2 u3 u4 u5 i).size ≤ 281474976710656) := Lib.hid (fun i => by
    have := HI.out.2.2
    unfold six
    split <;> omega)
  clear hu0 hu1 hu2 hu3 hu4 hu5 su0 su1 su2 su3 su4 su5 sx sy st hri hkt hk
  have hTn : ¬ w.heap.size + 1 = W.heap.size := by omega
  go_upto_region 8 with fail
  go_cut [13] (fun s1 wx => ∃ T : Nat, s1 = .pointer (some ⟨T, 0, none⟩) ∧ Hid (Texts wx T (six s u1 u2 u3 u4 u5)) ∧ Hid (Below W.heap.size W wx))
  case first =>
    go_region
    all_goals
      go_wp2_with fail
      go_meet
      refine ⟨_, rfl, Lib.hid ⟨fun i hi => ?_, ?_⟩, Lib.hid ?_⟩
      · obtain rfl | rfl | rfl | rfl | rfl | rfl : i = 0 ∨ i = 1 ∨ i = 2 ∨ i = 3 ∨ i = 4 ∨ i = 5 := by omega
        all_goals (simp [six, go_sem]; done)
      · first | (simp; done) | (simp; omega)
      · (repeat' (first | (with_reducible exact Below.refl _ _) | (with_reducible assumption) | (with_reducible refine bdn ?_ _) | (with_reducible refine Below.drew ?_) | (with_reducible refine Below.alloc ?_ ?_ _) | (with_reducible refine Below.setCell ?_ ?_ _) | go_size))
  case rest =>
    obtain ⟨wv, hwv⟩ : ∃ x, x = wc := ⟨_, rfl⟩; subst hwv
    obtain ⟨T, rfl, hX, hB⟩ := hcut
    have P8 := Lib.hid (P6.out.below hB.out); have D8 := Lib.hid (D6.out.trans (hB.out.mono D6.out.size))
    clear k0 k1 k2 k3 k4 k5 kc zk0 zk1 zk2 zk3 zk4 zk5 c0 c1 c2 hr hx hy hB P6 D6 hTn
    go_wp2
    go_loopw [14] (fun ix wr => ∃ j : Nat, j ≤ 6 ∧ ix = .int .i64 j ∧ Hid (Texts wr T (six s u1 u2 u3 u4 u5)) ∧ Hid (Held wr [(w5.heap.size, a, b), (w2.heap.size, a, b), (w.heap.size + 1, q0, q1)]) ∧ Hid (Below w.heap.size w wr)) (fun ix _ => 6 - (intOf ix).toNat)
    case atStart => exact ⟨0, by decide, rfl, hX, P8, D8⟩
    case round =>
      clear hX P8 D8
      obtain ⟨j, hj, rfl, X, P, D⟩ := hrel
      by_cases hlt : j < 6
      · have hj0 : (0 : Int) ≤ (j : Int) := by omega
        have hj1 : (j : Int) < 6 := by omega
        have zj : IntKind.i64.wrap ((j : Int) + 1) = (j : Int) + 1 := by rw [IntKind.wrap_i64]; omega
        obtain ⟨tj, htj⟩ : ∃ tj, six s u1 u2 u3 u4 u5 j = tj := ⟨_, rfl⟩
        have HJ := Lib.hid htj
        have xc := X.out.1 j hlt
        rw [htj] at xc
        obtain ⟨pa, pb, ok, ca, cb⟩ := parse_twin tj (by rw [← htj]; exact SZ.out j) wr (HT.out.below D.out) (HE.out.below D.out)
        have CA := Lib.hid ca; have CB := Lib.hid cb
        clear ca cb htj
        go_wp2_with fail
        refine CA.out.mono ?_; rintro e wa ⟨rfl, hb⟩
        have Xa := Lib.hid ((X.out.below hb).below (Below.alloc (Below.refl _ _) (Nat.le_refl _) (.cells #[.int .i64 pa, .int .i64 pb] 25)))
        have Pa := Lib.hid (Held.alloc (P.out.below hb) pa pb 25)
        have Da := Lib.hid (Below.alloc (D.out.trans (hb.mono D.out.size)) (D.out.trans (hb.mono D.out.size)).size (.cells #[.int .i64 pa, .int .i64 pb] 25))
        clear hb xc
        have xc := Xa.out.1 j hlt
        rw [HJ.out] at xc
        go_wp2_with fail
        refine (CB.out _).mono ?_; rintro e wb ⟨rfl, hb⟩
        have Xb := Lib.hid ((Xa.out.below hb).below (Below.alloc (Below.refl _ _) (Nat.le_refl _) (.cells #[.int .i64 pa, .int .i64 pb] 25)))
        have Pb := Lib.hid (Held.alloc (Pa.out.below hb) pa pb 25)
        have Db := Lib.hid (Below.alloc (Da.out.trans (hb.mono Da.out.size)) (Da.out.trans (hb.mono Da.out.size)).size (.cells #[.int .i64 pa, .int .i64 pb] 25))
        clear hb xc
        obtain ⟨a0, a1, a2⟩ := Pb.out.get (n := wa.heap.size) (a := pa) (b := pb) (by simp)
        obtain ⟨b0, b1, b2⟩ := Pb.out.get (n := wb.heap.size) (a := pa) (b := pb) (by simp)
        go_wp2_with fail
        refine (same_c pa pb ok _).mono ?_; rintro e wd ⟨rfl, hb⟩
        have Xd := Lib.hid (Xb.out.below hb)
        have Pd := Lib.hid (heldTail (heldTail (Pb.out.below hb)))
        have Dd := Lib.hid (Db.out.trans (hb.mono Db.out.size))
        clear hb a0 a1 a2 b0 b1 b2
        go_wp2
        case roundEnd => exact ⟨⟨j + 1, by omega, by simp, Xd, Pd, Dd⟩, by simp [intOf]; omega⟩
      · have hj6 : j = 6 := by omega
        subst hj6
        obtain ⟨a0, a1, a2⟩ := P.out.get (n := w5.heap.size) (a := a) (b := b) (by simp)
        obtain ⟨b0, b1, b2⟩ := P.out.get (n := w2.heap.size) (a := a) (b := b) (by simp)
        go_wp2
        go_ret
        exact ⟨by simp, D.out⟩
end Go.Proofs.YtnccllelmbcdcaaGreatDoor

