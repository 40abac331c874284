/-
  The walks of ratio: comparing fractions.
-/
import Derived.Test.YtnccllelmbcdcaaGreatDoorWf
namespace Go.Proofs.YtnccllelmbcdcaaGreatDoor
open Go.RowKit

def Cells2 (w : World) (n : Nat) (a b : Value) : Prop := w.cell? ⟨n, 0, none⟩ = some a ∧ w.cell? ⟨n, 1, none⟩ = some b ∧ n < w.heap.size

set_option maxHeartbeats 8000000 in
theorem cmpMag_raw (s t : Bool) (an ad bn bd X Y : Int)
    (c1 : ∀ w, Calls Tryz.prog 68 #[.int .u64 an, .int .u64 bd] w fun e w' => e = .returned (wideV X) ∧ w' = w.alloc (.cells #[.int .u64 (Num.hi X), .int .u64 (Num.lo X)] 62))
    (c2 : ∀ w, Calls Tryz.prog 68 #[.int .u64 bn, .int .u64 ad] w fun e w' => e = .returned (wideV Y) ∧ w' = w.alloc (.cells #[.int .u64 (Num.hi Y), .int .u64 (Num.lo Y)] 62)) (v : Int)
    (hv : (X = Y ∧ v = 0) ∨ (X < Y ∧ v = -1) ∨ (Y < X ∧ v = 1)) (w : World) :
    Calls Tryz.prog 72 #[fracV s an ad, fracV t bn bd] w fun e w' => e = .returned (.int .i64 v) ∧ Below w.heap.size w w' := by
  have HV := Lib.hid hv; have C1 := Lib.hid c1; have C2 := Lib.hid c2
  clear hv c1 c2
  go_enter Tryz.func72, Tryz.ntmps72
  go_upto_region 1 with fail
  go_cut [5, 6] (fun s5 s6 wx => ∃ g k : Nat, s5 = .pointer (some ⟨g, 0, none⟩) ∧ s6 = .pointer (some ⟨k, 0, none⟩) ∧ Cells2 wx g (.int .u64 (Num.hi X)) (.int .u64 (Num.lo X)) ∧ Cells2 wx k (.int .u64 (Num.hi Y)) (.int .u64 (Num.lo Y)) ∧ Below w.heap.size w wx)
  case first =>
    go_region_held3 (fun w' => w'.cell? ⟨w.heap.size, 1, none⟩ = some (.int .u64 an) ∧ w'.cell? ⟨w.heap.size, 2, none⟩ = some (.int .u64 ad) ∧ w'.cell? ⟨w.heap.size + 1, 1, none⟩ = some (.int .u64 bn) ∧ w'.cell? ⟨w.heap.size + 1, 2, none⟩ = some (.int .u64 bd)) (simp [go_sem, World.cell?_alloc_past])
      (first
        | (go_at_call_of 68 (Value.int IntKind.u64 an); refine (C1.out _).mono ?_; rintro e w' ⟨rfl, rfl⟩)
        | (go_at_call_of 68 (Value.int IntKind.u64 bn); refine (C2.out _).mono ?_; rintro e w' ⟨rfl, rfl⟩))
    all_goals
      go_wp2_with fail
      go_meet
      refine ⟨_, _, rfl, rfl, ?_, ?_, ?_⟩
    all_goals first | (simp [Cells2, go_sem]; done) | (repeat' (first | (with_reducible exact Below.refl _ _) | (with_reducible assumption) | (with_reducible refine bdn ?_ _) | (with_reducible refine Below.drew ?_) | (with_reducible refine Below.alloc ?_ ?_ _) | (with_reducible refine Below.setCell ?_ ?_ _) | go_size))
  case rest =>
    obtain ⟨g, k, rfl, rfl, ⟨g1, g2, g3⟩, ⟨k1, k2, k3⟩, hb⟩ := hcut
    have HB := Lib.hid hb; clear hb
    rcases HV.out with ⟨rfl, rfl⟩ | ⟨hlt, rfl⟩ | ⟨hlt, rfl⟩
    · go_wp2
      go_ret
      exact ⟨rfl, HB.out⟩
    · have HL := Lib.hid hlt; clear hlt
      rcases wide_ne (Int.ne_of_lt HL.out) with n1 | ⟨n1, n2⟩
      all_goals
        go_wp2_with fail
        refine (less_yes X Y HL.out _).mono ?_; rintro e w1 ⟨rfl, hb1⟩
        have HB1 := Lib.hid (HB.out.trans (hb1.mono HB.out.size)); clear hb1
        go_wp2
        go_ret
        exact ⟨rfl, HB1.out⟩
    · have HL := Lib.hid hlt; clear hlt
      rcases wide_ne (Int.ne_of_gt HL.out) with n1 | ⟨n1, n2⟩
      all_goals
        go_wp2_with fail
        refine (less_no X Y (Int.not_lt.2 (Int.le_of_lt HL.out)) _).mono ?_; rintro e w1 ⟨rfl, hb1⟩
        have HB1 := Lib.hid (HB.out.trans (hb1.mono HB.out.size)); clear hb1
        go_wp2
        go_ret
        exact ⟨rfl, HB1.out⟩

/-- The sign of a comparison. -/
def Num.cmpI (x y : Int) : Int := if x = y then 0 else if x < y then -1 else 1
theorem Num.cmpI_spec (x y : Int) : (x = y ∧ Num.cmpI x y = 0) ∨ (x < y ∧ Num.cmpI x y = -1) ∨ (y < x ∧ Num.cmpI x y = 1) := by
  unfold Num.cmpI
  rcases Int.lt_trichotomy x y with h | h | h
  · right; left; exact ⟨h, by rw [if_neg (by omega), if_pos h]⟩
  · left; exact ⟨h, by rw [if_pos h]⟩
  · right; right; exact ⟨h, by rw [if_neg (by omega), if_neg (by omega)]⟩

theorem cmpMag_any (s t : Bool) (an ad bn bd : Int) (h1 : 0 ≤ an) (h2 : an < 18446744073709551616) (h3 : 0 ≤ ad) (h4 : ad < 18446744073709551616) (h5 : 0 ≤ bn) (h6 : bn < 18446744073709551616) (h7 : 0 ≤ bd) (h8 : bd < 18446744073709551616) (w : World) :
    Calls Tryz.prog 72 #[fracV s an ad, fracV t bn bd] w fun e w' => e = .returned (.int .i64 (Num.cmpI (an * bd) (bn * ad))) ∧ Below w.heap.size w w' :=
  cmpMag_raw s t an ad bn bd _ _ (fun w => multiply_any an bd h1 h2 h7 h8 w) (fun w => multiply_any bn ad h5 h6 h3 h4 w) _ (Num.cmpI_spec _ _) w
end Go.Proofs.YtnccllelmbcdcaaGreatDoor
