/- RatioFloor: the floor of every number that is made is not greater than it, and less than 1 below it. Conditions: the arguments are ints; the listed variables hold the program's own text. -/
import Derived.Test.YtokmfgpbfhfafaaDoorSan
import Derived.Test.YtokmfgpbfhfafaaDoorOrd
import Derived.Test.YtokmfgpbfhfafaaDoorRo
import Derived.Deep.DeepCutAuto
namespace Go.Proofs.YtokmfgpbfhfafaaDoor
open Go.RowKit

theorem Rt.i {a b : Int} (h : Rt a b) : I64 a ∧ I64 b := ⟨⟨h.2.1, h.2.2.1⟩, ⟨by have := h.2.2.2.1; omega, h.2.2.2.2⟩⟩

set_option maxRecDepth 100000 in
set_option maxHeartbeats 4000000 in
theorem floorLaw (x y z : Int) (hx : I64 x) (hy : I64 y) (w : World) (hT : Tab w) (hM : Max w) :
    Calls Tryd.prog 6 #[.agg #[.int .i64 x, .int .i64 y, .int .i64 z]] w fun e w' => e = .returned (.bool true) ∧ Below w.heap.size w w' := by
  have HT := Lib.hid hT; have HM := Lib.hid hM; have HX := Lib.hid (And.intro hx hy); clear hT hM hx hy
  go_enter Tryd.func6, Tryd.ntmps6
  go_wp2_with fail
  refine (sanity_any _ (HT.out.below (by (repeat' (first | (with_reducible exact Below.refl _ _) | (with_reducible assumption) | (with_reducible refine bdn ?_ _) | (with_reducible refine Below.drew ?_) | (with_reducible refine Below.alloc ?_ ?_ _) | (with_reducible refine Below.setCell ?_ ?_ _) | go_size)))) (HM.out.below (by (repeat' (first | (with_reducible exact Below.refl _ _) | (with_reducible assumption) | (with_reducible refine bdn ?_ _) | (with_reducible refine Below.drew ?_) | (with_reducible refine Below.alloc ?_ ?_ _) | (with_reducible refine Below.setCell ?_ ?_ _) | go_size))))).mono ?_; rintro e w1 ⟨rfl, hb⟩
  have p0 := bk hb w.heap.size 0 (v := .int .i64 x) (by simp [go_sem]) (by simp)
  have p1 := bk hb w.heap.size 1 (v := .int .i64 y) (by simp [go_sem]) (by simp)
  have p2 := bk hb w.heap.size 2 (v := .int .i64 z) (by simp [go_sem]) (by simp)
  have D1 : Hid (Below w.heap.size w w1) := Lib.hid (Below.trans (by (repeat' (first | (with_reducible exact Below.refl _ _) | (with_reducible assumption) | (with_reducible refine bdn ?_ _) | (with_reducible refine Below.drew ?_) | (with_reducible refine Below.alloc ?_ ?_ _) | (with_reducible refine Below.setCell ?_ ?_ _) | go_size))) (hb.mono (B' := w.heap.size) (by simp)))
  clear hb
  go_wp2_with fail
  refine (made_any x y z HX.out.1.1 HX.out.1.2 HX.out.2.1 HX.out.2.2 _).mono ?_; rintro e w2 ⟨an, ad, rfl, hR, hb⟩
  have D2 := Lib.hid (D1.out.trans (hb.mono D1.out.size))
  have HR := Lib.hid hR
  clear hb p0 p1 p2 hR
  obtain ⟨f, hf⟩ : ∃ f, Num.flr an ad = f := ⟨_, rfl⟩
  have FA := Num.flr_all HR.out.1 HR.out.2.1 HR.out.2.2.1 HR.out.2.2.2.2
  rw [hf] at FA
  have FI : I64 f := ⟨FA.2.2.2.2.1, FA.2.2.2.2.2⟩
  have HF := Lib.hid hf; clear hf
  have HA := Lib.hid FA; clear FA
  have FI := Lib.hid FI
  have P3 := Lib.hid (Held.alloc (Held.nil w2) an ad 28)
  have B3 := Lib.hid (Below.alloc (D2.out) (Below.size (D2.out)) (.cells #[.int .i64 an, .int .i64 ad] 28))
  go_wp2_with fail
  refine (floor_c an ad f HR.out.i.1 HR.out.i.2 HF.out _).mono ?_; rintro e w3 ⟨rfl, hb⟩
  have Q3 := Lib.hid (P3.out.below hb)
  have D3 := Lib.hid (B3.out.trans (hb.mono B3.out.size))
  clear hb
  obtain ⟨rn, hrn⟩ : ∃ r, Num.resN (an * 1 - f * ad) (ad * 1) = r := ⟨_, rfl⟩
  obtain ⟨rd, hrd⟩ : ∃ r, Num.resD (an * 1 - f * ad) (ad * 1) = r := ⟨_, rfl⟩
  have hS := Lib.hid (show (Num.opN (Num.rtB an ad && Num.rtB f 1) (an * 1 - f * ad) (ad * 1), Num.opD (Num.rtB an ad && Num.rtB f 1) (an * 1 - f * ad) (ad * 1), Num.opB (Num.rtB an ad && Num.rtB f 1) (an * 1 - f * ad) (ad * 1)) = (rn, rd, true) by
    rw [HR.out.1, Num.rt_of f]; unfold Num.opN Num.opD Num.opB; rw [HA.out.2.1, ← hrn, ← hrd]; rfl)
  have HL := Lib.hid (show 0 ≤ rn ∧ rn < rd by rw [← hrn, ← hrd]; exact ⟨HA.out.2.2.1, HA.out.2.2.2.1⟩)
  clear hrn hrd
  obtain ⟨x0, x1, x2⟩ := Q3.out.get (n := w2.heap.size) (a := an) (b := ad) (by simp)
  have s3 := D3.out.size
  have n3 : ¬ w2.heap.size = w3.heap.size := by omega
  have m3 : ¬ w3.heap.size = w2.heap.size := by omega
  go_upto_region 4 with fail
  go_cut [6, 7] (fun s6 s7 wx => ∃ B : Nat, s6 = .pointer (some ⟨B, 0, none⟩) ∧ s7 = .bool true ∧ wx.cell? ⟨B, 0, none⟩ = some (.int .i64 rn) ∧ wx.cell? ⟨B, 1, none⟩ = some (.int .i64 rd) ∧ wx.cell? ⟨w2.heap.size, 0, none⟩ = some (.int .i64 an) ∧ wx.cell? ⟨w2.heap.size, 1, none⟩ = some (.int .i64 ad) ∧ B < wx.heap.size ∧ w2.heap.size < wx.heap.size ∧ Hid (Below w.heap.size w wx))
  case first =>
    go_region_held3 (fun w' => w'.cell? ⟨w2.heap.size, 0, none⟩ = some (.int .i64 an) ∧ w'.cell? ⟨w2.heap.size, 1, none⟩ = some (.int .i64 ad)) (simp [*, go_sem, World.cell?_alloc_past])
      (first
        | (go_at_call 12; refine (of_any _ _).mono ?_; rintro e w4 ⟨rfl, hb⟩; have y0 := bk hb w2.heap.size 0 (v := .int .i64 an) (by first | assumption | (simp [*, go_sem]; done)) (by first | omega | (simp; omega)); have y1 := bk hb w2.heap.size 1 (v := .int .i64 ad) (by first | assumption | (simp [*, go_sem]; done)) (by first | omega | (simp; omega)); have y2 := bs (n := w2.heap.size) hb (by first | omega | (simp; omega)); have D4 : Hid (Below w.heap.size w w4) := Lib.hid (Below.trans (Below.trans D3.out (by (repeat' (first | (with_reducible exact Below.refl _ _) | (with_reducible assumption) | (with_reducible refine bdn ?_ _) | (with_reducible refine Below.drew ?_) | (with_reducible refine Below.alloc ?_ ?_ _) | (with_reducible refine Below.setCell ?_ ?_ _) | go_size)))) (hb.mono (B' := w.heap.size) (by first | omega | (simp; omega)))); have s4 := D4.out.size; have n4 : ¬ w2.heap.size = w4.heap.size := (by omega); have m4 : ¬ w4.heap.size = w2.heap.size := (by omega); have ha := fun (i : Nat) (h : w3.heap.size < _) => hb.cell (p := ⟨w3.heap.size, i, none⟩) h; have haf := fun (i : Nat) (h : w3.heap.size < _) => hb.frozen (p := ⟨w3.heap.size, i, none⟩) h; have g4 := hb.size; try simp at g4; try replace g4 := Nat.lt_of_succ_le g4;  clear hb x0 x1 x2; have x0 := y0; have x1 := y1; have x2 := y2; clear y0 y1 y2)
        | (go_at_call 18; refine (sub_c an ad f 1 rn rd true HR.out.i.1 HR.out.i.2 FI.out (i64_of (by decide) (by decide)) hS.out _).mono ?_; rintro e w5 ⟨rfl, hb⟩; have y0 := bk hb w2.heap.size 0 (v := .int .i64 an) (by first | assumption | (simp [*, go_sem]; done)) (by first | omega | (simp; omega)); have y1 := bk hb w2.heap.size 1 (v := .int .i64 ad) (by first | assumption | (simp [*, go_sem]; done)) (by first | omega | (simp; omega)); have y2 := bs (n := w2.heap.size) hb (by first | omega | (simp; omega)); have D5 : Hid (Below w.heap.size w w5) := Lib.hid (Below.trans (Below.trans D4.out (by (repeat' (first | (with_reducible exact Below.refl _ _) | (with_reducible assumption) | (with_reducible refine bdn ?_ _) | (with_reducible refine Below.drew ?_) | (with_reducible refine Below.alloc ?_ ?_ _) | (with_reducible refine Below.setCell ?_ ?_ _) | go_size)))) (hb.mono (B' := w.heap.size) (by first | omega | (simp; omega)))); have s5 := D5.out.size; have n5 : ¬ w2.heap.size = w5.heap.size := (by omega); have m5 : ¬ w5.heap.size = w2.heap.size := (by omega); have hc := fun (i : Nat) (h : w3.heap.size < _) => hb.cell (p := ⟨w3.heap.size, i, none⟩) h; have hcf := fun (i : Nat) (h : w3.heap.size < _) => hb.frozen (p := ⟨w3.heap.size, i, none⟩) h; have g5 := hb.size; try simp at g5; try replace g5 := Nat.lt_of_succ_le g5;  have hk := fun (i : Nat) (h : w4.heap.size < _) => hb.cell (p := ⟨w4.heap.size, i, none⟩) h; have hkf := fun (i : Nat) (h : w4.heap.size < _) => hb.frozen (p := ⟨w4.heap.size, i, none⟩) h; clear hb x0 x1 x2; have x0 := y0; have x1 := y1; have x2 := y2; clear y0 y1 y2))
    all_goals
      go_wp2_with fail
      go_meet
      refine ⟨_, rfl, rfl, ?_, ?_, ?_, ?_, ?_, ?_, Lib.hid ?_⟩
      all_goals first | assumption | (simp [*, go_sem]; done) | omega | (simp; omega) | (repeat' (first | exact D5.out | (with_reducible refine bdn ?_ _) | (with_reducible refine Below.drew ?_) | (with_reducible refine Below.alloc ?_ ?_ _) | (with_reducible refine Below.setCell ?_ ?_ _) | assumption | omega | (simp; omega)))
  case rest =>
    rename_i wc
    obtain ⟨B, rfl, rfl, b0, b1, x0, x1, b2, x2, D6⟩ := hcut
    obtain ⟨v, hv⟩ : ∃ v, Num.cmpV f 1 an ad = v := ⟨_, rfl⟩
    have v0 : v ≤ 0 := by rw [← hv]; exact HA.out.1
    have HV := Lib.hid hv; clear hv
    have r0 : 0 ≤ rn := HL.out.1
    have r1 : rn < rd := HL.out.2
    go_wp2_with fail
    go_region_held3 (fun w' => w'.cell? ⟨w2.heap.size, 0, none⟩ = some (.int .i64 an) ∧ w'.cell? ⟨w2.heap.size, 1, none⟩ = some (.int .i64 ad) ∧ w'.cell? ⟨B, 0, none⟩ = some (.int .i64 rn) ∧ w'.cell? ⟨B, 1, none⟩ = some (.int .i64 rd)) (first | (simp [*, go_sem]; done) | exact ⟨x0, x1, b0, b1⟩)
      (first
        | (go_at_call 12; refine (of_any _ _).mono ?_; rintro e w6 ⟨rfl, hb⟩; replace hb : Below wc.heap.size wc w6 := ⟨hb.os, hb.tape, hb.output, hb.size, hb.block⟩; have y0 := bk hb w2.heap.size 0 x0 x2; have y1 := bk hb w2.heap.size 1 x1 x2; have y2 := bs (n := w2.heap.size) hb x2; have c0 := bk hb B 0 b0 b2; have c1 := bk hb B 1 b1 b2; have c2 := bs (n := B) hb b2; have D7 := Lib.hid (D6.out.trans (hb.mono D6.out.size)); clear hb x0 x1 x2 b0 b1 b2)
        | (go_at_call 19; refine (cmp_c f 1 an ad v FI.out (i64_of (by decide) (by decide)) HR.out.i.1 HR.out.i.2 HV.out _).mono ?_; rintro e w7 ⟨rfl, hb⟩; replace hb : Below w6.heap.size w6 w7 := ⟨hb.os, hb.tape, hb.output, hb.size, hb.block⟩; have x0 := bk hb w2.heap.size 0 y0 y2; have x1 := bk hb w2.heap.size 1 y1 y2; have b0 := bk hb B 0 c0 c2; have b1 := bk hb B 1 c1 c2; have D8 := Lib.hid (D7.out.trans (hb.mono D7.out.size)); clear hb y0 y1 y2 c0 c1 c2))
    all_goals
      go_wp2
      go_ret
      exact ⟨rfl, by repeat' (first | exact D8.out | refine bdn ?_ _ | refine Below.drew ?_)⟩
end Go.Proofs.YtokmfgpbfhfafaaDoor
