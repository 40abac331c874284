/- RatioOrder: for every three numbers that are made, the order is an order, agrees with the sign of the difference, and is kept by sums. Conditions: the arguments are ints; the listed variables hold the program's own text. -/
import Derived.Test.YtokmfgpbfhfafaaDoorLf
namespace Go.Proofs.YtokmfgpbfhfafaaDoor
open Go.RowKit

theorem Num.cmpI_bnd (x y : Int) : -1 ≤ Num.cmpI x y ∧ Num.cmpI x y ≤ 1 := by unfold Num.cmpI; split <;> (try split) <;> omega
theorem Num.cmpV_bnd (a b c d : Int) : -1 ≤ Num.cmpV a b c d ∧ Num.cmpV a b c d ≤ 1 := by
  unfold Num.cmpV; split
  · exact Num.cmpI_bnd _ _
  · omega

theorem op_eq {a b c d n m rn rd : Int} {r : Bool} (h : Num.rtB a b = true) (k : Num.rtB c d = true) (e : Num.resN n m = rn ∧ Num.resD n m = rd ∧ Num.okB n m = r) :
    (Num.opN (Num.rtB a b && Num.rtB c d) n m, Num.opD (Num.rtB a b && Num.rtB c d) n m, Num.opB (Num.rtB a b && Num.rtB c d) n m) = (rn, rd, r) := by
  rw [h, k, ← e.1, ← e.2.1, ← e.2.2]; rfl

set_option maxRecDepth 100000 in
set_option maxHeartbeats 8000000 in
theorem orderLaw (x0 x1 x2 y0 y1 y2 z0 z1 z2 : Int) (hx0 : I64 x0) (hx1 : I64 x1) (hy0 : I64 y0) (hy1 : I64 y1) (hz0 : I64 z0) (hz1 : I64 z1) (w : World) (hT : Tab w) (hM : Max w) :
    Calls Tryd.prog 5 #[.agg #[.int .i64 x0, .int .i64 x1, .int .i64 x2], .agg #[.int .i64 y0, .int .i64 y1, .int .i64 y2], .agg #[.int .i64 z0, .int .i64 z1, .int .i64 z2]] w fun e w' => e = .returned (.bool true) ∧ Below w.heap.size w w' := by
  have HT := Lib.hid hT; have HM := Lib.hid hM; have HX := Lib.hid (And.intro hx0 hx1); have HY := Lib.hid (And.intro hy0 hy1); have HZ := Lib.hid (And.intro hz0 hz1); clear hT hM hx0 hx1 hy0 hy1 hz0 hz1
  go_enter Tryd.func5, Tryd.ntmps5
  go_wp2_with fail
  refine (sanity_any _ (HT.out.below (by (repeat' (first | (with_reducible exact Below.refl _ _) | (with_reducible assumption) | (with_reducible refine bdn ?_ _) | (with_reducible refine Below.drew ?_) | (with_reducible refine Below.alloc ?_ ?_ _) | (with_reducible refine Below.setCell ?_ ?_ _) | go_size)))) (HM.out.below (by (repeat' (first | (with_reducible exact Below.refl _ _) | (with_reducible assumption) | (with_reducible refine bdn ?_ _) | (with_reducible refine Below.drew ?_) | (with_reducible refine Below.alloc ?_ ?_ _) | (with_reducible refine Below.setCell ?_ ?_ _) | go_size))))).mono ?_; rintro e w1 ⟨rfl, hb⟩
  have p0 := bk hb w.heap.size 0 (v := .int .i64 x0) (by first | (simp [go_sem]; done) | (simp [go_sem]; omega)) (by first | (simp; done) | (simp; omega))
  have p1 := bk hb w.heap.size 1 (v := .int .i64 x1) (by first | (simp [go_sem]; done) | (simp [go_sem]; omega)) (by first | (simp; done) | (simp; omega))
  have p2 := bk hb w.heap.size 2 (v := .int .i64 x2) (by first | (simp [go_sem]; done) | (simp [go_sem]; omega)) (by first | (simp; done) | (simp; omega))
  have q0 := bk hb (w.heap.size + 1) 0 (v := .int .i64 y0) (by first | (simp [go_sem]; done) | (simp [go_sem]; omega)) (by first | (simp; done) | (simp; omega))
  have q1 := bk hb (w.heap.size + 1) 1 (v := .int .i64 y1) (by first | (simp [go_sem]; done) | (simp [go_sem]; omega)) (by first | (simp; done) | (simp; omega))
  have q2 := bk hb (w.heap.size + 1) 2 (v := .int .i64 y2) (by first | (simp [go_sem]; done) | (simp [go_sem]; omega)) (by first | (simp; done) | (simp; omega))
  have r0 := bk hb (w.heap.size + 1 + 1) 0 (v := .int .i64 z0) (by first | (simp [go_sem]; done) | (simp [go_sem]; omega)) (by first | (simp; done) | (simp; omega))
  have r1 := bk hb (w.heap.size + 1 + 1) 1 (v := .int .i64 z1) (by first | (simp [go_sem]; done) | (simp [go_sem]; omega)) (by first | (simp; done) | (simp; omega))
  have r2 := bk hb (w.heap.size + 1 + 1) 2 (v := .int .i64 z2) (by first | (simp [go_sem]; done) | (simp [go_sem]; omega)) (by first | (simp; done) | (simp; omega))
  have D1 : Hid (Below w.heap.size w w1) := Lib.hid (Below.trans (by (repeat' (first | (with_reducible exact Below.refl _ _) | (with_reducible assumption) | (with_reducible refine bdn ?_ _) | (with_reducible refine Below.drew ?_) | (with_reducible refine Below.alloc ?_ ?_ _) | (with_reducible refine Below.setCell ?_ ?_ _) | go_size))) (hb.mono (B' := w.heap.size) (by simp; omega)))
  have S1 : w.heap.size + 2 < w1.heap.size := by have := hb.size; simp at this; omega
  clear hb
  go_wp2_with fail
  refine (made_any x0 x1 x2 HX.out.1.1 HX.out.1.2 HX.out.2.1 HX.out.2.2 _).mono ?_; rintro e w2 ⟨an, ad, rfl, hR, hb⟩
  have Ran := Lib.hid hR; clear hR
  have E2 := Lib.hid (D1.out.trans (hb.mono D1.out.size))
  have T2 : w.heap.size + 1 + 1 < w2.heap.size := by have := hb.size; omega
  have U2 : w.heap.size + 1 < w2.heap.size := by omega
  replace q0 := bk hb (w.heap.size + 1) 0 q0 (by omega)
  replace q1 := bk hb (w.heap.size + 1) 1 q1 (by omega)
  replace q2 := bk hb (w.heap.size + 1) 2 q2 (by omega)
  replace r0 := bk hb (w.heap.size + 1 + 1) 0 r0 (by omega)
  replace r1 := bk hb (w.heap.size + 1 + 1) 1 r1 (by omega)
  replace r2 := bk hb (w.heap.size + 1 + 1) 2 r2 (by omega)
  clear hb p0 p1 p2 S1
  have P2 := Lib.hid (Held.alloc (Held.nil w2) an ad 28)
  have B2 := Lib.hid (Below.alloc E2.out (Below.size E2.out) (.cells #[.int .i64 an, .int .i64 ad] 28))
  go_wp2_with fail
  refine (made_any y0 y1 y2 HY.out.1.1 HY.out.1.2 HY.out.2.1 HY.out.2.2 _).mono ?_; rintro e w3 ⟨bn, bd, rfl, hR, hb⟩
  have Rbn := Lib.hid hR; clear hR
  have Q3 := Lib.hid (P2.out.below hb)
  have E3 := Lib.hid (B2.out.trans (hb.mono B2.out.size))
  have T3 : w.heap.size + 1 + 1 < w3.heap.size := by have := hb.size; simp at this; omega
  replace r0 := bk hb (w.heap.size + 1 + 1) 0 ((World.cell?_alloc_past _ _ _ T2).trans r0) (by simp; omega)
  replace r1 := bk hb (w.heap.size + 1 + 1) 1 ((World.cell?_alloc_past _ _ _ T2).trans r1) (by simp; omega)
  replace r2 := bk hb (w.heap.size + 1 + 1) 2 ((World.cell?_alloc_past _ _ _ T2).trans r2) (by simp; omega)
  clear hb q0 q1 q2 T2 U2
  have P3 := Lib.hid (Held.alloc Q3.out bn bd 28)
  have B3 := Lib.hid (Below.alloc E3.out (Below.size E3.out) (.cells #[.int .i64 bn, .int .i64 bd] 28))
  go_wp2_with fail
  refine (made_any z0 z1 z2 HZ.out.1.1 HZ.out.1.2 HZ.out.2.1 HZ.out.2.2 _).mono ?_; rintro e w4 ⟨cn, cd, rfl, hR, hb⟩
  have Rcn := Lib.hid hR; clear hR
  have Q4 := Lib.hid (P3.out.below hb)
  have E4 := Lib.hid (B3.out.trans (hb.mono B3.out.size))
  clear hb r0 r1 r2 T3
  have P4 := Lib.hid (Held.alloc Q4.out cn cd 28)
  have B4 := Lib.hid (Below.alloc E4.out (Below.size E4.out) (.cells #[.int .i64 cn, .int .i64 cd] 28))
  obtain ⟨v, hv⟩ : ∃ v, Num.cmpV an ad bn bd = v := ⟨_, rfl⟩
  have HV := Lib.hid hv; clear hv
  have VB := Lib.hid (show -1 ≤ v ∧ v ≤ 1 by rw [← HV.out]; exact Num.cmpV_bnd ..)
  have VZ := Lib.hid (show v = 0 ↔ (an = bn ∧ ad = bd) by rw [← HV.out]; exact Num.ord_zero Ran.out.1 Rbn.out.1)
  have VN := Lib.hid (show Num.cmpV bn bd an ad = -v by rw [← HV.out]; exact Num.ord_anti Ran.out.1 Rbn.out.1)
  obtain ⟨a0, a1, a2⟩ := P4.out.get (n := w2.heap.size) (a := an) (b := ad) (by simp)
  obtain ⟨b0, b1, b2⟩ := P4.out.get (n := w3.heap.size) (a := bn) (b := bd) (by simp)
  go_wp2_with fail
  refine (cmp_c an ad bn bd v Ran.out.i.1 Ran.out.i.2 Rbn.out.i.1 Rbn.out.i.2 HV.out _).mono ?_; rintro e w5 ⟨rfl, hb⟩
  have Q5 := Lib.hid (P4.out.below hb); have D5 := Lib.hid (B4.out.trans (hb.mono B4.out.size)); clear hb
  clear a0 a1 a2 b0 b1 b2
  go_upto_region 6 with fail
  go_cut [47] (fun s47 wx => s47 = .bool false ∧ Hid (Held wx [(w4.heap.size, cn, cd), (w3.heap.size, bn, bd), (w2.heap.size, an, ad)]) ∧ Hid (Below w.heap.size w wx))
  case first =>
    have zz : IntKind.i64.wrap (-v) = -v := by have := VB.out; rw [IntKind.wrap_i64]; omega
    obtain ⟨a0, a1, a2⟩ := Q5.out.get (n := w2.heap.size) (a := an) (b := ad) (by simp)
    obtain ⟨b0, b1, b2⟩ := Q5.out.get (n := w3.heap.size) (a := bn) (b := bd) (by simp)
    go_wp2_with fail
    refine (cmp_c bn bd an ad (-v) Rbn.out.i.1 Rbn.out.i.2 Ran.out.i.1 Ran.out.i.2 VN.out _).mono ?_; rintro e w6 ⟨rfl, hb⟩
    have Q6 := Lib.hid (Q5.out.below hb); have D6 := Lib.hid (D5.out.trans (hb.mono D5.out.size)); clear hb
    clear a0 a1 a2 b0 b1 b2
    by_cases hv0 : v = 0
    · subst hv0
      obtain ⟨e1, e2⟩ := VZ.out.1 rfl
      subst e1; subst e2
      obtain ⟨a0, a1, a2⟩ := Q6.out.get (n := w2.heap.size) (a := an) (b := ad) (by simp)
      obtain ⟨b0, b1, b2⟩ := Q6.out.get (n := w3.heap.size) (a := an) (b := ad) (by simp)
      go_wp2_with fail
      refine (cmp_c an ad an ad 0 Ran.out.i.1 Ran.out.i.2 Ran.out.i.1 Ran.out.i.2 ((Num.ord_zero Ran.out.1 Ran.out.1).2 ⟨rfl, rfl⟩) _).mono ?_; rintro e w7 ⟨rfl, hb⟩
      have Q7 := Lib.hid (Q6.out.below hb); have D7 := Lib.hid (D6.out.trans (hb.mono D6.out.size)); clear hb
      clear a0 a1 a2 b0 b1 b2
      go_wp2_with fail
      go_meet
      exact ⟨by first | rfl | (simp [*]; done) | (congr 1; simp; omega), Q7, D7⟩
    · by_cases hab : an = bn
      · have hcd : ¬ ad = bd := fun h => hv0 (VZ.out.2 ⟨hab, h⟩)
        subst hab
        obtain ⟨a0, a1, a2⟩ := Q6.out.get (n := w2.heap.size) (a := an) (b := ad) (by simp)
        obtain ⟨b0, b1, b2⟩ := Q6.out.get (n := w3.heap.size) (a := an) (b := bd) (by simp)
        go_wp2_with fail
        refine (cmp_c an ad an ad 0 Ran.out.i.1 Ran.out.i.2 Ran.out.i.1 Ran.out.i.2 ((Num.ord_zero Ran.out.1 Ran.out.1).2 ⟨rfl, rfl⟩) _).mono ?_; rintro e w7 ⟨rfl, hb⟩
        have Q7 := Lib.hid (Q6.out.below hb); have D7 := Lib.hid (D6.out.trans (hb.mono D6.out.size)); clear hb
        clear a0 a1 a2 b0 b1 b2
        go_wp2_with fail
        go_meet
        exact ⟨by first | rfl | (simp [*]; done) | (congr 1; simp; omega), Q7, D7⟩
      · skip
        obtain ⟨a0, a1, a2⟩ := Q6.out.get (n := w2.heap.size) (a := an) (b := ad) (by simp)
        obtain ⟨b0, b1, b2⟩ := Q6.out.get (n := w3.heap.size) (a := bn) (b := bd) (by simp)
        go_wp2_with fail
        refine (cmp_c an ad an ad 0 Ran.out.i.1 Ran.out.i.2 Ran.out.i.1 Ran.out.i.2 ((Num.ord_zero Ran.out.1 Ran.out.1).2 ⟨rfl, rfl⟩) _).mono ?_; rintro e w7 ⟨rfl, hb⟩
        have Q7 := Lib.hid (Q6.out.below hb); have D7 := Lib.hid (D6.out.trans (hb.mono D6.out.size)); clear hb
        clear a0 a1 a2 b0 b1 b2
        go_wp2_with fail
        go_meet
        exact ⟨by first | rfl | (simp [*]; done) | (congr 1; simp; omega), Q7, D7⟩
  case rest =>
    obtain ⟨rfl, P8, B8⟩ := hcut
    clear Q5 D5 P4 B4
    obtain ⟨u, hu⟩ : ∃ u, Num.cmpV bn bd cn cd = u := ⟨_, rfl⟩
    have HU := Lib.hid hu; clear hu
    obtain ⟨t, ht⟩ : ∃ t, Num.cmpV an ad cn cd = t := ⟨_, rfl⟩
    have HS := Lib.hid ht; clear ht
    have TR := Lib.hid (show v ≤ 0 → u ≤ 0 → t ≤ 0 by rw [← HV.out, ← HU.out, ← HS.out]; exact Num.ord_trans Ran.out.1 Rbn.out.1 Rcn.out.1)
    go_upto_region 8 with fail
    go_cut [61] (fun s61 wx => s61 = .bool false ∧ Hid (Held wx [(w4.heap.size, cn, cd), (w3.heap.size, bn, bd), (w2.heap.size, an, ad)]) ∧ Hid (Below w.heap.size w wx))
    case first =>
      obtain ⟨a0, a1, a2⟩ := P8.out.get (n := w2.heap.size) (a := an) (b := ad) (by simp)
      obtain ⟨b0, b1, b2⟩ := P8.out.get (n := w3.heap.size) (a := bn) (b := bd) (by simp)
      obtain ⟨c0, c1, c2⟩ := P8.out.get (n := w4.heap.size) (a := cn) (b := cd) (by simp)
      by_cases hv1 : v ≤ 0
      · skip
        go_wp2_with fail
        refine (cmp_c bn bd cn cd u Rbn.out.i.1 Rbn.out.i.2 Rcn.out.i.1 Rcn.out.i.2 HU.out _).mono ?_; rintro e w9 ⟨rfl, hb⟩
        have Q9 := Lib.hid (P8.out.below hb); have D9 := Lib.hid (B8.out.trans (hb.mono B8.out.size)); clear hb
        clear a0 a1 a2 b0 b1 b2 c0 c1 c2
        obtain ⟨a0, a1, a2⟩ := Q9.out.get (n := w2.heap.size) (a := an) (b := ad) (by simp)
        obtain ⟨b0, b1, b2⟩ := Q9.out.get (n := w3.heap.size) (a := bn) (b := bd) (by simp)
        obtain ⟨c0, c1, c2⟩ := Q9.out.get (n := w4.heap.size) (a := cn) (b := cd) (by simp)
        by_cases hu1 : u ≤ 0
        · skip
          have ht1 := TR.out hv1 hu1
          go_wp2_with fail
          refine (cmp_c an ad cn cd t Ran.out.i.1 Ran.out.i.2 Rcn.out.i.1 Rcn.out.i.2 HS.out _).mono ?_; rintro e w10 ⟨rfl, hb⟩
          have Q10 := Lib.hid (Q9.out.below hb); have D10 := Lib.hid (D9.out.trans (hb.mono D9.out.size)); clear hb
          clear a0 a1 a2 b0 b1 b2 c0 c1 c2
          have ht2 : ¬ 0 < t := by omega
          go_wp2_with fail
          go_meet
          exact ⟨by first | rfl | (simp [*]; done) | (congr 1; simp; omega), Q10, D10⟩
        · skip
          go_wp2_with fail
          go_meet
          exact ⟨by first | rfl | (simp [*]; done) | (congr 1; simp; omega), Q9, D9⟩
      · skip
        have Q8 := P8; have D8 := B8
        go_wp2_with fail
        go_meet
        exact ⟨by first | rfl | (simp [*]; done) | (congr 1; simp; omega), Q8, D8⟩
    case rest =>
      obtain ⟨rfl, P11, B11⟩ := hcut
      clear P8 B8 TR HU HS
      obtain ⟨dn, hdn⟩ : ∃ a, Num.resN (an * bd - bn * ad) (ad * bd) = a := ⟨_, rfl⟩
      obtain ⟨dd, hdd⟩ : ∃ a, Num.resD (an * bd - bn * ad) (ad * bd) = a := ⟨_, rfl⟩
      obtain ⟨dr, hdr⟩ : ∃ a, Num.okB (an * bd - bn * ad) (ad * bd) = a := ⟨_, rfl⟩
      have Hd := Lib.hid (And.intro hdn (And.intro hdd hdr)); clear hdn hdd hdr
      have Rd := Lib.hid (show Rt dn dd by rw [← Hd.out.1, ← Hd.out.2.1]; exact Rt.res _ _)
      obtain ⟨a0, a1, a2⟩ := P11.out.get (n := w2.heap.size) (a := an) (b := ad) (by simp)
      obtain ⟨b0, b1, b2⟩ := P11.out.get (n := w3.heap.size) (a := bn) (b := bd) (by simp)
      go_wp2_with fail
      refine (sub_c an ad bn bd dn dd dr Ran.out.i.1 Ran.out.i.2 Rbn.out.i.1 Rbn.out.i.2 (op_eq Ran.out.1 Rbn.out.1 Hd.out) _).mono ?_; rintro e w12 ⟨rfl, hb⟩
      have Q12 := Lib.hid (P11.out.below hb); have D12 := Lib.hid (B11.out.trans (hb.mono B11.out.size)); clear hb
      clear a0 a1 a2 b0 b1 b2
      have P13 := Lib.hid (Held.alloc Q12.out dn dd 28)
      have B13 := Lib.hid (Below.alloc D12.out (Below.size D12.out) (.cells #[.int .i64 dn, .int .i64 dd] 28))
      have SG := Lib.hid (show dr = true → (0 < dn ↔ 0 < v) ∧ (dn < 0 ↔ v < 0) by intro h; rw [← HV.out, ← Hd.out.1]; exact Num.ord_sub Ran.out.1 Rbn.out.1 (Hd.out.2.2.trans h))
      go_upto_region 11 with fail
      go_cut [87] (fun s87 wx => s87 = .bool false ∧ Hid (Held wx [(w4.heap.size, cn, cd), (w3.heap.size, bn, bd), (w2.heap.size, an, ad)]) ∧ Hid (Below w.heap.size w wx))
      case first =>
        have HL : Hid (Held (w12.alloc (.cells #[.int .i64 dn, .int .i64 dd] 28)) [(w4.heap.size, cn, cd), (w3.heap.size, bn, bd), (w2.heap.size, an, ad)]) := Lib.hid (fun x hx => P13.out x (List.mem_cons_of_mem _ hx))
        obtain ⟨d0, d1, d2⟩ := P13.out.get (n := w12.heap.size) (a := dn) (b := dd) (by simp)
        cases dr
        · go_wp2_with fail
          go_meet
          exact ⟨rfl, HL, B13⟩
        · obtain ⟨g1, g2⟩ := SG.out rfl
          rcases Int.lt_trichotomy v 0 with h | h | h
          · skip
            have k1 : ¬ 0 < v := by omega
            have k2 : ¬ 0 < dn := by omega
            have k3 : dn < 0 := g2.2 h
            clear g1 g2
            go_wp2_with fail
            go_meet
            exact ⟨rfl, HL, B13⟩
          · skip
            have k1 : ¬ 0 < v := by omega
            have k2 : ¬ 0 < dn := by omega
            have k3 : ¬ dn < 0 := by omega
            have k4 : ¬ v < 0 := by omega
            clear h
            clear g1 g2
            go_wp2_with fail
            go_meet
            exact ⟨rfl, HL, B13⟩
          · skip
            have k1 : ¬ v < 0 := by omega
            have k2 : ¬ dn < 0 := by omega
            have k3 : 0 < dn := g1.2 h
            clear g1 g2
            go_wp2_with fail
            go_meet
            exact ⟨rfl, HL, B13⟩
      case rest =>
        obtain ⟨rfl, P14, B14⟩ := hcut
        clear P13 B13 P11 B11 Q12 D12 SG
        obtain ⟨pn, hpn⟩ : ∃ a, Num.resN (an * cd + cn * ad) (ad * cd) = a := ⟨_, rfl⟩
        obtain ⟨pd, hpd⟩ : ∃ a, Num.resD (an * cd + cn * ad) (ad * cd) = a := ⟨_, rfl⟩
        obtain ⟨pr, hpr⟩ : ∃ a, Num.okB (an * cd + cn * ad) (ad * cd) = a := ⟨_, rfl⟩
        have Hp := Lib.hid (And.intro hpn (And.intro hpd hpr)); clear hpn hpd hpr
        have Rp := Lib.hid (show Rt pn pd by rw [← Hp.out.1, ← Hp.out.2.1]; exact Rt.res _ _)
        obtain ⟨qn, hqn⟩ : ∃ a, Num.resN (bn * cd + cn * bd) (bd * cd) = a := ⟨_, rfl⟩
        obtain ⟨qd, hqd⟩ : ∃ a, Num.resD (bn * cd + cn * bd) (bd * cd) = a := ⟨_, rfl⟩
        obtain ⟨qr, hqr⟩ : ∃ a, Num.okB (bn * cd + cn * bd) (bd * cd) = a := ⟨_, rfl⟩
        have Hq := Lib.hid (And.intro hqn (And.intro hqd hqr)); clear hqn hqd hqr
        have Rq := Lib.hid (show Rt qn qd by rw [← Hq.out.1, ← Hq.out.2.1]; exact Rt.res _ _)
        obtain ⟨a0, a1, a2⟩ := P14.out.get (n := w2.heap.size) (a := an) (b := ad) (by simp)
        obtain ⟨c0, c1, c2⟩ := P14.out.get (n := w4.heap.size) (a := cn) (b := cd) (by simp)
        go_wp2_with fail
        refine (add_c an ad cn cd pn pd pr Ran.out.i.1 Ran.out.i.2 Rcn.out.i.1 Rcn.out.i.2 (op_eq Ran.out.1 Rcn.out.1 Hp.out) _).mono ?_; rintro e w15 ⟨rfl, hb⟩
        have Q15 := Lib.hid (P14.out.below hb); have D15 := Lib.hid (B14.out.trans (hb.mono B14.out.size)); clear hb
        clear a0 a1 a2 c0 c1 c2
        have P16 := Lib.hid (Held.alloc Q15.out pn pd 28)
        have B16 := Lib.hid (Below.alloc D15.out (Below.size D15.out) (.cells #[.int .i64 pn, .int .i64 pd] 28))
        obtain ⟨b0, b1, b2⟩ := P16.out.get (n := w3.heap.size) (a := bn) (b := bd) (by simp)
        obtain ⟨c0, c1, c2⟩ := P16.out.get (n := w4.heap.size) (a := cn) (b := cd) (by simp)
        go_wp2_with fail
        refine (add_c bn bd cn cd qn qd qr Rbn.out.i.1 Rbn.out.i.2 Rcn.out.i.1 Rcn.out.i.2 (op_eq Rbn.out.1 Rcn.out.1 Hq.out) _).mono ?_; rintro e w17 ⟨rfl, hb⟩
        have Q17 := Lib.hid (P16.out.below hb); have D17 := Lib.hid (B16.out.trans (hb.mono B16.out.size)); clear hb
        clear b0 b1 b2 c0 c1 c2
        have P18 := Lib.hid (Held.alloc Q17.out qn qd 28)
        have B18 := Lib.hid (Below.alloc D17.out (Below.size D17.out) (.cells #[.int .i64 qn, .int .i64 qd] 28))
        have CV := Lib.hid (show pr = true → qr = true → Num.cmpV pn pd qn qd = v by intro h1 h2; rw [← HV.out, ← Hp.out.1, ← Hp.out.2.1, ← Hq.out.1, ← Hq.out.2.1]; exact Num.ord_add Ran.out.1 Rbn.out.1 Rcn.out.1 (Hp.out.2.2.trans h1) (Hq.out.2.2.trans h2))
        cases pr
        · go_wp2
          go_ret
          exact ⟨rfl, B18.out⟩
        · cases qr
          · go_wp2
            go_ret
            exact ⟨rfl, B18.out⟩
          · have CW : Hid (Num.cmpV pn pd qn qd = v) := Lib.hid (CV.out rfl rfl)
            clear CV
            obtain ⟨p0, p1, p2⟩ := P18.out.get (n := w15.heap.size) (a := pn) (b := pd) (by simp)
            obtain ⟨q0, q1, q2⟩ := P18.out.get (n := w17.heap.size) (a := qn) (b := qd) (by simp)
            go_wp2_with fail
            refine (cmp_c pn pd qn qd v Rp.out.i.1 Rp.out.i.2 Rq.out.i.1 Rq.out.i.2 CW.out _).mono ?_; rintro e w19 ⟨rfl, hb⟩
            have Q19 := Lib.hid (P18.out.below hb); have D19 := Lib.hid (B18.out.trans (hb.mono B18.out.size)); clear hb
            go_wp2
            go_ret
            exact ⟨by simp, D19.out⟩
end Go.Proofs.YtokmfgpbfhfafaaDoor
