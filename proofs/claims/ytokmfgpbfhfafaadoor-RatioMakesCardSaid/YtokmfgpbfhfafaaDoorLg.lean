/- RatioField: for every three numbers that are made, sums and products do not depend on the order, products distribute over sums, Sub undoes Add, and Quo undoes Mul, where the results fit. Conditions: the arguments are ints; the listed variables hold the program's own text. -/
import Derived.Test.YtokmfgpbfhfafaaDoorLo
namespace Go.Proofs.YtokmfgpbfhfafaaDoor
open Go.RowKit

set_option maxHeartbeats 1000000 in
theorem same_yes (n d : Int) (r : Bool) (w : World) :
    Calls Tryd.prog 13 #[ratV n d, .bool r, ratV n d, .bool r] w fun e w' => e = .returned (.bool true) ∧ Below w.heap.size w w' := by
  go_enter Tryd.func13, Tryd.ntmps13
  cases r
  all_goals
    go_wp2
    go_ret
    exact ⟨by simp, by (repeat' (first | (with_reducible exact Below.refl _ _) | (with_reducible assumption) | (with_reducible refine bdn ?_ _) | (with_reducible refine Below.drew ?_) | (with_reducible refine Below.alloc ?_ ?_ _) | (with_reducible refine Below.setCell ?_ ?_ _) | go_size))⟩

theorem Held.drop1 {w : World} {a : Nat × Int × Int} {L : List (Nat × Int × Int)} (h : Held w (a :: L)) : Held w L := fun x hx => h x (List.mem_cons_of_mem _ hx)
theorem Held.keep1 {w : World} {a : Nat × Int × Int} {L M : List (Nat × Int × Int)} (h : Held w (a :: L)) (f : Held w L → Held w M) : Held w (a :: M) := fun x hx => by
  rcases List.mem_cons.1 hx with rfl | hx
  · exact h _ List.mem_cons_self
  · exact f h.drop1 x hx

set_option maxRecDepth 100000 in
set_option maxHeartbeats 16000000 in
theorem fieldLaw (x0 x1 x2 y0 y1 y2 z0 z1 z2 : Int) (hx0 : I64 x0) (hx1 : I64 x1) (hy0 : I64 y0) (hy1 : I64 y1) (hz0 : I64 z0) (hz1 : I64 z1) (w : World) (hT : Tab w) (hM : Max w) :
    Calls Tryd.prog 4 #[.agg #[.int .i64 x0, .int .i64 x1, .int .i64 x2], .agg #[.int .i64 y0, .int .i64 y1, .int .i64 y2], .agg #[.int .i64 z0, .int .i64 z1, .int .i64 z2]] w fun e w' => e = .returned (.bool true) ∧ Below w.heap.size w w' := by
  have HT := Lib.hid hT; have HM := Lib.hid hM; have HX := Lib.hid (And.intro hx0 hx1); have HY := Lib.hid (And.intro hy0 hy1); have HZ := Lib.hid (And.intro hz0 hz1); clear hT hM hx0 hx1 hy0 hy1 hz0 hz1
  go_enter Tryd.func4, Tryd.ntmps4
  go_wp2_with fail
  refine (sanity_any _ (HT.out.below (by (repeat' (first | (with_reducible exact Below.refl _ _) | (with_reducible assumption) | (with_reducible refine bdn ?_ _) | (with_reducible refine Below.drew ?_) | (with_reducible refine Below.alloc ?_ ?_ _) | (with_reducible refine Below.setCell ?_ ?_ _) | go_size)))) (HM.out.below (by (repeat' (first | (with_reducible exact Below.refl _ _) | (with_reducible assumption) | (with_reducible refine bdn ?_ _) | (with_reducible refine Below.drew ?_) | (with_reducible refine Below.alloc ?_ ?_ _) | (with_reducible refine Below.setCell ?_ ?_ _) | go_size))))).mono ?_; rintro e w1 ⟨rfl, hb⟩
  have p0 := bk hb w.heap.size 0 (v := .int .i64 x0) (by first | (simp [go_sem]; done) | (simp [go_sem]; omega)) (by first | (simp; done) | (simp; omega))
  have p1 := bk hb w.heap.size 1 (v := .int .i64 x1) (by first | (simp [go_sem]; done) | (simp [go_sem]; omega)) (by first | (simp; done) | (simp; omega))
  have p2 := bk hb w.heap.size 2 (v := .int .i64 x2) (by first | (simp [go_sem]; done) | (simp [go_sem]; omega)) (by first | (simp; done) | (simp; omega))
  have q0 := bk hb (w.heap.size + 1) 0 (v := .int .i64 y0) (by first | (simp [go_sem]; done) | (simp [go_sem]; omega)) (by first | (simp; done) | (simp; omega))
  have q1 := bk hb (w.heap.size + 1) 1 (v := .int .i64 y1) (by first | (simp [go_sem]; done) | (simp [go_sem]; omega)) (by first | (simp; done) | (simp; omega))
  have q2 := bk hb (w.heap.size + 1) 2 (v := .int .i64 y2) (by first | (simp [go_sem]; done) | (simp [go_sem]; omega)) (by first | (simp; done) | (simp; omega))
  have r0 := bk hb (w.heap.size + 1 + 1) 0 (v := .int .i64 z0) (by first | (simp [go_sem]; done) | (simp [go_sem]; omega)) (by first | (simp; done) | (simp; omega))
  have r1 := bk hb (w.heap.size + 1 + 1) 1 (v := .int .i64 z1) (by first | (simp [go_sem]; done) | (simp [go_sem]; omega)) (by first | (simp; done) | (simp; omega))
  have r2 := bk hb (w.heap.size + 1 + 1) 2 (v := .int .i64 z2) (by first | (simp [go_sem]; done) | (simp [go_sem]; omega)) (by first | (simp; done) | (simp; omega))
  have D1 : Hid (Below w.heap.size w w1) := Lib.hid (Below.trans (by (repeat' (first | (with_reducible exact Below.refl _ _) | (with_reducible assumption) | (with_reducible refine bdn ?_ _) | (with_reducible refine Below.drew ?_) | (with_reducible refine Below.alloc ?_ ?_ _) | (with_reducible refine Below.setCell ?_ ?_ _) | go_size))) (hb.mono (B' := w.heap.size) (by simp; omega)))
  have S1 : w.heap.size + 2 < w1.heap.size := by have := hb.size; simp at this; omega
  clear hb
  go_wp2_with fail
  refine (made_any x0 x1 x2 HX.out.1.1 HX.out.1.2 HX.out.2.1 HX.out.2.2 _).mono ?_; rintro e w2 ⟨an, ad, rfl, hR, hb⟩
  have Ran := Lib.hid hR; clear hR
  have E2 := Lib.hid (D1.out.trans (hb.mono D1.out.size))
  have T2 : w.heap.size + 1 + 1 < w2.heap.size := by have := hb.size; omega
  have U2 : w.heap.size + 1 < w2.heap.size := by omega
  replace q0 := bk hb (w.heap.size + 1) 0 q0 (by omega)
  replace q1 := bk hb (w.heap.size + 1) 1 q1 (by omega)
  replace q2 := bk hb (w.heap.size + 1) 2 q2 (by omega)
  replace r0 := bk hb (w.heap.size + 1 + 1) 0 r0 (by omega)
  replace r1 := bk hb (w.heap.size + 1 + 1) 1 r1 (by omega)
  replace r2 := bk hb (w.heap.size + 1 + 1) 2 r2 (by omega)
  clear hb p0 p1 p2 S1
  have P2 := Lib.hid (Held.alloc (Held.nil w2) an ad 28)
  have B2 := Lib.hid (Below.alloc E2.out (Below.size E2.out) (.cells #[.int .i64 an, .int .i64 ad] 28))
  go_wp2_with fail
  refine (made_any y0 y1 y2 HY.out.1.1 HY.out.1.2 HY.out.2.1 HY.out.2.2 _).mono ?_; rintro e w3 ⟨bn, bd, rfl, hR, hb⟩
  have Rbn := Lib.hid hR; clear hR
  have Q3 := Lib.hid (P2.out.below hb)
  have E3 := Lib.hid (B2.out.trans (hb.mono B2.out.size))
  have T3 : w.heap.size + 1 + 1 < w3.heap.size := by have := hb.size; simp at this; omega
  replace r0 := bk hb (w.heap.size + 1 + 1) 0 ((World.cell?_alloc_past _ _ _ T2).trans r0) (by simp; omega)
  replace r1 := bk hb (w.heap.size + 1 + 1) 1 ((World.cell?_alloc_past _ _ _ T2).trans r1) (by simp; omega)
  replace r2 := bk hb (w.heap.size + 1 + 1) 2 ((World.cell?_alloc_past _ _ _ T2).trans r2) (by simp; omega)
  clear hb q0 q1 q2 T2 U2
  have P3 := Lib.hid (Held.alloc Q3.out bn bd 28)
  have B3 := Lib.hid (Below.alloc E3.out (Below.size E3.out) (.cells #[.int .i64 bn, .int .i64 bd] 28))
  go_wp2_with fail
  refine (made_any z0 z1 z2 HZ.out.1.1 HZ.out.1.2 HZ.out.2.1 HZ.out.2.2 _).mono ?_; rintro e w4 ⟨cn, cd, rfl, hR, hb⟩
  have Rcn := Lib.hid hR; clear hR
  have Q4 := Lib.hid (P3.out.below hb)
  have E4 := Lib.hid (B3.out.trans (hb.mono B3.out.size))
  clear hb r0 r1 r2 T3
  have P4 := Lib.hid (Held.alloc Q4.out cn cd 28)
  have B4 := Lib.hid (Below.alloc E4.out (Below.size E4.out) (.cells #[.int .i64 cn, .int .i64 cd] 28))
  obtain ⟨sn, hsn⟩ : ∃ a, Num.resN (an * bd + bn * ad) (ad * bd) = a := ⟨_, rfl⟩
  obtain ⟨sd, hsd⟩ : ∃ a, Num.resD (an * bd + bn * ad) (ad * bd) = a := ⟨_, rfl⟩
  obtain ⟨sr, hsr⟩ : ∃ a, Num.okB (an * bd + bn * ad) (ad * bd) = a := ⟨_, rfl⟩
  have Hs := Lib.hid (And.intro hsn (And.intro hsd hsr)); clear hsn hsd hsr
  have Rsn := Lib.hid (show Rt sn sd by rw [← Hs.out.1, ← Hs.out.2.1]; exact Rt.res _ _)
  obtain ⟨a0, a1, a2⟩ := P4.out.get (n := w2.heap.size) (a := an) (b := ad) (by simp)
  obtain ⟨b0, b1, b2⟩ := P4.out.get (n := w3.heap.size) (a := bn) (b := bd) (by simp)
  go_wp2_with fail
  refine (add_c an ad bn bd sn sd sr Ran.out.i.1 Ran.out.i.2 Rbn.out.i.1 Rbn.out.i.2 (op_eq Ran.out.1 Rbn.out.1 (Hs.out)) _).mono ?_; rintro e w5 ⟨rfl, hb⟩
  have Q5 := Lib.hid (P4.out.below hb); have D5 := Lib.hid (B4.out.trans (hb.mono B4.out.size)); clear hb
  clear a0 a1 a2 b0 b1 b2
  have P5' := Lib.hid (Held.alloc Q5.out sn sd 28)
  have B5' := Lib.hid (Below.alloc D5.out (Below.size D5.out) (.cells #[.int .i64 sn, .int .i64 sd] 28))
  clear Q5 D5
  obtain ⟨a0, a1, a2⟩ := P5'.out.get (n := w2.heap.size) (a := an) (b := ad) (by simp)
  obtain ⟨b0, b1, b2⟩ := P5'.out.get (n := w3.heap.size) (a := bn) (b := bd) (by simp)
  go_wp2_with fail
  refine (add_c bn bd an ad sn sd sr Rbn.out.i.1 Rbn.out.i.2 Ran.out.i.1 Ran.out.i.2 (op_eq Rbn.out.1 Ran.out.1 (by have e := Hs.out; rw [Int.add_comm (an * bd), Int.mul_comm ad] at e; exact e)) _).mono ?_; rintro e w6 ⟨rfl, hb⟩
  have Q6 := Lib.hid (P5'.out.below hb); have D6 := Lib.hid (B5'.out.trans (hb.mono B5'.out.size)); clear hb
  clear a0 a1 a2 b0 b1 b2
  have P6' := Lib.hid (Held.alloc Q6.out sn sd 28)
  have B6' := Lib.hid (Below.alloc D6.out (Below.size D6.out) (.cells #[.int .i64 sn, .int .i64 sd] 28))
  clear Q6 D6
  obtain ⟨mn, hmn⟩ : ∃ a, Num.resN (an * bn) (ad * bd) = a := ⟨_, rfl⟩
  obtain ⟨md, hmd⟩ : ∃ a, Num.resD (an * bn) (ad * bd) = a := ⟨_, rfl⟩
  obtain ⟨mr, hmr⟩ : ∃ a, Num.okB (an * bn) (ad * bd) = a := ⟨_, rfl⟩
  have Hm := Lib.hid (And.intro hmn (And.intro hmd hmr)); clear hmn hmd hmr
  have Rmn := Lib.hid (show Rt mn md by rw [← Hm.out.1, ← Hm.out.2.1]; exact Rt.res _ _)
  obtain ⟨a0, a1, a2⟩ := P6'.out.get (n := w2.heap.size) (a := an) (b := ad) (by simp)
  obtain ⟨b0, b1, b2⟩ := P6'.out.get (n := w3.heap.size) (a := bn) (b := bd) (by simp)
  go_wp2_with fail
  refine (mul_c an ad bn bd mn md mr Ran.out.i.1 Ran.out.i.2 Rbn.out.i.1 Rbn.out.i.2 (op_eq Ran.out.1 Rbn.out.1 (Hm.out)) _).mono ?_; rintro e w7 ⟨rfl, hb⟩
  have Q7 := Lib.hid (P6'.out.below hb); have D7 := Lib.hid (B6'.out.trans (hb.mono B6'.out.size)); clear hb
  clear a0 a1 a2 b0 b1 b2
  have P7' := Lib.hid (Held.alloc Q7.out mn md 28)
  have B7' := Lib.hid (Below.alloc D7.out (Below.size D7.out) (.cells #[.int .i64 mn, .int .i64 md] 28))
  clear Q7 D7
  obtain ⟨a0, a1, a2⟩ := P7'.out.get (n := w2.heap.size) (a := an) (b := ad) (by simp)
  obtain ⟨b0, b1, b2⟩ := P7'.out.get (n := w3.heap.size) (a := bn) (b := bd) (by simp)
  go_wp2_with fail
  refine (mul_c bn bd an ad mn md mr Rbn.out.i.1 Rbn.out.i.2 Ran.out.i.1 Ran.out.i.2 (op_eq Rbn.out.1 Ran.out.1 (by have e := Hm.out; rw [Int.mul_comm an, Int.mul_comm ad] at e; exact e)) _).mono ?_; rintro e w8 ⟨rfl, hb⟩
  have Q8 := Lib.hid (P7'.out.below hb); have D8 := Lib.hid (B7'.out.trans (hb.mono B7'.out.size)); clear hb
  clear a0 a1 a2 b0 b1 b2
  have P8' := Lib.hid (Held.alloc Q8.out mn md 28)
  have B8' := Lib.hid (Below.alloc D8.out (Below.size D8.out) (.cells #[.int .i64 mn, .int .i64 md] 28))
  clear Q8 D8
  clear P4 B4 P5' B5' P6' B6' P7' B7'
  go_upto_region 9 with fail
  go_cut [75] (fun s75 wx => s75 = .bool false ∧ Hid (Held wx [(w7.heap.size, mn, md), (w5.heap.size, sn, sd), (w4.heap.size, cn, cd), (w3.heap.size, bn, bd), (w2.heap.size, an, ad)]) ∧ Hid (Below w.heap.size w wx))
  case first =>
    obtain ⟨s0, s1, s2⟩ := P8'.out.get (n := w5.heap.size) (a := sn) (b := sd) (by simp)
    obtain ⟨t0, t1, t2⟩ := P8'.out.get (n := w6.heap.size) (a := sn) (b := sd) (by simp)
    obtain ⟨m0, m1, m2⟩ := P8'.out.get (n := w7.heap.size) (a := mn) (b := md) (by simp)
    obtain ⟨n0, n1, n2⟩ := P8'.out.get (n := w8.heap.size) (a := mn) (b := md) (by simp)
    go_wp2_with fail
    refine (same_yes sn sd sr _).mono ?_; rintro e w9 ⟨rfl, hb⟩
    have Q9 := Lib.hid (P8'.out.below hb); have D9 := Lib.hid (B8'.out.trans (hb.mono B8'.out.size)); clear hb
    clear s0 s1 s2 t0 t1 t2 m0 m1 m2 n0 n1 n2
    obtain ⟨m0, m1, m2⟩ := Q9.out.get (n := w7.heap.size) (a := mn) (b := md) (by simp)
    obtain ⟨n0, n1, n2⟩ := Q9.out.get (n := w8.heap.size) (a := mn) (b := md) (by simp)
    go_wp2_with fail
    refine (same_yes mn md mr _).mono ?_; rintro e w10 ⟨rfl, hb⟩
    have Q10 := Lib.hid (Q9.out.below hb); have D10 := Lib.hid (D9.out.trans (hb.mono D9.out.size)); clear hb
    clear m0 m1 m2 n0 n1 n2
    have QS : Hid (Held w10 [(w7.heap.size, mn, md), (w5.heap.size, sn, sd), (w4.heap.size, cn, cd), (w3.heap.size, bn, bd), (w2.heap.size, an, ad)]) := Lib.hid (Q10.out.drop1.keep1 fun h => h.drop1)
    go_wp2_with fail
    go_meet
    exact ⟨by first | rfl | (simp [*]; done), QS, D10⟩
  case rest =>
    obtain ⟨rfl, P10', B10'⟩ := hcut
    clear P8' B8'
    obtain ⟨kn, hkn⟩ : ∃ a, Num.resN (sn * bd - bn * sd) (sd * bd) = a := ⟨_, rfl⟩
    obtain ⟨kd, hkd⟩ : ∃ a, Num.resD (sn * bd - bn * sd) (sd * bd) = a := ⟨_, rfl⟩
    obtain ⟨kr, hkr⟩ : ∃ a, Num.okB (sn * bd - bn * sd) (sd * bd) = a := ⟨_, rfl⟩
    have Hk := Lib.hid (And.intro hkn (And.intro hkd hkr)); clear hkn hkd hkr
    have Rkn := Lib.hid (show Rt kn kd by rw [← Hk.out.1, ← Hk.out.2.1]; exact Rt.res _ _)
    obtain ⟨s0, s1, s2⟩ := P10'.out.get (n := w5.heap.size) (a := sn) (b := sd) (by simp)
    obtain ⟨b0, b1, b2⟩ := P10'.out.get (n := w3.heap.size) (a := bn) (b := bd) (by simp)
    go_wp2_with fail
    refine (sub_c sn sd bn bd kn kd kr Rsn.out.i.1 Rsn.out.i.2 Rbn.out.i.1 Rbn.out.i.2 (op_eq Rsn.out.1 Rbn.out.1 (Hk.out)) _).mono ?_; rintro e w11 ⟨rfl, hb⟩
    have Q11 := Lib.hid (P10'.out.below hb); have D11 := Lib.hid (B10'.out.trans (hb.mono B10'.out.size)); clear hb
    clear s0 s1 s2 b0 b1 b2
    have P11' := Lib.hid (Held.alloc Q11.out kn kd 28)
    have B11' := Lib.hid (Below.alloc D11.out (Below.size D11.out) (.cells #[.int .i64 kn, .int .i64 kd] 28))
    clear Q11 D11
    have SB := Lib.hid (show sr = true → kr = true ∧ kn = an ∧ kd = ad by intro h; have hx := (Num.res_ok (Hs.out.2.2.trans h)).2.1; rw [Hs.out.1, Hs.out.2.1] at hx; have := Num.fld_sub Ran.out.1 Rbn.out.1 Ran.out.2.1 Ran.out.2.2.1 Ran.out.2.2.2.2 Rsn.out.2.2.2.1 hx; rw [Hk.out.1, Hk.out.2.1, Hk.out.2.2] at this; exact this)
    go_upto_region 12 with fail
    go_cut [91] (fun s91 wx => s91 = .bool false ∧ Hid (Held wx [(w7.heap.size, mn, md), (w5.heap.size, sn, sd), (w4.heap.size, cn, cd), (w3.heap.size, bn, bd), (w2.heap.size, an, ad)]) ∧ Hid (Below w.heap.size w wx))
    case first =>
      have QS : Hid (Held _ [(w7.heap.size, mn, md), (w5.heap.size, sn, sd), (w4.heap.size, cn, cd), (w3.heap.size, bn, bd), (w2.heap.size, an, ad)]) := Lib.hid P11'.out.drop1
      obtain ⟨k0, k1, k2⟩ := P11'.out.get (n := w11.heap.size) (a := kn) (b := kd) (by simp)
      obtain ⟨a0, a1, a2⟩ := P11'.out.get (n := w2.heap.size) (a := an) (b := ad) (by simp)
      cases sr
      · skip
        go_wp2_with fail
        go_meet
        exact ⟨by first | rfl | (simp [*]; done), QS, B11'⟩
      · obtain ⟨e1, e2, e3⟩ := SB.out rfl
        subst e1; subst e2; subst e3
        go_wp2_with fail
        go_meet
        exact ⟨by first | rfl | (simp [*]; done), QS, B11'⟩
    case rest =>
      obtain ⟨rfl, P12', B12'⟩ := hcut
      clear P10' B10' P11' B11' SB Hk Rkn
      obtain ⟨un, hun⟩ : ∃ a, Num.resN (mn * bd) (md * bn) = a := ⟨_, rfl⟩
      obtain ⟨ud, hud⟩ : ∃ a, Num.resD (mn * bd) (md * bn) = a := ⟨_, rfl⟩
      obtain ⟨ur, hur⟩ : ∃ a, Num.okB (mn * bd) (md * bn) = a := ⟨_, rfl⟩
      have Hu := Lib.hid (And.intro hun (And.intro hud hur)); clear hun hud hur
      have Run := Lib.hid (show Rt un ud by rw [← Hu.out.1, ← Hu.out.2.1]; exact Rt.res _ _)
      obtain ⟨m0, m1, m2⟩ := P12'.out.get (n := w7.heap.size) (a := mn) (b := md) (by simp)
      obtain ⟨b0, b1, b2⟩ := P12'.out.get (n := w3.heap.size) (a := bn) (b := bd) (by simp)
      go_wp2_with fail
      refine (quo_c mn md bn bd un ud ur Rmn.out.i.1 Rmn.out.i.2 Rbn.out.i.1 Rbn.out.i.2 (op_eq Rmn.out.1 Rbn.out.1 (Hu.out)) _).mono ?_; rintro e w13 ⟨rfl, hb⟩
      have Q13 := Lib.hid (P12'.out.below hb); have D13 := Lib.hid (B12'.out.trans (hb.mono B12'.out.size)); clear hb
      clear m0 m1 m2 b0 b1 b2
      have P13' := Lib.hid (Held.alloc Q13.out un ud 28)
      have B13' := Lib.hid (Below.alloc D13.out (Below.size D13.out) (.cells #[.int .i64 un, .int .i64 ud] 28))
      clear Q13 D13
      have SU := Lib.hid (show mr = true → bn ≠ 0 → ur = true ∧ un = an ∧ ud = ad by intro h hb; have hx := (Num.res_ok (Hm.out.2.2.trans h)).2.1; rw [Hm.out.1, Hm.out.2.1] at hx; have := Num.fld_quo Ran.out.1 Rbn.out.1 Ran.out.2.1 Ran.out.2.2.1 Ran.out.2.2.2.2 Rmn.out.2.2.2.1 hx hb; rw [Hu.out.1, Hu.out.2.1, Hu.out.2.2] at this; exact this)
      go_upto_region 15 with fail
      go_cut [112] (fun s112 wx => s112 = .bool false ∧ Hid (Held wx [(w5.heap.size, sn, sd), (w4.heap.size, cn, cd), (w3.heap.size, bn, bd), (w2.heap.size, an, ad)]) ∧ Hid (Below w.heap.size w wx))
      case first =>
        have QS : Hid (Held _ [(w5.heap.size, sn, sd), (w4.heap.size, cn, cd), (w3.heap.size, bn, bd), (w2.heap.size, an, ad)]) := Lib.hid P13'.out.drop1.drop1
        obtain ⟨u0, u1, u2⟩ := P13'.out.get (n := w13.heap.size) (a := un) (b := ud) (by simp)
        obtain ⟨a0, a1, a2⟩ := P13'.out.get (n := w2.heap.size) (a := an) (b := ad) (by simp)
        obtain ⟨b0, b1, b2⟩ := P13'.out.get (n := w3.heap.size) (a := bn) (b := bd) (by simp)
        cases mr
        · skip
          go_wp2_with fail
          go_meet
          exact ⟨by first | rfl | (simp [*]; done), QS, B13'⟩
        · by_cases hbn : bn = 0
          · skip
            go_wp2_with fail
            go_meet
            exact ⟨by first | rfl | (simp [*]; done), (by first | exact QS | (rw [hbn]; exact QS) | (rw [hbn] at QS; exact QS)), B13'⟩
          · obtain ⟨e1, e2, e3⟩ := SU.out rfl hbn
            subst e1; subst e2; subst e3
            go_wp2_with fail
            go_meet
            exact ⟨by first | rfl | (simp [*]; done), QS, B13'⟩
      case rest =>
        obtain ⟨rfl, P14', B14'⟩ := hcut
        clear P12' B12' P13' B13' SU Hu Run Hm Rmn
        obtain ⟨ln, hln⟩ : ∃ a, Num.resN (sn * cn) (sd * cd) = a := ⟨_, rfl⟩
        obtain ⟨ld, hld⟩ : ∃ a, Num.resD (sn * cn) (sd * cd) = a := ⟨_, rfl⟩
        obtain ⟨lr, hlr⟩ : ∃ a, Num.okB (sn * cn) (sd * cd) = a := ⟨_, rfl⟩
        have Hl := Lib.hid (And.intro hln (And.intro hld hlr)); clear hln hld hlr
        have Rln := Lib.hid (show Rt ln ld by rw [← Hl.out.1, ← Hl.out.2.1]; exact Rt.res _ _)
        obtain ⟨s0, s1, s2⟩ := P14'.out.get (n := w5.heap.size) (a := sn) (b := sd) (by simp)
        obtain ⟨c0, c1, c2⟩ := P14'.out.get (n := w4.heap.size) (a := cn) (b := cd) (by simp)
        go_wp2_with fail
        refine (mul_c sn sd cn cd ln ld lr Rsn.out.i.1 Rsn.out.i.2 Rcn.out.i.1 Rcn.out.i.2 (op_eq Rsn.out.1 Rcn.out.1 (Hl.out)) _).mono ?_; rintro e w15 ⟨rfl, hb⟩
        have Q15 := Lib.hid (P14'.out.below hb); have D15 := Lib.hid (B14'.out.trans (hb.mono B14'.out.size)); clear hb
        clear s0 s1 s2 c0 c1 c2
        have P15' := Lib.hid (Held.alloc Q15.out ln ld 28)
        have B15' := Lib.hid (Below.alloc D15.out (Below.size D15.out) (.cells #[.int .i64 ln, .int .i64 ld] 28))
        clear Q15 D15
        obtain ⟨pn, hpn⟩ : ∃ a, Num.resN (an * cn) (ad * cd) = a := ⟨_, rfl⟩
        obtain ⟨pd, hpd⟩ : ∃ a, Num.resD (an * cn) (ad * cd) = a := ⟨_, rfl⟩
        obtain ⟨pr, hpr⟩ : ∃ a, Num.okB (an * cn) (ad * cd) = a := ⟨_, rfl⟩
        have Hp := Lib.hid (And.intro hpn (And.intro hpd hpr)); clear hpn hpd hpr
        have Rpn := Lib.hid (show Rt pn pd by rw [← Hp.out.1, ← Hp.out.2.1]; exact Rt.res _ _)
        obtain ⟨a0, a1, a2⟩ := P15'.out.get (n := w2.heap.size) (a := an) (b := ad) (by simp)
        obtain ⟨c0, c1, c2⟩ := P15'.out.get (n := w4.heap.size) (a := cn) (b := cd) (by simp)
        go_wp2_with fail
        refine (mul_c an ad cn cd pn pd pr Ran.out.i.1 Ran.out.i.2 Rcn.out.i.1 Rcn.out.i.2 (op_eq Ran.out.1 Rcn.out.1 (Hp.out)) _).mono ?_; rintro e w16 ⟨rfl, hb⟩
        have Q16 := Lib.hid (P15'.out.below hb); have D16 := Lib.hid (B15'.out.trans (hb.mono B15'.out.size)); clear hb
        clear a0 a1 a2 c0 c1 c2
        have P16' := Lib.hid (Held.alloc Q16.out pn pd 28)
        have B16' := Lib.hid (Below.alloc D16.out (Below.size D16.out) (.cells #[.int .i64 pn, .int .i64 pd] 28))
        clear Q16 D16
        obtain ⟨qn, hqn⟩ : ∃ a, Num.resN (bn * cn) (bd * cd) = a := ⟨_, rfl⟩
        obtain ⟨qd, hqd⟩ : ∃ a, Num.resD (bn * cn) (bd * cd) = a := ⟨_, rfl⟩
        obtain ⟨qr, hqr⟩ : ∃ a, Num.okB (bn * cn) (bd * cd) = a := ⟨_, rfl⟩
        have Hq := Lib.hid (And.intro hqn (And.intro hqd hqr)); clear hqn hqd hqr
        have Rqn := Lib.hid (show Rt qn qd by rw [← Hq.out.1, ← Hq.out.2.1]; exact Rt.res _ _)
        obtain ⟨b0, b1, b2⟩ := P16'.out.get (n := w3.heap.size) (a := bn) (b := bd) (by simp)
        obtain ⟨c0, c1, c2⟩ := P16'.out.get (n := w4.heap.size) (a := cn) (b := cd) (by simp)
        go_wp2_with fail
        refine (mul_c bn bd cn cd qn qd qr Rbn.out.i.1 Rbn.out.i.2 Rcn.out.i.1 Rcn.out.i.2 (op_eq Rbn.out.1 Rcn.out.1 (Hq.out)) _).mono ?_; rintro e w17 ⟨rfl, hb⟩
        have Q17 := Lib.hid (P16'.out.below hb); have D17 := Lib.hid (B16'.out.trans (hb.mono B16'.out.size)); clear hb
        clear b0 b1 b2 c0 c1 c2
        have P17' := Lib.hid (Held.alloc Q17.out qn qd 28)
        have B17' := Lib.hid (Below.alloc D17.out (Below.size D17.out) (.cells #[.int .i64 qn, .int .i64 qd] 28))
        clear Q17 D17
        obtain ⟨tn, htn⟩ : ∃ a, Num.resN (pn * qd + qn * pd) (pd * qd) = a := ⟨_, rfl⟩
        obtain ⟨td, htd⟩ : ∃ a, Num.resD (pn * qd + qn * pd) (pd * qd) = a := ⟨_, rfl⟩
        obtain ⟨tr, htr⟩ : ∃ a, Num.okB (pn * qd + qn * pd) (pd * qd) = a := ⟨_, rfl⟩
        have Ht := Lib.hid (And.intro htn (And.intro htd htr)); clear htn htd htr
        have Rtn := Lib.hid (show Rt tn td by rw [← Ht.out.1, ← Ht.out.2.1]; exact Rt.res _ _)
        obtain ⟨p0, p1, p2⟩ := P17'.out.get (n := w16.heap.size) (a := pn) (b := pd) (by simp)
        obtain ⟨q0, q1, q2⟩ := P17'.out.get (n := w17.heap.size) (a := qn) (b := qd) (by simp)
        go_wp2_with fail
        refine (add_c pn pd qn qd tn td tr Rpn.out.i.1 Rpn.out.i.2 Rqn.out.i.1 Rqn.out.i.2 (op_eq Rpn.out.1 Rqn.out.1 (Ht.out)) _).mono ?_; rintro e w18 ⟨rfl, hb⟩
        have Q18 := Lib.hid (P17'.out.below hb); have D18 := Lib.hid (B17'.out.trans (hb.mono B17'.out.size)); clear hb
        clear p0 p1 p2 q0 q1 q2
        have P18' := Lib.hid (Held.alloc Q18.out tn td 28)
        have B18' := Lib.hid (Below.alloc D18.out (Below.size D18.out) (.cells #[.int .i64 tn, .int .i64 td] 28))
        clear Q18 D18
        have DI := Lib.hid (show sr = true → lr = true → pr = true → qr = true → tr = true → ln = tn ∧ ld = td by
          intro h1 h2 h3 h4 h5
          have k1 := (Num.res_ok (Hs.out.2.2.trans h1)).2.1; rw [Hs.out.1, Hs.out.2.1] at k1
          have k2 := (Num.res_ok (Hl.out.2.2.trans h2)).2.1; rw [Hl.out.1, Hl.out.2.1] at k2
          have k3 := (Num.res_ok (Hp.out.2.2.trans h3)).2.1; rw [Hp.out.1, Hp.out.2.1] at k3
          have k4 := (Num.res_ok (Hq.out.2.2.trans h4)).2.1; rw [Hq.out.1, Hq.out.2.1] at k4
          have k5 := (Num.res_ok (Ht.out.2.2.trans h5)).2.1; rw [Ht.out.1, Ht.out.2.1] at k5
          exact Num.fld_dist Ran.out.1 Rbn.out.1 Rcn.out.1 k1 Rsn.out.2.2.2.1 k2 Rln.out.1 k3 Rpn.out.2.2.2.1 k4 Rqn.out.2.2.2.1 k5 Rtn.out.1)
        obtain ⟨l0, l1, l2⟩ := P18'.out.get (n := w15.heap.size) (a := ln) (b := ld) (by simp)
        obtain ⟨v0, v1, v2⟩ := P18'.out.get (n := w18.heap.size) (a := tn) (b := td) (by simp)
        cases sr
        · skip
          go_wp2
          go_ret
          exact ⟨by first | rfl | simp, B18'.out⟩
        · cases lr
          · skip
            go_wp2
            go_ret
            exact ⟨by first | rfl | simp, B18'.out⟩
          · cases pr
            · skip
              go_wp2
              go_ret
              exact ⟨by first | rfl | simp, B18'.out⟩
            · cases qr
              · skip
                go_wp2
                go_ret
                exact ⟨by first | rfl | simp, B18'.out⟩
              · cases tr
                · skip
                  go_wp2
                  go_ret
                  exact ⟨by first | rfl | simp, B18'.out⟩
                · have e := DI.out rfl rfl rfl rfl rfl
                  have e1 : ln = tn := e.1
                  have e2 : ld = td := e.2
                  subst e1; subst e2; clear e DI
                  go_wp2
                  go_ret
                  exact ⟨by first | rfl | simp, B18'.out⟩
end Go.Proofs.YtokmfgpbfhfafaaDoor
