/- Right numbers: what the laws of layer 1 say of them. No Go stands in it. -/
import Derived.Test.YtnccllelmbcdcaaGreatDoorLow
import Derived.Test.YtnccllelmbcdcaaGreatDoorWp
namespace Go.Proofs.YtnccllelmbcdcaaGreatDoor
namespace Num

theorem low_cross {n d : Int} (hd : d ≠ 0) : lowN n d * d = n * lowD n d := by
  have hgp := gcd_pos_of (n := n) hd
  obtain ⟨n', hn'⟩ : ((Int.gcd n d : Nat) : Int) ∣ n := Int.gcd_dvd_left ..
  obtain ⟨d', hd'⟩ : ((Int.gcd n d : Nat) : Int) ∣ d := Int.gcd_dvd_right ..
  have hg0 : ((Int.gcd n d : Nat) : Int) ≠ 0 := by omega
  unfold lowN lowD
  generalize Int.gcd n d = g at *
  subst hn' hd'
  by_cases hneg : (g : Int) * d' < 0
  · simp only [hneg, if_true]
    rw [← Int.mul_neg, ← Int.mul_neg, Int.mul_ediv_cancel_left _ hg0, Int.mul_ediv_cancel_left _ hg0]; grind
  · simp only [hneg, if_false]
    rw [Int.mul_ediv_cancel_left _ hg0, Int.mul_ediv_cancel_left _ hg0]; grind
theorem low_pos {n d : Int} (hd : d ≠ 0) : 1 ≤ lowD n d := (low_abs hd).2.1
theorem rt_pos {a b : Int} (h : rtB a b = true) : 1 ≤ b := by
  unfold rtB at h; simp only [Bool.and_eq_true, decide_eq_true_eq] at h; exact h.1
theorem low_of {a b n d : Int} (h : rtB a b = true) (hd : d ≠ 0) (hx : a * d = n * b) : lowN n d = a ∧ lowD n d = b := by
  have hb := rt_pos h
  unfold rtB at h; rw [gcdI_natAbs] at h; simp only [Bool.and_eq_true, decide_eq_true_eq] at h
  have hg : Nat.gcd a.natAbs b.natAbs = 1 := by have := h.2; unfold Int.gcd at this; exact_mod_cast this
  have := low_eq (n := n) (d := d) (s := decide (a < 0)) (N := a.natAbs) (D := b.natAbs) hd hg (by omega) (by rw [sgn_abs]; rw [hx]; congr 1; omega)
  rw [sgn_abs] at this
  exact ⟨this.1, by rw [this.2]; omega⟩
/-- Two right numbers with one value are one. -/
theorem rt_eq {a b c d : Int} (h : rtB a b = true) (k : rtB c d = true) (hx : a * d = c * b) : a = c ∧ b = d := by
  have hd := rt_pos k; have hb := rt_pos h
  have u := low_of (n := c) (d := d) h (by omega) hx
  have v := low_of (n := c) (d := d) k (by omega) rfl
  exact ⟨u.1.symm.trans v.1, u.2.symm.trans v.2⟩
theorem res_of {a b n d : Int} (h : rtB a b = true) (hd : d ≠ 0) (hx : a * d = n * b) (h1 : -9223372036854775808 ≤ a) (h2 : a ≤ 9223372036854775807) (h3 : b ≤ 9223372036854775807) :
    okB n d = true ∧ resN n d = a ∧ resD n d = b := by
  obtain ⟨e1, e2⟩ := low_of h hd hx
  have ho : okB n d = true := by unfold okB; rw [e1, e2]; simp only [Bool.and_eq_true, decide_eq_true_eq]; omega
  exact ⟨ho, by unfold resN; rw [if_pos ho, e1], by unfold resD; rw [if_pos ho, e2]⟩
theorem res_ok {n d : Int} (h : okB n d = true) : d ≠ 0 ∧ resN n d * d = n * resD n d ∧ 1 ≤ resD n d ∧ rtB (resN n d) (resD n d) = true := by
  have hd : d ≠ 0 := by intro h0; subst h0; simp [okB] at h
  refine ⟨hd, ?_, ?_, res_right n d⟩
  · unfold resN resD; rw [if_pos h, if_pos h]; exact low_cross hd
  · unfold resD; rw [if_pos h]; exact low_pos hd
theorem sign_of {r b n d : Int} (hd : 0 < d) (hb : 0 < b) (h : r * d = n * b) : (0 < r ↔ 0 < n) ∧ (r < 0 ↔ n < 0) := by
  have key : ∀ x y : Int, 0 < y → (0 < x → 0 < x * y) ∧ (x < 0 → x * y < 0) ∧ (x = 0 → x * y = 0) := fun x y hy =>
    ⟨fun hx => Int.mul_pos hx hy, fun hx => Int.mul_neg_of_neg_of_pos hx hy, fun hx => by rw [hx]; simp⟩
  have k1 := key r d hd
  have k2 := key n b hb
  have a1 := k1.1; have a2 := k1.2.1; have a3 := k1.2.2; have b1 := k2.1; have b2 := k2.2.1; have b3 := k2.2.2
  rw [h] at a1 a2 a3
  generalize n * b = z at *
  rcases Int.lt_trichotomy r 0 with hr | hr | hr <;> rcases Int.lt_trichotomy n 0 with hn | hn | hn
  · have := a2 hr; have := b2 hn; omega
  · have := a2 hr; have := b3 hn; omega
  · have := a2 hr; have := b1 hn; omega
  · have := a3 hr; have := b2 hn; omega
  · have := a3 hr; have := b3 hn; omega
  · have := a3 hr; have := b1 hn; omega
  · have := a1 hr; have := b2 hn; omega
  · have := a1 hr; have := b3 hn; omega
  · have := a1 hr; have := b1 hn; omega

/-! ### the order -/
theorem cmpI_neg (x y : Int) : cmpI y x = -cmpI x y := by unfold cmpI; split <;> split <;> (try split) <;> (try split) <;> omega
theorem cmpI_zero (x y : Int) : cmpI x y = 0 ↔ x = y := by unfold cmpI; split <;> (try split) <;> omega
theorem cmpI_le (x y : Int) : cmpI x y ≤ 0 ↔ x ≤ y := by unfold cmpI; split <;> (try split) <;> omega
theorem cmpI_pos (x y : Int) : 0 < cmpI x y ↔ y < x := by unfold cmpI; split <;> (try split) <;> omega
theorem cmpI_lt (x y : Int) : cmpI x y < 0 ↔ x < y := by unfold cmpI; split <;> (try split) <;> omega
theorem cmpV_rt {a b c d : Int} (h : rtB a b = true) (k : rtB c d = true) : cmpV a b c d = cmpI (a * d) (c * b) := by unfold cmpV; rw [h, k]; rfl
theorem cmpI_scale {x y k : Int} (hk : 0 < k) : cmpI (x * k) (y * k) = cmpI x y := by
  have h1 : x * k = y * k ↔ x = y := ⟨fun h => Int.eq_of_mul_eq_mul_right (by omega) h, fun h => by rw [h]⟩
  have h2 : x * k < y * k ↔ x < y := ⟨fun h => Int.lt_of_mul_lt_mul_right h (by omega), fun h => Int.mul_lt_mul_of_pos_right h hk⟩
  unfold cmpI; simp only [h1, h2]
/-- The order does not depend on how the numbers are written. -/
theorem cmpI_cross {a b c d a' b' c' d' : Int} (hb : 0 < b) (hd : 0 < d) (hb' : 0 < b') (hd' : 0 < d') (h1 : a * b' = a' * b) (h2 : c * d' = c' * d) : cmpI (a * d) (c * b) = cmpI (a' * d') (c' * b') := by
  rw [← cmpI_scale (x := a * d) (y := c * b) (k := b' * d') (Int.mul_pos hb' hd'), ← cmpI_scale (x := a' * d') (y := c' * b') (k := b * d) (Int.mul_pos hb hd)]
  have e1 : a * d * (b' * d') = a' * d' * (b * d) := by
    have : a * d * (b' * d') = (a * b') * (d * d') := by grind
    rw [this, h1]; grind
  have e2 : c * b * (b' * d') = c' * b' * (b * d) := by
    have : c * b * (b' * d') = (c * d') * (b * b') := by grind
    rw [this, h2]; grind
  rw [e1, e2]

variable {an ad bn bd cn cd : Int}
theorem ord_anti (ha : rtB an ad = true) (hb : rtB bn bd = true) : cmpV bn bd an ad = -cmpV an ad bn bd := by
  rw [cmpV_rt ha hb, cmpV_rt hb ha, cmpI_neg]
theorem ord_zero (ha : rtB an ad = true) (hb : rtB bn bd = true) : cmpV an ad bn bd = 0 ↔ (an = bn ∧ ad = bd) := by
  rw [cmpV_rt ha hb, cmpI_zero]
  exact ⟨fun h => rt_eq ha hb h, fun h => by rw [h.1, h.2]⟩
theorem ord_trans (ha : rtB an ad = true) (hb : rtB bn bd = true) (hc : rtB cn cd = true) (h1 : cmpV an ad bn bd ≤ 0) (h2 : cmpV bn bd cn cd ≤ 0) : cmpV an ad cn cd ≤ 0 := by
  have pa := rt_pos ha; have pb := rt_pos hb; have pc := rt_pos hc
  rw [cmpV_rt ha hb, cmpI_le] at h1
  rw [cmpV_rt hb hc, cmpI_le] at h2
  rw [cmpV_rt ha hc, cmpI_le]
  have k1 : an * bd * cd ≤ bn * ad * cd := Int.mul_le_mul_of_nonneg_right h1 (by omega)
  have k2 : bn * cd * ad ≤ cn * bd * ad := Int.mul_le_mul_of_nonneg_right h2 (by omega)
  have k3 : an * cd * bd ≤ cn * ad * bd := by
    have e1 : an * cd * bd = an * bd * cd := by grind
    have e2 : cn * ad * bd = cn * bd * ad := by grind
    have e3 : bn * ad * cd = bn * cd * ad := by grind
    omega
  exact Int.le_of_mul_le_mul_right k3 (by omega)
theorem ord_sub (ha : rtB an ad = true) (hb : rtB bn bd = true) (ho : okB (an * bd - bn * ad) (ad * bd) = true) :
    (0 < resN (an * bd - bn * ad) (ad * bd) ↔ 0 < cmpV an ad bn bd) ∧ (resN (an * bd - bn * ad) (ad * bd) < 0 ↔ cmpV an ad bn bd < 0) := by
  have pa := rt_pos ha; have pb := rt_pos hb
  obtain ⟨_, hx, hp, _⟩ := res_ok ho
  have s := sign_of (Int.mul_pos (show 0 < ad by omega) (show 0 < bd by omega)) (by omega) hx
  rw [cmpV_rt ha hb, cmpI_pos, cmpI_lt]
  exact ⟨s.1.trans (by omega), s.2.trans (by omega)⟩
theorem ord_add (ha : rtB an ad = true) (hb : rtB bn bd = true) (hc : rtB cn cd = true) (h1 : okB (an * cd + cn * ad) (ad * cd) = true) (h2 : okB (bn * cd + cn * bd) (bd * cd) = true) :
    cmpV (resN (an * cd + cn * ad) (ad * cd)) (resD (an * cd + cn * ad) (ad * cd)) (resN (bn * cd + cn * bd) (bd * cd)) (resD (bn * cd + cn * bd) (bd * cd)) = cmpV an ad bn bd := by
  have pa := rt_pos ha; have pb := rt_pos hb; have pc := rt_pos hc
  obtain ⟨_, hx, hp, hr⟩ := res_ok h1
  obtain ⟨_, hy, hq, hs⟩ := res_ok h2
  rw [cmpV_rt hr hs, cmpV_rt ha hb]
  rw [cmpI_cross (a' := an * cd + cn * ad) (b' := ad * cd) (c' := bn * cd + cn * bd) (d' := bd * cd) (by omega) (by omega) (Int.mul_pos (by omega) (by omega)) (Int.mul_pos (by omega) (by omega)) hx hy]
  have hcc : 0 < cd * cd := Int.mul_pos (by omega) (by omega)
  rw [← cmpI_scale (x := an * bd) (y := bn * ad) hcc]
  unfold cmpI
  have e : (an * cd + cn * ad) * (bd * cd) - (bn * cd + cn * bd) * (ad * cd) = an * bd * (cd * cd) - bn * ad * (cd * cd) := by grind
  generalize (an * cd + cn * ad) * (bd * cd) = A at *
  generalize (bn * cd + cn * bd) * (ad * cd) = B at *
  generalize an * bd * (cd * cd) = C at *
  generalize bn * ad * (cd * cd) = D at *
  split <;> split <;> (try split) <;> (try split) <;> omega

/-! ### the floor -/
theorem flr_all (ha : rtB an ad = true) (h1 : -9223372036854775808 ≤ an) (h2 : an ≤ 9223372036854775807) (h3 : ad ≤ 9223372036854775807) :
    cmpV (flr an ad) 1 an ad ≤ 0 ∧ okB (an * 1 - flr an ad * ad) (ad * 1) = true ∧ 0 ≤ resN (an * 1 - flr an ad * ad) (ad * 1) ∧ resN (an * 1 - flr an ad * ad) (ad * 1) < resD (an * 1 - flr an ad * ad) (ad * 1) ∧
      -9223372036854775808 ≤ flr an ad ∧ flr an ad ≤ 9223372036854775807 := by
  have pa := rt_pos ha
  have hf : flr an ad = an / ad := by unfold flr; rw [ha]; rfl
  rw [hf, cmpV_rt (rt_of _) ha, cmpI_le]
  have e := Int.mul_ediv_add_emod an ad
  have r0 := Int.emod_nonneg an (b := ad) (by omega)
  have r1 := Int.emod_lt_of_pos an (b := ad) (by omega)
  have ec : an / ad * ad = ad * (an / ad) := Int.mul_comm _ _
  have hm : an * 1 - an / ad * ad = an % ad := by omega
  have hd1 : ad * 1 = ad := by omega
  rw [hm, hd1]
  have b1 : -9223372036854775808 ≤ an / ad ∧ an / ad ≤ 9223372036854775807 := by
    generalize an / ad = q at *
    constructor
    · by_cases h : -9223372036854775808 ≤ q
      · exact h
      · exfalso
        have : ad * (q + 1) ≤ 1 * (q + 1) := Int.mul_le_mul_of_nonpos_right pa (by omega)
        have e2 : ad * (q + 1) = ad * q + ad := by grind
        omega
    · by_cases h : q ≤ 9223372036854775807
      · exact h
      · exfalso
        have : 1 * q ≤ ad * q := Int.mul_le_mul_of_nonneg_right pa (by omega)
        omega
  obtain ⟨ho, hN, hD⟩ := ok_small (n := an % ad) (d := ad) (by omega) (by omega) (by omega)
  obtain ⟨_, hx, hp, _⟩ := res_ok ho
  have s := sign_of (show 0 < ad by omega) (show 0 < resD (an % ad) ad by omega) hx
  refine ⟨by omega, ho, by omega, ?_, b1.1, b1.2⟩
  have : resN (an % ad) ad * ad < resD (an % ad) ad * ad := by
    rw [hx, Int.mul_comm (resD _ _) ad]
    exact Int.mul_lt_mul_of_pos_right r1 (by omega)
  exact Int.lt_of_mul_lt_mul_right this (by omega)

/-! ### sums and products -/
theorem fld_sub (ha : rtB an ad = true) (hb : rtB bn bd = true) (h1 : -9223372036854775808 ≤ an) (h2 : an ≤ 9223372036854775807) (h3 : ad ≤ 9223372036854775807) {n d : Int} (hd : 1 ≤ d) (hx : n * (ad * bd) = (an * bd + bn * ad) * d) :
    okB (n * bd - bn * d) (d * bd) = true ∧ resN (n * bd - bn * d) (d * bd) = an ∧ resD (n * bd - bn * d) (d * bd) = ad := by
  have pa := rt_pos ha; have pb := rt_pos hb
  refine res_of ha (by have := Int.mul_pos (show 0 < d by omega) (show 0 < bd by omega); omega) ?_ h1 h2 h3
  grind
theorem fld_quo (ha : rtB an ad = true) (hb : rtB bn bd = true) (h1 : -9223372036854775808 ≤ an) (h2 : an ≤ 9223372036854775807) (h3 : ad ≤ 9223372036854775807) {n d : Int} (hd : 1 ≤ d) (hx : n * (ad * bd) = an * bn * d) (hbn : bn ≠ 0) :
    okB (n * bd) (d * bn) = true ∧ resN (n * bd) (d * bn) = an ∧ resD (n * bd) (d * bn) = ad := by
  have pa := rt_pos ha; have pb := rt_pos hb
  refine res_of ha (Int.mul_ne_zero (by omega) hbn) ?_ h1 h2 h3
  grind
theorem fld_dist (ha : rtB an ad = true) (hb : rtB bn bd = true) (hc : rtB cn cd = true) {sn sd ln ld pn pd qn qd rn rd : Int}
    (hs : sn * (ad * bd) = (an * bd + bn * ad) * sd) (hs1 : 1 ≤ sd)
    (hl : ln * (sd * cd) = (sn * cn) * ld) (hlr : rtB ln ld = true)
    (hp : pn * (ad * cd) = (an * cn) * pd) (hp1 : 1 ≤ pd) (hq : qn * (bd * cd) = (bn * cn) * qd) (hq1 : 1 ≤ qd)
    (hr : rn * (pd * qd) = (pn * qd + qn * pd) * rd) (hrr : rtB rn rd = true) : ln = rn ∧ ld = rd := by
  have pa := rt_pos ha; have pb := rt_pos hb; have pc := rt_pos hc; have pl := rt_pos hlr; have pr := rt_pos hrr
  refine rt_eq hlr hrr ?_
  have hK : (sd * cd) * (ad * bd) * (pd * qd) * ((ad * cd) * (bd * cd)) ≠ 0 := by
    repeat' (first | apply Int.mul_ne_zero | omega)
  refine Int.eq_of_mul_eq_mul_right hK ?_
  have e1 : ln * rd * ((sd * cd) * (ad * bd) * (pd * qd) * ((ad * cd) * (bd * cd))) = (ln * (sd * cd)) * (rd * (ad * bd) * (pd * qd) * ((ad * cd) * (bd * cd))) := by grind
  have e2 : rn * ld * ((sd * cd) * (ad * bd) * (pd * qd) * ((ad * cd) * (bd * cd))) = (rn * (pd * qd)) * (ld * (sd * cd) * (ad * bd) * ((ad * cd) * (bd * cd))) := by grind
  rw [e1, e2, hl, hr]
  have e3 : sn * cn * ld * (rd * (ad * bd) * (pd * qd) * ((ad * cd) * (bd * cd))) = (sn * (ad * bd)) * (cn * ld * rd * (pd * qd) * ((ad * cd) * (bd * cd))) := by grind
  have e4 : (pn * qd + qn * pd) * rd * (ld * (sd * cd) * (ad * bd) * ((ad * cd) * (bd * cd))) = ((pn * (ad * cd)) * (qd * (bd * cd)) + (qn * (bd * cd)) * (pd * (ad * cd))) * (rd * ld * (sd * cd) * (ad * bd)) := by grind
  rw [e3, e4, hs, hp, hq]
  grind
end Num
end Go.Proofs.YtnccllelmbcdcaaGreatDoor
