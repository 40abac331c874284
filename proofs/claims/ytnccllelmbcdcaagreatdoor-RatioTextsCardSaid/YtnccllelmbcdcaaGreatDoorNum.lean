/-
  Plain arithmetic of rational numbers: lowest terms, sums, products. No Go stands in it.
-/
import Derived.Below
namespace Go.Proofs.YtnccllelmbcdcaaGreatDoor
/-- n is an int. -/
def I64 (n : Int) : Prop := -9223372036854775808 ≤ n ∧ n ≤ 9223372036854775807
namespace Num

/-- The greatest common divisor of two numbers that are not negative. -/
def gcdI (a b : Int) : Int := (Nat.gcd a.toNat b.toNat : Nat)

/-- The sign of a fraction put before its numerator. -/
def sgn (s : Bool) (n : Int) : Int := if s then -n else n

/-- Does the number with this sign and these parts in lowest terms fit? -/
def fitsB (s : Bool) (n d : Int) : Bool := (if s then decide (n ≤ 9223372036854775808) else decide (n ≤ 9223372036854775807)) && decide (d ≤ 9223372036854775807)

def fitN (s : Bool) (n d : Int) : Int := if fitsB s n d then sgn s n else 0
def fitD (s : Bool) (n d : Int) : Int := if fitsB s n d then d else 1

/-- n / d in lowest terms, with a denominator that is positive; whether it fits. -/
def lowN (n d : Int) : Int := (if d < 0 then -n else n) / (Int.gcd n d : Nat)
def lowD (n d : Int) : Int := (if d < 0 then -d else d) / (Int.gcd n d : Nat)
def okB (n d : Int) : Bool := decide (d ≠ 0) && decide (-9223372036854775808 ≤ lowN n d) && decide (lowN n d ≤ 9223372036854775807) && decide (lowD n d ≤ 9223372036854775807)
def resN (n d : Int) : Int := if okB n d then lowN n d else 0
def resD (n d : Int) : Int := if okB n d then lowD n d else 1

theorem low_unique {a b c d : Nat} (h : a * d = c * b) (h1 : Nat.gcd a b = 1) (h2 : Nat.gcd c d = 1) : a = c ∧ b = d := by
  have e1 : b ∣ d := Nat.Coprime.dvd_of_dvd_mul_left (Nat.coprime_comm.1 h1) ⟨c, by rw [h, Nat.mul_comm]⟩
  have e2 : d ∣ b := Nat.Coprime.dvd_of_dvd_mul_left (Nat.coprime_comm.1 h2) ⟨a, by rw [← h, Nat.mul_comm]⟩
  have e := Nat.dvd_antisymm e1 e2
  subst e
  refine ⟨?_, rfl⟩
  rcases Nat.eq_zero_or_pos b with hb | hb
  · subst hb; simp at h1 h2; omega
  · exact Nat.eq_of_mul_eq_mul_right hb h

/-- lowest terms, once more: what lowN and lowD are. -/
theorem low_eq {n d : Int} {s : Bool} {N D : Nat} (hd : d ≠ 0) (hg : Nat.gcd N D = 1) (hD : 0 < D) (h : sgn s N * d = n * D) : lowN n d = sgn s N ∧ lowD n d = D := by
  have hgp : 0 < Int.gcd n d := by
    rcases Nat.eq_zero_or_pos (Int.gcd n d) with h0 | h0
    · rw [Int.gcd_eq_zero_iff] at h0; omega
    · exact h0
  obtain ⟨n', hn'⟩ : ((Int.gcd n d : Nat) : Int) ∣ n := Int.gcd_dvd_left ..
  obtain ⟨d', hd'⟩ : ((Int.gcd n d : Nat) : Int) ∣ d := Int.gcd_dvd_right ..
  have hg0 : ((Int.gcd n d : Nat) : Int) ≠ 0 := by omega
  unfold lowN lowD
  generalize hG : Int.gcd n d = g at *
  subst hn' hd'
  have hco : Nat.gcd n'.natAbs d'.natAbs = 1 := by
    rw [Int.gcd_mul_left] at hG
    have h3 : g * Nat.gcd n'.natAbs d'.natAbs = g * 1 := by
      have : Int.gcd n' d' = Nat.gcd n'.natAbs d'.natAbs := rfl
      rw [← this]; simpa using hG
    exact Nat.eq_of_mul_eq_mul_left hgp h3
  have hd0 : d' ≠ 0 := by intro h0; subst h0; simp at hd
  have hx : sgn s N * d' = n' * D := by
    have : (g : Int) * (sgn s N * d') = (g : Int) * (n' * D) := by rw [← Int.mul_assoc, ← Int.mul_assoc, Int.mul_comm (g : Int) (sgn s N), Int.mul_assoc]; exact h
    exact Int.eq_of_mul_eq_mul_left hg0 this
  have ha : N * d'.natAbs = n'.natAbs * D := by
    have := congrArg Int.natAbs hx
    rw [Int.natAbs_mul, Int.natAbs_mul] at this
    have e : (sgn s N).natAbs = N := by unfold sgn; split <;> grind
    rw [e] at this; simpa using this
  have ⟨u1, u2⟩ := low_unique (a := n'.natAbs) (b := d'.natAbs) (c := N) (d := D) ha.symm hco hg
  by_cases hneg : d' < 0
  · have hD' : (D : Int) = -d' := by omega
    have hlt : (g : Int) * d' < 0 := Int.mul_neg_of_pos_of_neg (by omega) hneg
    have e1 : n' = - sgn s N := by
      rw [hD'] at hx
      have : d' * sgn s N = d' * (-n') := by rw [Int.mul_comm, hx]; rw [Int.mul_neg, Int.mul_neg, Int.mul_comm]
      have := Int.eq_of_mul_eq_mul_left hd0 this
      omega
    simp only [hlt, if_true, e1]
    rw [← Int.mul_neg, ← Int.mul_neg, Int.mul_ediv_cancel_left _ hg0, Int.mul_ediv_cancel_left _ hg0]
    constructor <;> omega
  · have hD' : (D : Int) = d' := by omega
    have hlt : ¬ (g : Int) * d' < 0 := by
      have : 0 ≤ (g : Int) * d' := Int.mul_nonneg (by omega) (by omega)
      omega
    have e1 : n' = sgn s N := by
      rw [hD'] at hx
      have : d' * sgn s N = d' * n' := by rw [Int.mul_comm, hx, Int.mul_comm]
      have := Int.eq_of_mul_eq_mul_left hd0 this
      omega
    simp only [hlt, if_false, e1]
    rw [Int.mul_ediv_cancel_left _ hg0, Int.mul_ediv_cancel_left _ hg0]
    exact ⟨rfl, hD'.symm⟩

theorem fit_eq {n d : Int} {s : Bool} {N D : Int} (hd : d ≠ 0) (hN : 0 ≤ N) (hD : 0 < D) (hg : gcdI N D = 1) (h : sgn s N * d = n * D) :
    fitsB s N D = okB n d ∧ fitN s N D = resN n d ∧ fitD s N D = resD n d := by
  obtain ⟨N, rfl⟩ := Int.eq_ofNat_of_zero_le hN
  obtain ⟨D, rfl⟩ := Int.eq_ofNat_of_zero_le (Int.le_of_lt hD)
  have hg' : Nat.gcd N D = 1 := by unfold gcdI at hg; simp at hg; exact_mod_cast hg
  obtain ⟨e1, e2⟩ := low_eq (s := s) hd hg' (by omega) h
  have e3 : fitsB s N D = okB n d := by
    unfold fitsB okB
    rw [e1, e2]
    cases s <;> simp [sgn, hd] <;> (rw [Bool.eq_iff_iff]; simp; omega)
  refine ⟨e3, ?_, ?_⟩
  · unfold fitN resN; rw [e3, e1]
  · unfold fitD resD; rw [e3, e2]

/-- The size and the sign of a sum of two numbers with signs. -/
def adN (s t : Bool) (l r : Int) : Int := if s = t then l + r else if l = r then 0 else if l < r then r - l else l - r
def adS (s t : Bool) (l r : Int) : Bool := if s = t then s else if l = r then false else if l < r then t else s

theorem adN_nonneg {s t : Bool} {l r : Int} (hl : 0 ≤ l) (hr : 0 ≤ r) : 0 ≤ adN s t l r := by
  unfold adN; split <;> (try split) <;> (try split) <;> omega

theorem ad_eq (s t : Bool) (l r : Int) : sgn (adS s t l r) (adN s t l r) = sgn s l + sgn t r := by
  unfold adS adN sgn
  cases s <;> cases t <;> simp <;> (try split) <;> (try split) <;> (try simp) <;> omega

/-- A common divisor of the sum and of one cofactor is 1. -/
theorem cop_cof {an ad bn a' b' T g : Nat} (had : ad = g * a') (h1 : Nat.gcd an ad = 1) (hab : Nat.gcd a' b' = 1)
    (hT : T = an * b' + bn * a' ∨ T + an * b' = bn * a' ∨ T + bn * a' = an * b') : Nat.gcd T a' = 1 := by
  have hp1 : Nat.gcd T a' ∣ T := Nat.gcd_dvd_left ..
  have hp2 : Nat.gcd T a' ∣ a' := Nat.gcd_dvd_right ..
  generalize Nat.gcd T a' = p at *
  have hp3 : p ∣ bn * a' := Nat.dvd_trans hp2 ⟨bn, Nat.mul_comm ..⟩
  have hp4 : p ∣ an * b' := by
    rcases hT with h | h | h
    · exact (Nat.dvd_add_left hp3).1 (h ▸ hp1)
    · exact (Nat.dvd_add_right hp1).1 (h ▸ hp3)
    · exact h ▸ Nat.dvd_add hp1 hp3
  have hc : Nat.Coprime p b' := Nat.Coprime.coprime_dvd_left hp2 hab
  have hp5 : p ∣ an := Nat.Coprime.dvd_of_dvd_mul_right hc hp4
  have : p ∣ Nat.gcd an ad := Nat.dvd_gcd hp5 (had ▸ Nat.dvd_trans hp2 ⟨g, Nat.mul_comm ..⟩)
  rw [h1] at this
  exact Nat.dvd_one.1 this

theorem sum_low {s t : Bool} {an ad bn bd : Int} (h1 : 0 ≤ an) (h2 : 0 < ad) (h3 : 0 ≤ bn) (h4 : 0 < bd) (ha : gcdI an ad = 1) (hb : gcdI bn bd = 1)
    {g T rest : Int} (hg : g = gcdI ad bd) (hT : T = adN s t (an * (bd / g)) (bn * (ad / g))) (hr : rest = gcdI (T % g) g) :
    gcdI (T / rest) ((ad / g) * (bd / rest)) = 1 ∧ 0 < (ad / g) * (bd / rest) ∧ 0 ≤ T / rest ∧
      sgn (adS s t (an * (bd / g)) (bn * (ad / g))) (T / rest) * (ad * bd) = (sgn s an * bd + sgn t bn * ad) * ((ad / g) * (bd / rest)) := by
  have hs := ad_eq s t (an * (bd / g)) (bn * (ad / g))
  rw [← hT] at hs
  generalize adS s t (an * (bd / g)) (bn * (ad / g)) = S at *
  obtain ⟨an, rfl⟩ := Int.eq_ofNat_of_zero_le h1
  obtain ⟨bn, rfl⟩ := Int.eq_ofNat_of_zero_le h3
  obtain ⟨ad, rfl⟩ := Int.eq_ofNat_of_zero_le (Int.le_of_lt h2)
  obtain ⟨bd, rfl⟩ := Int.eq_ofNat_of_zero_le (Int.le_of_lt h4)
  unfold gcdI at ha hb hg
  simp only [Int.toNat_natCast] at ha hb hg
  have ha' : Nat.gcd an ad = 1 := by exact_mod_cast ha
  have hb' : Nat.gcd bn bd = 1 := by exact_mod_cast hb
  have hgp : 0 < Nat.gcd ad bd := Nat.gcd_pos_of_pos_left _ (by omega)
  have hab : Nat.gcd (ad / Nat.gcd ad bd) (bd / Nat.gcd ad bd) = 1 := Nat.coprime_div_gcd_div_gcd hgp
  have hd1 : ad = Nat.gcd ad bd * (ad / Nat.gcd ad bd) := (Nat.mul_div_cancel' (Nat.gcd_dvd_left ..)).symm
  have hd2 : bd = Nat.gcd ad bd * (bd / Nat.gcd ad bd) := (Nat.mul_div_cancel' (Nat.gcd_dvd_right ..)).symm
  generalize hG0 : Nat.gcd ad bd = g0 at *
  subst hg
  have e1 : (ad : Int) / (g0 : Int) = ((ad / g0 : Nat) : Int) := by simp
  have e2 : (bd : Int) / (g0 : Int) = ((bd / g0 : Nat) : Int) := by simp
  rw [e1, e2] at hs hT
  rw [e1]
  generalize ad / g0 = a' at *
  generalize bd / g0 = b' at *
  have hT0 : 0 ≤ T := by
    rw [hT]; exact adN_nonneg (by exact_mod_cast Nat.zero_le _) (by exact_mod_cast Nat.zero_le _)
  have hT1 : T = (an : Int) * b' + bn * a' ∨ T + an * b' = bn * a' ∨ T + bn * a' = an * b' := by
    rw [hT]; unfold adN
    split
    · left; rfl
    · split
      · right; left; omega
      · split
        · right; left; omega
        · right; right; omega
  clear hT
  obtain ⟨T, rfl⟩ := Int.eq_ofNat_of_zero_le hT0
  have hT2 : T = an * b' + bn * a' ∨ T + an * b' = bn * a' ∨ T + bn * a' = an * b' := by
    rcases hT1 with h | h | h
    · left; exact_mod_cast h
    · right; left; exact_mod_cast h
    · right; right; exact_mod_cast h
  have c1 : Nat.gcd T a' = 1 := cop_cof hd1 ha' hab hT2
  have c2 : Nat.gcd T b' = 1 := cop_cof (bn := an) (b' := a') hd2 hb' (by rw [Nat.gcd_comm]; exact hab) (by
    rcases hT2 with h | h | h
    · left; omega
    · right; right; omega
    · right; left; omega)
  have hr' : rest = ((Nat.gcd T g0 : Nat) : Int) := by
    rw [hr]; unfold gcdI
    have : ((T : Int) % (g0 : Int)).toNat = T % g0 := by
      have : (T : Int) % (g0 : Int) = ((T % g0 : Nat) : Int) := by simp
      rw [this, Int.toNat_natCast]
    rw [this, Int.toNat_natCast, Nat.gcd_comm, Nat.gcd_comm T g0, Nat.gcd_rec g0 T, Nat.gcd_comm]
  clear hr
  have hrp : 0 < Nat.gcd T g0 := Nat.gcd_pos_of_pos_right _ (by omega)
  have f1 : T = Nat.gcd T g0 * (T / Nat.gcd T g0) := (Nat.mul_div_cancel' (Nat.gcd_dvd_left ..)).symm
  have f2 : g0 = Nat.gcd T g0 * (g0 / Nat.gcd T g0) := (Nat.mul_div_cancel' (Nat.gcd_dvd_right ..)).symm
  have f3 : Nat.gcd (T / Nat.gcd T g0) (g0 / Nat.gcd T g0) = 1 := Nat.coprime_div_gcd_div_gcd hrp
  subst hr'
  have e3 : (T : Int) / ((Nat.gcd T g0 : Nat) : Int) = ((T / Nat.gcd T g0 : Nat) : Int) := by simp
  have e4 : (bd : Int) / ((Nat.gcd T g0 : Nat) : Int) = ((bd / Nat.gcd T g0 : Nat) : Int) := by simp
  rw [e3, e4]
  generalize Nat.gcd T g0 = r0 at *
  generalize T / r0 = Tq at *
  generalize g0 / r0 = G at *
  have e5 : bd / r0 = G * b' := by
    rw [hd2, f2, Nat.mul_assoc]; exact Nat.mul_div_cancel_left _ hrp
  rw [e5]
  have ha'p : 0 < a' := by rcases Nat.eq_zero_or_pos a' with h | h; · subst h; simp at hd1; omega
                           · exact h
  have hb'p : 0 < b' := by rcases Nat.eq_zero_or_pos b' with h | h; · subst h; simp at hd2; omega
                           · exact h
  have hGp : 0 < G := by rcases Nat.eq_zero_or_pos G with h | h; · subst h; simp at f2; omega
                         · exact h
  have d1 : Tq ∣ T := ⟨r0, by rw [Nat.mul_comm]; exact f1⟩
  refine ⟨?_, ?_, ?_, ?_⟩
  · unfold gcdI
    have : ((a' : Int) * ((G * b' : Nat) : Int)).toNat = a' * (G * b') := by
      rw [← Int.natCast_mul, Int.toNat_natCast]
    rw [Int.toNat_natCast, this]
    have : Nat.Coprime Tq (a' * (G * b')) := Nat.Coprime.mul_right (Nat.Coprime.coprime_dvd_left d1 c1) (Nat.Coprime.mul_right f3 (Nat.Coprime.coprime_dvd_left d1 c2))
    exact_mod_cast this
  · have := Nat.mul_pos ha'p (Nat.mul_pos hGp hb'p)
    exact_mod_cast this
  · omega
  · have hs' : sgn S (T : Int) = r0 * sgn S (Tq : Int) := by
      rw [f1]; unfold sgn; split <;> grind
    have m1 : sgn s (an * b' : Int) = sgn s an * b' := by unfold sgn; split <;> grind
    have m2 : sgn t (bn * a' : Int) = sgn t bn * a' := by unfold sgn; split <;> grind
    rw [hs', m1, m2] at hs
    generalize sgn S (Tq : Int) = x at *
    generalize sgn s (an : Int) = y at *
    generalize sgn t (bn : Int) = z at *
    have k1 : (ad : Int) = (r0 * G) * a' := by rw [hd1, f2]; simp
    have k2 : (bd : Int) = (r0 * G) * b' := by rw [hd2, f2]; simp
    rw [k1, k2]
    have : y * (r0 * G * b') + z * (r0 * G * a') = (r0 * G) * (r0 * x) := by rw [hs]; grind
    rw [this]; simp; grind

theorem prod_low {s t : Bool} {an ad bn bd : Int} (h1 : 0 ≤ an) (h2 : 0 < ad) (h3 : 0 ≤ bn) (h4 : 0 < bd) (ha : gcdI an ad = 1) (hb : gcdI bn bd = 1)
    {f r : Int} (hf : f = gcdI an bd) (hr : r = gcdI bn ad) :
    gcdI ((an / f) * (bn / r)) ((ad / r) * (bd / f)) = 1 ∧ 0 < (ad / r) * (bd / f) ∧ 0 ≤ (an / f) * (bn / r) ∧
      sgn (s != t) ((an / f) * (bn / r)) * (ad * bd) = (sgn s an * sgn t bn) * ((ad / r) * (bd / f)) := by
  obtain ⟨an, rfl⟩ := Int.eq_ofNat_of_zero_le h1
  obtain ⟨bn, rfl⟩ := Int.eq_ofNat_of_zero_le h3
  obtain ⟨ad, rfl⟩ := Int.eq_ofNat_of_zero_le (Int.le_of_lt h2)
  obtain ⟨bd, rfl⟩ := Int.eq_ofNat_of_zero_le (Int.le_of_lt h4)
  unfold gcdI at ha hb hf hr
  simp only [Int.toNat_natCast] at ha hb hf hr
  have ha' : Nat.gcd an ad = 1 := by exact_mod_cast ha
  have hb' : Nat.gcd bn bd = 1 := by exact_mod_cast hb
  have hfp : 0 < Nat.gcd an bd := Nat.gcd_pos_of_pos_right _ (by omega)
  have hrp : 0 < Nat.gcd bn ad := Nat.gcd_pos_of_pos_right _ (by omega)
  have c1 : Nat.gcd (an / Nat.gcd an bd) (bd / Nat.gcd an bd) = 1 := Nat.coprime_div_gcd_div_gcd hfp
  have c2 : Nat.gcd (bn / Nat.gcd bn ad) (ad / Nat.gcd bn ad) = 1 := Nat.coprime_div_gcd_div_gcd hrp
  have d1 : an = Nat.gcd an bd * (an / Nat.gcd an bd) := (Nat.mul_div_cancel' (Nat.gcd_dvd_left ..)).symm
  have d2 : bd = Nat.gcd an bd * (bd / Nat.gcd an bd) := (Nat.mul_div_cancel' (Nat.gcd_dvd_right ..)).symm
  have d3 : bn = Nat.gcd bn ad * (bn / Nat.gcd bn ad) := (Nat.mul_div_cancel' (Nat.gcd_dvd_left ..)).symm
  have d4 : ad = Nat.gcd bn ad * (ad / Nat.gcd bn ad) := (Nat.mul_div_cancel' (Nat.gcd_dvd_right ..)).symm
  subst hf hr
  simp only [← Int.natCast_ediv, ← Int.natCast_mul]
  generalize Nat.gcd an bd = f at *
  generalize Nat.gcd bn ad = r at *
  generalize an / f = a1 at *
  generalize bd / f = b2 at *
  generalize bn / r = b1 at *
  generalize ad / r = a2 at *
  have p1 : 0 < b2 := by rcases Nat.eq_zero_or_pos b2 with h | h; · subst h; simp at d2; omega
                         · exact h
  have p2 : 0 < a2 := by rcases Nat.eq_zero_or_pos a2 with h | h; · subst h; simp at d4; omega
                         · exact h
  have q1 : Nat.Coprime a1 a2 := Nat.Coprime.coprime_dvd_left ⟨f, by rw [Nat.mul_comm]; exact d1⟩ (Nat.Coprime.coprime_dvd_right ⟨r, by rw [Nat.mul_comm]; exact d4⟩ ha')
  have q2 : Nat.Coprime b1 b2 := Nat.Coprime.coprime_dvd_left ⟨r, by rw [Nat.mul_comm]; exact d3⟩ (Nat.Coprime.coprime_dvd_right ⟨f, by rw [Nat.mul_comm]; exact d2⟩ hb')
  refine ⟨?_, ?_, ?_, ?_⟩
  · unfold gcdI
    rw [Int.toNat_natCast, Int.toNat_natCast]
    have : Nat.Coprime (a1 * b1) (a2 * b2) := Nat.Coprime.mul_left (Nat.Coprime.mul_right q1 c1) (Nat.Coprime.mul_right c2 q2)
    exact_mod_cast this
  · have := Nat.mul_pos p2 p1
    omega
  · omega
  · have m : ∀ x y : Int, sgn (s != t) (x * y) = sgn s x * sgn t y := by intro x y; cases s <;> cases t <;> simp [sgn] <;> grind
    have k1 : (an : Int) = f * a1 := by rw [d1]; simp
    have k2 : (bd : Int) = f * b2 := by rw [d2]; simp
    have k3 : (bn : Int) = r * b1 := by rw [d3]; simp
    have k4 : (ad : Int) = r * a2 := by rw [d4]; simp
    have e1 : sgn s ((f : Int) * a1) = f * sgn s a1 := by unfold sgn; split <;> grind
    have e2 : sgn t ((r : Int) * b1) = r * sgn t b1 := by unfold sgn; split <;> grind
    rw [Int.natCast_mul, Int.natCast_mul, m, k1, k2, k3, k4, e1, e2]
    grind

/-! ### the operations -/
/-- Right: in lowest terms, with a positive denominator. -/
def rtB (n d : Int) : Bool := decide (1 ≤ d) && decide (gcdI (n.natAbs : Int) (d.natAbs : Int) = 1)

def opB (b : Bool) (n d : Int) : Bool := b && okB n d
def opN (b : Bool) (n d : Int) : Int := if b then resN n d else 0
def opD (b : Bool) (n d : Int) : Int := if b then resD n d else 1

theorem sgn_abs (n : Int) : sgn (decide (n < 0)) (n.natAbs : Int) = n := by
  unfold sgn; split <;> simp_all <;> omega
theorem sgn_abs_neg (n : Int) : sgn (!decide (n < 0)) (n.natAbs : Int) = -n := by
  unfold sgn; split <;> simp_all <;> omega


/-! ### numbers of 128 bits -/
def hi (x : Int) : Int := x / 18446744073709551616
def lo (x : Int) : Int := x % 18446744073709551616
theorem lo_lt (x : Int) : 0 ≤ lo x ∧ lo x < 18446744073709551616 := by unfold lo; omega
theorem hi_lt {x : Int} (h0 : 0 ≤ x) (h1 : x < 340282366920938463463374607431768211456) : 0 ≤ hi x ∧ hi x < 18446744073709551616 := by unfold hi; omega
theorem hi_lo (x : Int) : hi x * 18446744073709551616 + lo x = x := by unfold hi lo; omega
def lessB (h1 l1 h2 l2 : Int) : Bool := decide (h1 < h2) || (decide (h1 = h2) && decide (l1 < l2))
theorem less_eq (x y : Int) : lessB (hi x) (lo x) (hi y) (lo y) = decide (x < y) := by
  unfold lessB hi lo
  rw [Bool.eq_iff_iff]; simp; omega
theorem wide_eq (x y : Int) (h1 : hi x = hi y) (h2 : lo x = lo y) : x = y := by rw [← hi_lo x, ← hi_lo y, h1, h2]
theorem mul_lt {a b A B : Int} (h1 : 0 ≤ a) (h2 : a ≤ A) (h3 : 0 ≤ b) (h4 : b ≤ B) : 0 ≤ a * b ∧ a * b ≤ A * B :=
  ⟨Int.mul_nonneg h1 h3, Int.mul_le_mul h2 h4 h3 (Int.le_trans h1 h2)⟩
theorem mul_small {a b : Int} (h1 : 0 ≤ a) (h2 : a < 18446744073709551616) (h3 : 0 ≤ b) (h4 : b < 18446744073709551616) : 0 ≤ a * b ∧ a * b < 340282366920938463463374607431768211456 := by
  have := mul_lt h1 (Int.le_sub_one_of_lt h2) h3 (Int.le_sub_one_of_lt h4); omega
/-- a long division by one word -/
theorem div_wide {x d : Int} (_h0 : 0 ≤ x) (hd : 0 < d) :
    x / d = hi x / d * 18446744073709551616 + (hi x % d * 18446744073709551616 + lo x) / d ∧ x % d = (hi x % d * 18446744073709551616 + lo x) % d := by
  have e : x = hi x % d * 18446744073709551616 + lo x + d * (hi x / d * 18446744073709551616) := by
    have h1 := hi_lo x
    have h2 := Int.emod_add_mul_ediv (hi x) d
    generalize hi x % d = r at *
    generalize hi x / d = q at *
    generalize lo x = l at *
    rw [← h1, ← h2]; grind
  constructor
  · conv => lhs; rw [e]
    rw [Int.add_mul_ediv_left _ _ (by omega)]; omega
  · conv => lhs; rw [e]
    rw [Int.add_mul_emod_self_left]
theorem rem_lo {h d l : Int} (hd : 0 < d) (hd2 : d < 18446744073709551616) (h0 : 0 ≤ h) (h1 : h < d) (l0 : 0 ≤ l) (l1 : l < 18446744073709551616) :
    0 ≤ (h * 18446744073709551616 + l) / d ∧ (h * 18446744073709551616 + l) / d < 18446744073709551616 := by
  refine ⟨Int.ediv_nonneg (by omega) (by omega), ?_⟩
  apply Int.ediv_lt_of_lt_mul hd
  have : (h + 1) * 18446744073709551616 ≤ d * 18446744073709551616 := Int.mul_le_mul_of_nonneg_right (by omega) (by omega)
  rw [Int.mul_comm 18446744073709551616 d]; omega

end Num
end Go.Proofs.YtnccllelmbcdcaaGreatDoor
