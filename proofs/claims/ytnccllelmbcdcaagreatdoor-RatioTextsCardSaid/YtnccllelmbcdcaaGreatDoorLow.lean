/- Numbers in lowest terms: what the last steps of the reference need. No Go stands in it. -/
import Derived.Test.YtnccllelmbcdcaaGreatDoorNum
namespace Go.Proofs.YtnccllelmbcdcaaGreatDoor
namespace Num

theorem gcdI_natAbs (n d : Int) : gcdI (n.natAbs : Int) (d.natAbs : Int) = ((Int.gcd n d : Nat) : Int) := by
  unfold gcdI; rw [Int.toNat_natCast, Int.toNat_natCast]; rfl
theorem gcd_pos_of {n d : Int} (hd : d ≠ 0) : 0 < Int.gcd n d := by
  rcases Nat.eq_zero_or_pos (Int.gcd n d) with h0 | h0
  · rw [Int.gcd_eq_zero_iff] at h0; omega
  · exact h0
/-- A right number is in lowest terms already. -/
theorem low_right {n d : Int} (hd : d ≠ 0) : rtB (lowN n d) (lowD n d) = true := by
  have hgp := gcd_pos_of (n := n) hd
  obtain ⟨n', hn'⟩ : ((Int.gcd n d : Nat) : Int) ∣ n := Int.gcd_dvd_left ..
  obtain ⟨d', hd'⟩ : ((Int.gcd n d : Nat) : Int) ∣ d := Int.gcd_dvd_right ..
  have hg0 : ((Int.gcd n d : Nat) : Int) ≠ 0 := by omega
  unfold lowN lowD
  generalize hG : Int.gcd n d = g at *
  subst hn' hd'
  have hco : Int.gcd n' d' = 1 := by
    rw [Int.gcd_mul_left] at hG
    have h3 : g * Int.gcd n' d' = g * 1 := by simpa using hG
    exact Nat.eq_of_mul_eq_mul_left hgp h3
  have hd0 : d' ≠ 0 := by intro h0; subst h0; simp at hd
  unfold rtB
  rw [gcdI_natAbs]
  by_cases hneg : (g : Int) * d' < 0
  · have h1 : d' < 0 := by
      by_cases h : d' < 0
      · exact h
      · have : 0 ≤ (g : Int) * d' := Int.mul_nonneg (by omega) (by omega)
        omega
    simp only [hneg, if_true]
    rw [← Int.mul_neg, ← Int.mul_neg, Int.mul_ediv_cancel_left _ hg0, Int.mul_ediv_cancel_left _ hg0, Int.gcd_neg, Int.neg_gcd, hco]
    simp; omega
  · have h1 : 0 < d' := by
      by_cases h : d' < 0
      · exact absurd (Int.mul_neg_of_pos_of_neg (by omega) h) hneg
      · omega
    simp only [hneg, if_false]
    rw [Int.mul_ediv_cancel_left _ hg0, Int.mul_ediv_cancel_left _ hg0, hco]
    simp; omega
theorem rt_of (n : Int) : rtB n 1 = true := by
  unfold rtB; rw [gcdI_natAbs]; simp
theorem res_right (n d : Int) : rtB (resN n d) (resD n d) = true := by
  unfold resN resD
  cases h : okB n d
  · simp only [Bool.false_eq_true, if_false]; exact rt_of 0
  · simp only [if_true]
    refine low_right ?_
    intro h0; subst h0; simp [okB] at h
theorem res_i64 (n d : Int) : (-9223372036854775808 ≤ resN n d ∧ resN n d ≤ 9223372036854775807) ∧ 1 ≤ resD n d ∧ resD n d ≤ 9223372036854775807 := by
  have hr := res_right n d
  unfold rtB at hr
  simp only [Bool.and_eq_true, decide_eq_true_eq] at hr
  have h1 := hr.1
  clear hr
  by_cases h : okB n d = true
  · have hN : resN n d = lowN n d := by unfold resN; rw [if_pos h]
    have hD : resD n d = lowD n d := by unfold resD; rw [if_pos h]
    rw [hN, hD]; rw [hD] at h1
    unfold okB at h
    simp only [Bool.and_eq_true, decide_eq_true_eq] at h
    omega
  · have hN : resN n d = 0 := by unfold resN; rw [if_neg h]
    have hD : resD n d = 1 := by unfold resD; rw [if_neg h]
    rw [hN, hD]; omega

/-! ### the reference's fit -/
def fitO (s : Bool) (n : Int) : Bool := (s && decide (n ≤ 9223372036854775808)) || decide (n < 9223372036854775808)
def fitV (s : Bool) (n : Int) : Int := if fitO s n then sgn s n else 0

theorem fit_pair {s : Bool} {n d : Int} (hn : 0 ≤ n) (hd : 0 ≤ d) :
    (fitO (s && decide (0 < n)) n && fitO false d) = fitsB s n d := by
  unfold fitO fitsB
  rw [Bool.eq_iff_iff]
  cases s <;> simp <;> omega
theorem fit_num {s : Bool} {n d : Int} (hn : 0 ≤ n) (h : (fitO (s && decide (0 < n)) n && fitO false d) = true) : fitV (s && decide (0 < n)) n = sgn s n ∧ fitV false d = d := by
  simp only [Bool.and_eq_true] at h
  unfold fitV
  rw [h.1, h.2]
  refine ⟨?_, by simp [sgn]⟩
  by_cases h0 : 0 < n
  · simp [h0]
  · have : n = 0 := by omega
    subst this; cases s <;> simp [sgn]

theorem sgn_natAbs {s : Bool} {n : Int} (hn : 0 ≤ n) : ((sgn s n).natAbs : Int) = n := by unfold sgn; split <;> omega
theorem gcd_sgn {s t : Bool} {n d : Int} (hn : 0 ≤ n) (hd : 0 ≤ d) : gcdI n d = ((Int.gcd (sgn s n) (sgn t d) : Nat) : Int) := by
  rw [← gcdI_natAbs, sgn_natAbs hn, sgn_natAbs hd]

/-- What lowest does: divide both parts by their common divisor, and put the sign before. -/
theorem lowest_eq {s t : Bool} {n d : Int} (hn : 0 ≤ n) (hd : 0 < d) :
    fitsB (s != t) (n / gcdI n d) (d / gcdI n d) = okB (sgn s n) (sgn t d) ∧ fitN (s != t) (n / gcdI n d) (d / gcdI n d) = resN (sgn s n) (sgn t d) ∧ fitD (s != t) (n / gcdI n d) (d / gcdI n d) = resD (sgn s n) (sgn t d) := by
  obtain ⟨n, rfl⟩ := Int.eq_ofNat_of_zero_le hn
  obtain ⟨d, rfl⟩ := Int.eq_ofNat_of_zero_le (Int.le_of_lt hd)
  have hp : 0 < Nat.gcd n d := Nat.gcd_pos_of_pos_right _ (by omega)
  have c1 : Nat.gcd (n / Nat.gcd n d) (d / Nat.gcd n d) = 1 := Nat.coprime_div_gcd_div_gcd hp
  have d1 : n = Nat.gcd n d * (n / Nat.gcd n d) := (Nat.mul_div_cancel' (Nat.gcd_dvd_left ..)).symm
  have d2 : d = Nat.gcd n d * (d / Nat.gcd n d) := (Nat.mul_div_cancel' (Nat.gcd_dvd_right ..)).symm
  have e : gcdI (n : Int) (d : Int) = (Nat.gcd n d : Nat) := by unfold gcdI; simp
  rw [e, ← Int.natCast_ediv, ← Int.natCast_ediv]
  generalize Nat.gcd n d = g at *
  generalize n / g = x at *
  generalize d / g = y at *
  have hy : 0 < y := by rcases Nat.eq_zero_or_pos y with h | h; · subst h; simp at d2; omega
                        · exact h
  refine fit_eq ?_ (by omega) (by omega) ?_ ?_
  · unfold sgn; split <;> omega
  · unfold gcdI; rw [Int.toNat_natCast, Int.toNat_natCast]; exact_mod_cast c1
  · rw [d1, d2]
    cases s <;> cases t <;> simp [sgn] <;> grind

/-! ### small numbers -/
theorem quick_eq {n d : Int} (hd : d ≠ 0) :
    (if d < 0 then -n else n).tdiv ((Int.gcd n d : Nat) : Int) = lowN n d ∧ (if d < 0 then -d else d).tdiv ((Int.gcd n d : Nat) : Int) = lowD n d := by
  have hgp := gcd_pos_of (n := n) hd
  have h1 : ((Int.gcd n d : Nat) : Int) ∣ (if d < 0 then -n else n) := by split; exact Int.dvd_neg.2 (Int.gcd_dvd_left ..); exact Int.gcd_dvd_left ..
  have h2 : ((Int.gcd n d : Nat) : Int) ∣ (if d < 0 then -d else d) := by split; exact Int.dvd_neg.2 (Int.gcd_dvd_right ..); exact Int.gcd_dvd_right ..
  unfold lowN lowD
  exact ⟨Int.tdiv_eq_ediv_of_dvd h1, Int.tdiv_eq_ediv_of_dvd h2⟩
theorem low_abs {n d : Int} (hd : d ≠ 0) : (lowN n d).natAbs ≤ n.natAbs ∧ 1 ≤ lowD n d ∧ lowD n d ≤ d.natAbs := by
  have hgp := gcd_pos_of (n := n) hd
  obtain ⟨q1, q2⟩ := quick_eq (n := n) hd
  have hr := low_right (n := n) hd
  unfold rtB at hr; simp only [Bool.and_eq_true, decide_eq_true_eq] at hr
  refine ⟨?_, hr.1, ?_⟩
  · rw [← q1, Int.natAbs_tdiv]
    refine Nat.le_trans (Nat.div_le_self _ _) ?_
    split <;> omega
  · have h2 : (lowD n d).natAbs ≤ d.natAbs := by
      rw [← q2, Int.natAbs_tdiv]
      refine Nat.le_trans (Nat.div_le_self _ _) ?_
      split <;> omega
    omega
theorem ok_small {n d : Int} (hd : d ≠ 0) (h1 : n.natAbs ≤ 9223372036854775807) (h2 : d.natAbs ≤ 9223372036854775807) : okB n d = true ∧ resN n d = lowN n d ∧ resD n d = lowD n d := by
  have ⟨a, b, c⟩ := low_abs (n := n) hd
  have h : okB n d = true := by unfold okB; simp only [Bool.and_eq_true, decide_eq_true_eq]; omega
  refine ⟨h, ?_, ?_⟩
  · unfold resN; rw [h]; rfl
  · unfold resD; rw [h]; rfl
end Num
end Go.Proofs.YtnccllelmbcdcaaGreatDoor
