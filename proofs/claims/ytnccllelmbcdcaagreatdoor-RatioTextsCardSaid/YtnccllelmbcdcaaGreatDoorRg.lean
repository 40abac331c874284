/- Long division of rows of digits: what the two loops of over keep. No Go stands in it. -/
import Derived.Test.YtnccllelmbcdcaaGreatDoorDig
namespace Go.Proofs.YtnccllelmbcdcaaGreatDoor

/-- Behind the digits of x from i on: the quotient's digits Q from i on, and the rest r. -/
def Div1 (x Q : List Int) (B : Int) (i : Nat) (r : Int) : Prop :=
  Dig.okL Q ∧ Q.length = x.length ∧ 0 ≤ r ∧ r < B ∧ Dig.val (x.drop i) = B * Dig.val (Q.drop i) + r

theorem Div1.start (x : List Int) (B : Int) (hB : 0 < B) : Div1 x (List.replicate x.length 0) B x.length 0 := by
  refine ⟨Dig.okL_replicate _, by simp, by omega, hB, ?_⟩
  rw [List.drop_eq_nil_of_le (Nat.le_refl _), List.drop_eq_nil_of_le (by simp)]; simp [Dig.val]

/-- The rest with the next digit ahead of it is less than 65536 times the divisor. -/
theorem Div1.ahead {x Q : List Int} {B r : Int} {i : Nat} (h : Div1 x Q B (i + 1) r) (ox : Dig.okL x) : 0 ≤ x.getD i 0 + 65536 * r ∧ x.getD i 0 + 65536 * r < 65536 * B := by
  have a := Dig.okL_getD ox i
  obtain ⟨_, _, r0, r1, _⟩ := h
  omega

theorem Div1.step {x Q : List Int} {B r q : Int} {i : Nat} (h : Div1 x Q B (i + 1) r) (hi : i < x.length) (q0 : 0 ≤ q) (q1 : q < 65536)
    (lo : B * q ≤ x.getD i 0 + 65536 * r) (hi2 : x.getD i 0 + 65536 * r < B * (q + 1)) : Div1 x (Q.set i q) B i (x.getD i 0 + 65536 * r - B * q) := by
  obtain ⟨ho, hl, r0, r1, hv⟩ := h
  have e : B * (q + 1) = B * q + B := by grind
  refine ⟨Dig.okL_set ho i ⟨q0, q1⟩, by simp [hl], by omega, by omega, ?_⟩
  have hd : (Q.set i q).drop (i + 1) = Q.drop (i + 1) := by rw [List.drop_set]; simp
  rw [Dig.val_drop hi, Dig.val_drop (k := i) (by simp; omega), hd, hv]
  have hg : (Q.set i q).getD i 0 = q := by rw [List.getD_eq_getElem?_getD, List.getElem?_set_self (by omega)]; rfl
  rw [hg]
  grind

theorem Div1.done {x Q : List Int} {B r : Int} (h : Div1 x Q B 0 r) : Dig.okL Q ∧ 0 ≤ r ∧ r < B ∧ Dig.val x = B * Dig.val Q + r := by
  obtain ⟨ho, _, r0, r1, hv⟩ := h
  rw [List.drop_zero, List.drop_zero] at hv
  exact ⟨ho, r0, r1, hv⟩

/-- The binary search: the digit lies from low on and below high. -/
def Seek (B R low high : Int) : Prop := 0 ≤ low ∧ low < high ∧ high ≤ 65536 ∧ B * low ≤ R ∧ R < B * high
theorem Seek.mid {B R low high : Int} (h : Seek B R low high) (hg : 1 < high - low) :
    low < (low + high) / 2 ∧ (low + high) / 2 < high ∧ (B * ((low + high) / 2) ≤ R → Seek B R ((low + high) / 2) high) ∧ (¬ B * ((low + high) / 2) ≤ R → Seek B R low ((low + high) / 2)) := by
  obtain ⟨a, b, c, d, e⟩ := h
  have m1 : low < (low + high) / 2 := by omega
  have m2 : (low + high) / 2 < high := by omega
  exact ⟨m1, m2, fun h => ⟨by omega, m2, c, h, e⟩, fun h => ⟨a, m1, by omega, d, by omega⟩⟩
theorem Seek.one {B R low high : Int} (h : Seek B R low high) (hg : ¬ 1 < high - low) : B * low ≤ R ∧ R < B * (low + 1) := by
  obtain ⟨a, b, c, d, e⟩ := h
  have : high = low + 1 := by omega
  subst this; exact ⟨d, e⟩
end Go.Proofs.YtnccllelmbcdcaaGreatDoor
