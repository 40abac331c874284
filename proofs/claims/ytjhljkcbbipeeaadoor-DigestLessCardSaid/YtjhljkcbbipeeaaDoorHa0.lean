/- The order of the texts of hashes, plain. -/
import Derived.Test.YtjhljkcbbipeeaaDoorGz
import Derived.Laws.Strings
namespace Go.Proofs.YtjhljkcbbipeeaaDoor.Sha
open Go

/-- A digit as a byte. -/
def u8D (p : Int) : UInt8 := UInt8.ofNat (hexD p).toNat
theorem u8D_cmp (p q : Int) (p0 : 0 ≤ p) (p1 : p < 16) (q0 : 0 ≤ q) (q1 : q < 16) : decide (u8D p < u8D q) = decide (p < q) ∧ (u8D p == u8D q) = decide (p = q) := by
  obtain ⟨a, rfl⟩ := Int.eq_ofNat_of_zero_le p0
  obtain ⟨b, rfl⟩ := Int.eq_ofNat_of_zero_le q0
  have ha : a < 16 := by omega
  have hb : b < 16 := by omega
  have e : ∀ m n : Fin 16, decide (u8D (m.val : Int) < u8D (n.val : Int)) = decide ((m.val : Int) < (n.val : Int)) ∧ (u8D (m.val : Int) == u8D (n.val : Int)) = decide ((m.val : Int) = (n.val : Int)) := by decide +kernel
  exact e ⟨a, ha⟩ ⟨b, hb⟩
/-- The digits of all bytes. -/
def flat : List Int → List UInt8
  | [] => []
  | x :: xs => u8D (x / 16) :: u8D (x % 16) :: flat xs
theorem flat_append (a b : List Int) : flat (a ++ b) = flat a ++ flat b := by
  induction a with
  | nil => rfl
  | cons x xs ih => simp [flat, ih]
theorem flat_take (l : List Int) (n : Nat) (h : n ≤ l.length) : flat (l.take n) = (textN l n).map fun z => UInt8.ofNat z.toNat := by
  induction n with
  | zero => rfl
  | succ n ih =>
    have hn : n < l.length := by omega
    have hg : l.getD n 0 = l[n] := by rw [List.getD_eq_getElem?_getD, List.getElem?_eq_getElem hn]; rfl
    rw [List.take_add_one, List.getElem?_eq_getElem hn, flat_append, ih (by omega), textN, List.map_append, hg]
    rfl
theorem flat_less : ∀ (a b : List Int), (∀ x ∈ a, 0 ≤ x ∧ x < 256) → (∀ x ∈ b, 0 ≤ x ∧ x < 256) → a.length = b.length → Op.bytesLess (flat a) (flat b) = lexLt a b
  | [], [], _, _, _ => rfl
  | x :: xs, y :: ys, ha, hb, hl => by
    have hx := ha x (by simp)
    have hy := hb y (by simp)
    have ih := flat_less xs ys (fun z hz => ha z (by simp [hz])) (fun z hz => hb z (by simp [hz])) (by simpa using hl)
    have c1 := u8D_cmp (x / 16) (y / 16) (by omega) (by omega) (by omega) (by omega)
    have c2 := u8D_cmp (x % 16) (y % 16) (by omega) (by omega) (by omega) (by omega)
    simp only [flat, Op.bytesLess, c1.1, c1.2, c2.1, c2.2, ih, lexLt]
    generalize lexLt xs ys = r
    by_cases hxy : x = y
    · subst hxy; simp
    · rw [if_neg hxy, Bool.eq_iff_iff]
      simp only [Bool.or_eq_true, Bool.and_eq_true, decide_eq_true_eq]
      constructor
      · rintro (h | ⟨h, h2 | ⟨h2, _⟩⟩) <;> omega
      · intro h
        by_cases hp : x / 16 < y / 16
        · exact .inl hp
        · exact .inr ⟨by omega, .inl (by omega)⟩
  | [], _ :: _, _, _, hl => by simp at hl
  | _ :: _, [], _, _, hl => by simp at hl
theorem hash_mem {l : List Int} (h : Hash l) : ∀ x ∈ l, 0 ≤ x ∧ x < 256 := fun x hx => by
  obtain ⟨i, hi, rfl⟩ := List.mem_iff_getElem.1 hx
  have e : l.getD i 0 = l[i] := by rw [List.getD_eq_getElem?_getD, List.getElem?_eq_getElem hi]; rfl
  rw [← e]; exact h.2 i
theorem text_bytes (l : List Int) (h : Hash l) : (text l).toList = flat l := by
  rw [ByteArray.toList_eq, text, strOfNums_data, ← flat_take l 32 (by rw [h.1]; exact Nat.le_refl _), List.take_of_length_le (by rw [h.1]; exact Nat.le_refl _)]
theorem text_less (a b : List Int) (ha : Hash a) (hb : Hash b) : Op.bytesLess (text a).toList (text b).toList = lexLt a b := by
  rw [text_bytes a ha, text_bytes b hb]
  exact flat_less a b (hash_mem ha) (hash_mem hb) (by rw [ha.1, hb.1])
/-- Two hashes: one is less, or they are the same. -/
theorem lex_three : ∀ (a b : List Int), a.length = b.length → (lexLt a b = true ∧ lexLt b a = false ∧ (a == b) = false) ∨ (lexLt a b = false ∧ lexLt b a = true ∧ (a == b) = false) ∨ (lexLt a b = false ∧ lexLt b a = false ∧ (a == b) = true)
  | [], [], _ => .inr (.inr ⟨rfl, rfl, rfl⟩)
  | x :: xs, y :: ys, h => by
    have ih := lex_three xs ys (by simpa using h)
    by_cases e : x = y
    · subst e
      simpa [lexLt] using ih
    · have e2 : ¬ y = x := fun h => e h.symm
      have e3 : (x :: xs == y :: ys) = false := by simp [e]
      simp only [lexLt, if_neg e, if_neg e2, e3]
      by_cases hlt : x < y
      · exact .inl ⟨by simp [hlt], by simp; omega, trivial⟩
      · exact .inr (.inl ⟨by simp; omega, by simp; omega, trivial⟩)
  | [], _ :: _, h => by simp at h
  | _ :: _, [], h => by simp at h
/-- The second hash, in which the first n bytes are those of the first. -/
def mixN (a b : List Int) : Nat → List Int
  | 0 => b
  | n + 1 => (mixN a b n).set n (a.getD n 0)
theorem mixN_hash (a b : List Int) (ha : Hash a) (hb : Hash b) (n : Nat) : Hash (mixN a b n) := by
  induction n with
  | zero => exact hb
  | succ n ih =>
    have e := ha.2 n
    have := hash_set _ ih n (a.getD n 0)
    rwa [show a.getD n 0 % 256 = a.getD n 0 by omega] at this
end Go.Proofs.YtjhljkcbbipeeaaDoor.Sha
