/- The texts of hashes, plain: reading undoes them; their order. -/
import Derived.Test.YtjhljkcbbipeeaaDoorGs
namespace Go.Proofs.YtjhljkcbbipeeaaDoor.Sha
open Go

theorem byteI_nums (l : List Int) (k : Nat) (hk : k < l.length) (h0 : 0 ≤ l.getD k 0) (h1 : l.getD k 0 < 256) : byteI (strOfNums l) k = l.getD k 0 := by
  unfold byteI
  rw [strOfNums_data, List.getD_eq_getElem?_getD, List.getElem?_map]
  rw [List.getD_eq_getElem?_getD] at h0 h1 ⊢
  rw [List.getElem?_eq_getElem hk] at h0 h1 ⊢
  simp only [Option.map_some, Option.getD_some] at h0 h1 ⊢
  rw [UInt8.toNat_ofNat']
  omega
theorem textN_even (l : List Int) (n m : Nat) (h : n < m) : (textN l m).getD (2 * n) 0 = hexD (l.getD n 0 / 16) ∧ (textN l m).getD (2 * n + 1) 0 = hexD (l.getD n 0 % 16) := by
  induction m with
  | zero => omega
  | succ m ih =>
    rw [textN]
    have hl := textN_length l m
    by_cases hn : n < m
    · obtain ⟨h1, h2⟩ := ih hn
      constructor
      · rw [List.getD_eq_getElem?_getD, List.getElem?_append_left (by omega), ← List.getD_eq_getElem?_getD, h1]
      · rw [List.getD_eq_getElem?_getD, List.getElem?_append_left (by omega), ← List.getD_eq_getElem?_getD, h2]
    · obtain rfl : n = m := by omega
      constructor
      · rw [List.getD_eq_getElem?_getD, List.getElem?_append_right (by omega), show 2 * n - (textN l n).length = 0 by omega]; rfl
      · rw [List.getD_eq_getElem?_getD, List.getElem?_append_right (by omega), show 2 * n + 1 - (textN l n).length = 1 by omega]; rfl
theorem hexD_rng (x : Int) (h0 : 0 ≤ x) (h1 : x < 16) : 0 ≤ hexD x ∧ hexD x < 256 := by unfold hexD; split <;> omega
theorem hexD_read (x : Int) (h0 : 0 ≤ x) (h1 : x < 16) : isD (hexD x) = true ∧ valD (hexD x) = x := by
  obtain ⟨n, rfl⟩ := Int.eq_ofNat_of_zero_le h0
  have hn : n < 16 := by omega
  have e : ∀ m : Fin 16, isD (hexD (m.val : Int)) = true ∧ valD (hexD (m.val : Int)) = (m.val : Int) := by decide
  exact e ⟨n, hn⟩
theorem text_byte (l : List Int) (hl : Hash l) (n : Nat) (h : n < 32) : byteI (text l) (2 * n) = hexD (l.getD n 0 / 16) ∧ byteI (text l) (2 * n + 1) = hexD (l.getD n 0 % 16) := by
  obtain ⟨b0, b1⟩ := hl.2 n
  obtain ⟨e1, e2⟩ := textN_even l n 32 h
  have r1 := hexD_rng (l.getD n 0 / 16) (by omega) (by omega)
  have r2 := hexD_rng (l.getD n 0 % 16) (by omega) (by omega)
  have hlen := textN_length l 32
  constructor
  · rw [text, byteI_nums _ _ (by omega) (by rw [e1]; omega) (by rw [e1]; omega), e1]
  · rw [text, byteI_nums _ _ (by omega) (by rw [e2]; omega) (by rw [e2]; omega), e2]
theorem text_ok (l : List Int) (hl : Hash l) (n : Nat) (h : n ≤ 32) : okN (text l) n = true := by
  induction n with
  | zero => rfl
  | succ n ih =>
    obtain ⟨b0, b1⟩ := hl.2 n
    obtain ⟨t1, t2⟩ := text_byte l hl n (by omega)
    rw [okN, ih (by omega), t1, t2, (hexD_read _ (by omega) (by omega)).1, (hexD_read _ (by omega) (by omega)).1]; rfl
theorem text_val (l : List Int) (hl : Hash l) (n : Nat) (h : n ≤ 32) : ∀ i, i < n → (valN (text l) n).getD i 0 = l.getD i 0 := by
  induction n with
  | zero => intro i hi; omega
  | succ n ih =>
    intro i hi
    obtain ⟨b0, b1⟩ := hl.2 n
    obtain ⟨t1, t2⟩ := text_byte l hl n (by omega)
    rw [valN, t1, t2, (hexD_read _ (by omega) (by omega)).2, (hexD_read _ (by omega) (by omega)).2]
    have hlen := valN_length (text l) n
    by_cases e : i = n
    · subst e
      rw [List.getD_eq_getElem?_getD, List.getElem?_set_self (by omega)]
      show l.getD i 0 / 16 * 16 + l.getD i 0 % 16 = _
      omega
    · rw [List.getD_eq_getElem?_getD, List.getElem?_set_ne (by omega), ← List.getD_eq_getElem?_getD]
      exact ih (by omega) i (by omega)
theorem read_ok (l : List Int) (hl : Hash l) : readOk (text l) = true := by
  rw [readOk, text_ok l hl 32 (Nat.le_refl _), text_size]; rfl
theorem read_text (l : List Int) (hl : Hash l) : readL (text l) = l := by
  rw [readL, if_pos (read_ok l hl)]
  exact eq_of_getD _ _ (by rw [valN_length, hl.1]) (fun i hi => text_val l hl 32 (Nat.le_refl _) i (by rw [valN_length] at hi; exact hi))
theorem text_inj (a b : List Int) (ha : Hash a) (hb : Hash b) (h : text a = text b) : a = b := by
  rw [← read_text a ha, ← read_text b hb, h]
end Go.Proofs.YtjhljkcbbipeeaaDoor.Sha
