/-
  Plain arithmetic of digits to the base 65536. No Go stands in it.
-/
import Derived.Below
namespace Go.Proofs.YtnccllelmbcdcaaGreatDoor
namespace Dig
/-- The number whose digits to the base 65536 these are, the least significant one first. -/
def val : List Int → Int
  | [] => 0
  | d :: r => d + 65536 * val r

def okL (l : List Int) : Prop := ∀ d ∈ l, 0 ≤ d ∧ d < 65536

/-- 65536 ^ k -/
def pw (k : Nat) : Int := (65536 : Int) ^ k
theorem pw_zero : pw 0 = 1 := rfl
theorem pw_succ (k : Nat) : pw (k + 1) = 65536 * pw k := by unfold pw; rw [Int.pow_succ, Int.mul_comm]
theorem pw_pos (k : Nat) : 0 < pw k := by unfold pw; exact Int.pow_pos (by decide)
theorem pw_add (j k : Nat) : pw (j + k) = pw j * pw k := by unfold pw; exact Int.pow_add ..
theorem pw_mono {j k : Nat} (h : j ≤ k) : pw j ≤ pw k := by
  obtain ⟨m, rfl⟩ := Nat.le.dest h
  rw [pw_add]
  have h1 := pw_pos j; have h2 := pw_pos m
  calc pw j = pw j * 1 := by rw [Int.mul_one]
    _ ≤ pw j * pw m := Int.mul_le_mul_of_nonneg_left (by omega) (by omega)

theorem okL_nil : okL [] := fun _ h => by cases h
theorem okL_cons {d : Int} {l : List Int} : okL (d :: l) ↔ (0 ≤ d ∧ d < 65536) ∧ okL l := by
  unfold okL; simp
theorem okL_append {a b : List Int} : okL (a ++ b) ↔ okL a ∧ okL b := by
  unfold okL; simp only [List.mem_append]
  exact ⟨fun h => ⟨fun d hd => h d (Or.inl hd), fun d hd => h d (Or.inr hd)⟩, fun h d hd => hd.elim (h.1 d) (h.2 d)⟩
theorem okL_one {d : Int} (h : 0 ≤ d ∧ d < 65536) : okL [d] := okL_cons.2 ⟨h, okL_nil⟩
theorem okL_getD {l : List Int} (h : okL l) (i : Nat) : 0 ≤ l.getD i 0 ∧ l.getD i 0 < 65536 := by
  rw [List.getD_eq_getElem?_getD]
  by_cases hi : i < l.length
  · rw [List.getElem?_eq_getElem hi]; exact h _ (List.getElem_mem hi)
  · rw [List.getElem?_eq_none (by omega)]; simp

theorem val_nonneg {l : List Int} (h : okL l) : 0 ≤ val l := by
  induction l with
  | nil => simp [val]
  | cons d r ih => have ⟨h1, h2⟩ := okL_cons.1 h; have := ih h2; simp only [val]; omega

theorem val_lt {l : List Int} (h : okL l) : val l < pw l.length := by
  induction l with
  | nil => simp [val, pw]
  | cons d r ih => have ⟨h1, h2⟩ := okL_cons.1 h; have := ih h2; simp only [val, List.length_cons, pw_succ]; omega

theorem val_append (a b : List Int) : val (a ++ b) = val a + pw a.length * val b := by
  induction a with
  | nil => simp [val, pw_zero]
  | cons d r ih => simp only [List.cons_append, val, ih, List.length_cons, pw_succ]; grind

theorem val_snoc (a : List Int) (d : Int) : val (a ++ [d]) = val a + pw a.length * d := by
  rw [val_append]; simp [val]

theorem val_take_succ {l : List Int} {k : Nat} (h : k < l.length) : val (l.take (k + 1)) = val (l.take k) + pw k * l.getD k 0 := by
  rw [List.take_succ_eq_append_getElem h, val_snoc, List.length_take, Nat.min_eq_left (by omega)]
  simp [List.getD_eq_getElem?_getD, h]
theorem val_take_ge {l : List Int} {k : Nat} (h : l.length ≤ k) : val (l.take (k + 1)) = val (l.take k) := by
  rw [List.take_of_length_le (by omega), List.take_of_length_le h]
theorem val_take_all {l : List Int} {k : Nat} (h : l.length ≤ k) : val (l.take k) = val l := by rw [List.take_of_length_le h]

theorem val_drop {l : List Int} {k : Nat} (h : k < l.length) : val (l.drop k) = l.getD k 0 + 65536 * val (l.drop (k + 1)) := by
  rw [List.drop_eq_getElem_cons h]; simp [val, List.getD_eq_getElem?_getD, h]

theorem val_set {l : List Int} {k : Nat} (h : k < l.length) (d : Int) : val (l.set k d) = val l + pw k * (d - l.getD k 0) := by
  induction l generalizing k with
  | nil => simp at h
  | cons x r ih =>
    cases k with
    | zero => simp [val, pw_zero]; omega
    | succ k =>
      have := ih (k := k) (by simpa using h)
      simp only [List.set_cons_succ, val, this, pw_succ, List.getD_cons_succ]; grind

theorem okL_set {l : List Int} (h : okL l) (k : Nat) {d : Int} (hd : 0 ≤ d ∧ d < 65536) : okL (l.set k d) := by
  intro x hx
  rcases List.mem_or_eq_of_mem_set hx with h1 | h1
  · exact h x h1
  · exact h1 ▸ hd

theorem val_replicate (n : Nat) : val (List.replicate n 0) = 0 := by
  induction n with
  | zero => rfl
  | succ n ih => simp [List.replicate_succ, val, ih]
theorem okL_replicate (n : Nat) : okL (List.replicate n 0) := fun d hd => by
  have := List.eq_of_mem_replicate hd; omega

/-- No zero at the end. -/
def Trim (l : List Int) : Prop := l = [] ∨ pw (l.length - 1) ≤ val l

def trimL (l : List Int) : List Int := (l.reverse.dropWhile (· == 0)).reverse

theorem trimL_snoc (l : List Int) (d : Int) : trimL (l ++ [d]) = if d == 0 then trimL l else l ++ [d] := by
  unfold trimL
  rw [List.reverse_append]; simp only [List.reverse_cons, List.reverse_nil, List.nil_append, List.singleton_append, List.dropWhile_cons]
  split <;> simp

theorem snoc_cases (l : List Int) : l = [] ∨ ∃ r d, l = r ++ [d] := by
  rcases List.eq_nil_or_concat l with h | ⟨r, d, h⟩
  · exact Or.inl h
  · exact Or.inr ⟨r, d, by simpa using h⟩

theorem val_trimL (l : List Int) : val (trimL l) = val l := by
  generalize hn : l.length = n
  induction n generalizing l with
  | zero => have := List.length_eq_zero_iff.1 hn; subst this; rfl
  | succ n ih =>
    rcases snoc_cases l with h | ⟨r, d, h⟩
    · subst h; simp at hn
    · subst h
      rw [trimL_snoc]
      split
      · rename_i h0; have : d = 0 := by simpa using h0
        subst this
        rw [ih r (by simpa using hn), val_snoc]; omega
      · rfl

theorem okL_trimL {l : List Int} (h : okL l) : okL (trimL l) := by
  intro d hd
  unfold trimL at hd
  have := List.mem_reverse.1 hd
  exact h d (List.mem_reverse.1 (List.Sublist.subset (List.dropWhile_sublist _) this))

theorem trim_snoc {l : List Int} {d : Int} (h : okL (l ++ [d])) (hd : d ≠ 0) : Trim (l ++ [d]) := by
  right
  have ⟨h1, h2⟩ := okL_append.1 h
  have := val_nonneg h1
  have h3 := (okL_cons.1 h2).1
  rw [val_snoc]; simp only [List.length_append, List.length_singleton, Nat.add_sub_cancel]
  have hp := pw_pos l.length
  have : pw l.length * 1 ≤ pw l.length * d := Int.mul_le_mul_of_nonneg_left (by omega) (by omega)
  omega

theorem trim_trimL {l : List Int} (h : okL l) : Trim (trimL l) := by
  generalize hn : l.length = n
  induction n generalizing l with
  | zero => have := List.length_eq_zero_iff.1 hn; subst this; exact Or.inl rfl
  | succ n ih =>
    rcases snoc_cases l with h' | ⟨r, d, h'⟩
    · subst h'; simp at hn
    · subst h'
      rw [trimL_snoc]
      split
      · exact ih (okL_append.1 h).1 (by simpa using hn)
      · rename_i h0
        exact trim_snoc h (by simpa using h0)

/-- A trimmed list that reads as 0 is empty. -/
theorem trim_zero {l : List Int} (h : Trim l) : (l = []) ↔ val l = 0 := by
  constructor
  · rintro rfl; rfl
  · intro h0
    rcases h with h | h
    · exact h
    · have := pw_pos (l.length - 1); omega

theorem trim_last {l : List Int} {d : Int} (h : Trim (l ++ [d])) (ho : okL (l ++ [d])) : d ≠ 0 := by
  intro h0; subst h0
  rcases h with h | h
  · simp at h
  · have ⟨h1, h2⟩ := okL_append.1 ho
    have := val_lt h1
    rw [val_snoc] at h
    simp at h; omega

/-- Lists that are trimmed: the longer one is greater. -/
theorem len_lt {a b : List Int} (ha : okL a) (hb : Trim b) (h : a.length < b.length) : val a < val b := by
  have := val_lt ha
  rcases hb with hb | hb
  · subst hb; simp at h
  · have := pw_mono (j := a.length) (k := b.length - 1) (by omega)
    omega

/-- At the greatest place where two lists differ the greater digit decides. -/
theorem cmp_at {a b : List Int} (ha : okL a) (hb : okL b) (hl : a.length = b.length) {i : Nat} (hi : i < a.length) (hd : a.drop (i + 1) = b.drop (i + 1))
    (h : a.getD i 0 < b.getD i 0) : val a < val b := by
  induction i generalizing a b with
  | zero =>
    cases a with
    | nil => simp at hi
    | cons x r =>
      cases b with
      | nil => simp at hl
      | cons y s => simp at hd h; subst hd; simp only [val]; omega
  | succ i ih =>
    cases a with
    | nil => simp at hi
    | cons x r =>
      cases b with
      | nil => simp at hl
      | cons y s =>
        have := ih (okL_cons.1 ha).2 (okL_cons.1 hb).2 (by simpa using hl) (by simpa using hi) (by simpa using hd) (by simpa using h)
        have := (okL_cons.1 ha).1; have := (okL_cons.1 hb).1
        simp only [val]; omega

theorem drop_eq_succ {a b : List Int} (hl : a.length = b.length) {i : Nat} (hd : a.drop (i + 1) = b.drop (i + 1)) (h : a.getD i 0 = b.getD i 0) : a.drop i = b.drop i := by
  by_cases hi : i < a.length
  · have hi2 : i < b.length := hl ▸ hi
    rw [List.drop_eq_getElem_cons hi, List.drop_eq_getElem_cons hi2, hd]
    have hi' : i < b.length := hl ▸ hi
    simp [List.getD_eq_getElem?_getD, hi, hi'] at h
    rw [h]
  · rw [List.drop_eq_nil_of_le (by omega), List.drop_eq_nil_of_le (by omega)]

theorem val_inj {a b : List Int} (ha : okL a) (hb : okL b) (ta : Trim a) (tb : Trim b) (h : val a = val b) : a = b := by
  have hl : a.length = b.length := by
    rcases Nat.lt_trichotomy a.length b.length with h1 | h1 | h1
    · have := len_lt ha tb h1; omega
    · exact h1
    · have := len_lt hb ta h1; omega
  clear ta tb
  induction a generalizing b with
  | nil => cases b with
    | nil => rfl
    | cons y s => simp at hl
  | cons x r ih => cases b with
    | nil => simp at hl
    | cons y s =>
      have h1 := (okL_cons.1 ha).1; have h2 := (okL_cons.1 hb).1
      simp only [val] at h
      have e : val r = val s := by omega
      have := ih (okL_cons.1 ha).2 (okL_cons.1 hb).2 e (by simpa using hl)
      subst this
      have : x = y := by omega
      subst this; rfl
end Dig
end Go.Proofs.YtnccllelmbcdcaaGreatDoor
