/- SHA-256, plain: the bytes of a hash, the hash of a string. -/
import Derived.Test.YtkjdfjpfghpofaaDoorGp
import Derived.Laws.BytesArg
namespace Go.Proofs.YtkjdfjpfghpofaaDoor.Sha
open Go

/-- The bytes of the words, when i of them are there. -/
def hashN (ws : List Int) : Nat → List Int
  | 0 => List.replicate 32 0
  | i + 1 => (hashN ws i).set i (ws.getD (i / 4) 0 / 2 ^ (24 - 8 * (i % 4)) % 256)
theorem hashN_length (ws : List Int) (i : Nat) : (hashN ws i).length = 32 := by
  induction i with
  | zero => simp [hashN]
  | succ i ih => simp [hashN, ih]
/-- The state at the beginning. -/
def hS : S8 := ⟨1779033703, 3144134277, 1013904242, 2773480762, 1359893119, 2600822924, 528734635, 1541459225⟩
theorem hS_list : hS.list = hL := rfl
/-- The message of a string: the string and what follows it. -/
def msg (s : ByteArray) : ByteArray := s ++ strOfNums (padI s.size)
/-- The hash of a string: its 32 bytes. -/
def sum (s : ByteArray) : List Int := hashN (absorb hS (msg s) ((msg s).size / 64)).list 32
theorem padI_length (L : Nat) : (L + (padI L).length) % 64 = 0 := by
  simp [padI, zerosOf]; omega
theorem msg_size (s : ByteArray) : (msg s).size = 64 * ((msg s).size / 64) := by
  have h := padI_length s.size
  have e : (msg s).size = s.size + (padI s.size).length := by simp [msg, strOfNums_size]
  omega
theorem extract_left (A R : ByteArray) (i j : Nat) (h : j ≤ A.size) : (A ++ R).extract i j = A.extract i j := by
  rw [ByteArray.extract_append, Nat.sub_eq_zero_of_le h]
  apply ByteArray.ext
  simp [ByteArray.data_append, ByteArray.data_extract]
theorem extract_right (A R : ByteArray) (i j n : Nat) (h : A.size = n) : (A ++ R).extract (n + i) (n + j) = R.extract i j := by
  subst h
  rw [ByteArray.extract_append, Nat.add_sub_cancel_left, Nat.add_sub_cancel_left]
  apply ByteArray.ext
  simp [ByteArray.data_append, ByteArray.data_extract]
theorem absorb_left (S : S8) (A R : ByteArray) (m : Nat) (h : A.size = 64 * m) (n : Nat) (hn : n ≤ m) : absorb S (A ++ R) n = absorb S A n := by
  induction n with
  | zero => rfl
  | succ n ih => rw [absorb, absorb, ih (by omega), extract_left A R _ _ (by omega)]
theorem absorb_append (S : S8) (A R : ByteArray) (m : Nat) (h : A.size = 64 * m) (k : Nat) : absorb S (A ++ R) (m + k) = absorb (absorb S A m) R k := by
  induction k with
  | zero => exact absorb_left S A R m h m (Nat.le_refl _)
  | succ k ih =>
    rw [← Nat.add_assoc, absorb, absorb, ih, show 64 * (m + k) + 64 = 64 * m + (64 * k + 64) by omega, show 64 * (m + k) = 64 * m + 64 * k by omega, extract_right A R _ _ _ h]
/-- The message in two pieces: the whole blocks of the string, and the rest. -/
theorem msg_split (s : ByteArray) (m : Nat) (h : 64 * m ≤ s.size) : msg s = s.extract 0 (64 * m) ++ (s.extract (64 * m) s.size ++ strOfNums (padI s.size)) := by
  unfold msg
  rw [← ByteArray.append_assoc, ByteArray.extract_append_extract, Nat.min_eq_left (by omega), Nat.max_eq_right h, ByteArray.extract_zero_size]
theorem sum_split (s : ByteArray) (m k : Nat) (h : 64 * m ≤ s.size) (hk : (s.extract (64 * m) s.size ++ strOfNums (padI s.size)).size = 64 * k) :
    sum s = hashN (absorb (absorb hS (s.extract 0 (64 * m)) m) (s.extract (64 * m) s.size ++ strOfNums (padI s.size)) k).list 32 := by
  have e := msg_split s m h
  have z : (s.extract 0 (64 * m)).size = 64 * m := by simp; omega
  unfold sum
  rw [e, ByteArray.size_append, z, hk, show (64 * m + 64 * k) / 64 = m + k by omega, absorb_append _ _ _ m z]
theorem rest_size (s : ByteArray) (m : Nat) (h : 64 * m ≤ s.size) : ∃ k, (s.extract (64 * m) s.size ++ strOfNums (padI s.size)).size = 64 * k ∧ 64 * k ≤ s.size + 128 := by
  have h1 := padI_length s.size
  have h2 : (padI s.size).length ≤ 72 := by simp [padI, zerosOf]; omega
  refine ⟨(s.size - 64 * m + (padI s.size).length) / 64, ?_, ?_⟩
  · rw [ByteArray.size_append, strOfNums_size]; simp; omega
  · omega
/-- A list of 32 bytes. -/
def Hash (l : List Int) : Prop := l.length = 32 ∧ ∀ i, 0 ≤ l.getD i 0 ∧ l.getD i 0 < 256
/-- The digit of a number below 16. -/
def hexD (n : Int) : Int := if n < 10 then 48 + n else 87 + n
/-- The digits of the first n bytes. -/
def textN (l : List Int) : Nat → List Int
  | 0 => []
  | n + 1 => textN l n ++ [hexD (l.getD n 0 / 16), hexD (l.getD n 0 % 16)]
theorem textN_length (l : List Int) (n : Nat) : (textN l n).length = 2 * n := by
  induction n with
  | zero => rfl
  | succ n ih => simp [textN, ih]; omega
theorem hexD_at (x : Int) (h0 : 0 ≤ x) (h1 : x < 16) : byteI ⟨#[48, 49, 50, 51, 52, 53, 54, 55, 56, 57, 97, 98, 99, 100, 101, 102]⟩ x.toNat = hexD x := by
  obtain ⟨n, rfl⟩ := Int.eq_ofNat_of_zero_le h0
  have hn : n < 16 := by omega
  have h : ∀ m : Fin 16, byteI ⟨#[48, 49, 50, 51, 52, 53, 54, 55, 56, 57, 97, 98, 99, 100, 101, 102]⟩ m.val = hexD (m.val : Int) := by decide
  simpa using h ⟨n, hn⟩
/-- The text of a hash. -/
def text (l : List Int) : ByteArray := strOfNums (textN l 32)
/-- Is it a digit of a text of a hash? -/
def isD (c : Int) : Bool := decide (48 ≤ c ∧ c ≤ 57) || decide (97 ≤ c ∧ c ≤ 102)
/-- The value of a digit, 0 if it is none. -/
def valD (c : Int) : Int := if 48 ≤ c ∧ c ≤ 57 then c - 48 else if 97 ≤ c ∧ c ≤ 102 then c - 87 else 0
theorem valD_lo (c : Int) : 0 ≤ valD c ∧ valD c < 16 := by unfold valD; split <;> (try split) <;> omega
/-- Are the first 2n bytes digits? -/
def okN (s : ByteArray) : Nat → Bool
  | 0 => true
  | n + 1 => okN s n && isD (byteI s (2 * n)) && isD (byteI s (2 * n + 1))
/-- The bytes of which the digits are the first 2n bytes. -/
def valN (s : ByteArray) : Nat → List Int
  | 0 => List.replicate 32 0
  | n + 1 => (valN s n).set n (valD (byteI s (2 * n)) * 16 + valD (byteI s (2 * n + 1)))
theorem valN_length (s : ByteArray) (i : Nat) : (valN s i).length = 32 := by
  induction i with
  | zero => simp [valN]
  | succ i ih => simp [valN, ih]
theorem okN_false (s : ByteArray) (n m : Nat) (h : okN s n = false) (hm : n ≤ m) : okN s m = false := by
  induction hm with
  | refl => exact h
  | step _ ih => simp [okN, ih]
/-- What Read returns: the bytes, and whether the string is a text of a hash. -/
def readOk (s : ByteArray) : Bool := decide (s.size = 64) && okN s 32
def readL (s : ByteArray) : List Int := if readOk s then valN s 32 else List.replicate 32 0
theorem u8_join (h l : Int) (h0 : 0 ≤ h) (h1 : h < 16) (l0 : 0 ≤ l) (l1 : l < 16) : bits .or .u8 (h * 16) l = h * 16 + l := by
  obtain ⟨a, rfl⟩ := Int.eq_ofNat_of_zero_le h0
  obtain ⟨b, rfl⟩ := Int.eq_ofNat_of_zero_le l0
  have ha : a < 16 := by omega
  have hb : b < 16 := by omega
  have e : ∀ x : Fin 16, ∀ y : Fin 16, bits .or .u8 ((x.val : Int) * 16) (y.val : Int) = (x.val : Int) * 16 + (y.val : Int) := by decide +kernel
  exact e ⟨a, ha⟩ ⟨b, hb⟩
/-- Is the first list less, number by number from the first one on? -/
def lexLt : List Int → List Int → Bool
  | x :: xs, y :: ys => if x = y then lexLt xs ys else decide (x < y)
  | _, _ => false
theorem lex_self (a : List Int) : lexLt a a = false := by
  induction a with
  | nil => rfl
  | cons x xs ih => simp [lexLt, ih]
theorem lex_at : ∀ (n : Nat) (a b : List Int), (∀ i, i < n → a.getD i 0 = b.getD i 0) → n < a.length → n < b.length → a.getD n 0 ≠ b.getD n 0 → lexLt a b = decide (a.getD n 0 < b.getD n 0)
  | 0, x :: xs, y :: ys, _, _, _, hne => by
    have : ¬ x = y := by simpa using hne
    simp [lexLt, this]
  | n + 1, x :: xs, y :: ys, h, ha, hb, hne => by
    have h0 : x = y := by simpa using h 0 (by omega)
    subst h0
    simp only [lexLt, if_true]
    have := lex_at n xs ys (fun i hi => by simpa using h (i + 1) (by omega)) (by simpa using ha) (by simpa using hb) (by simpa using hne)
    simpa using this
  | _, [], _, _, ha, _, _ => by simp at ha
  | _, _ :: _, [], _, _, hb, _ => by simp at hb
theorem eq_of_getD (a b : List Int) (hl : a.length = b.length) (h : ∀ i, i < a.length → a.getD i 0 = b.getD i 0) : a = b := by
  apply List.ext_getElem hl
  intro i h1 h2
  have := h i h1
  simpa [List.getD_eq_getElem?_getD, h1, h2] using this
theorem strOfNums_append (a b : List Int) : strOfNums (a ++ b) = strOfNums a ++ strOfNums b := by
  apply ByteArray.ext
  simp [strOfNums, ByteArray.data_append]
theorem digit_str (p : Nat) (h : p < 16) : (⟨#[48, 49, 50, 51, 52, 53, 54, 55, 56, 57, 97, 98, 99, 100, 101, 102]⟩ : ByteArray).extract p (p + 1) = strOfNums [hexD (p : Int)] := by
  have e : ∀ m : Fin 16, (⟨#[48, 49, 50, 51, 52, 53, 54, 55, 56, 57, 97, 98, 99, 100, 101, 102]⟩ : ByteArray).extract m.val (m.val + 1) = strOfNums [hexD (m.val : Int)] := by decide
  exact e ⟨p, h⟩
/-- The number that the reference finds for a byte among the first k digits, -1 if there is none. -/
def findD (c : Int) : Nat → Int
  | 0 => -1
  | k + 1 => if hexD (k : Int) = c then (k : Int) else findD c k
theorem findD_all (c : Int) (h : 0 ≤ c ∧ c < 256) : findD c 16 = if isD c then valD c else -1 := by
  obtain ⟨n, rfl⟩ := Int.eq_ofNat_of_zero_le h.1
  have hn : n < 256 := by omega
  have e : ∀ m : Fin 256, findD (m.val : Int) 16 = if isD (m.val : Int) then valD (m.val : Int) else -1 := by decide +kernel
  exact e ⟨n, hn⟩
/-- Are the first n bytes digits? -/
def okR (s : ByteArray) : Nat → Bool
  | 0 => true
  | n + 1 => okR s n && isD (byteI s n)
/-- The reference's bytes behind n digits. -/
def valR (s : ByteArray) : Nat → List Int
  | 0 => List.replicate 32 0
  | n + 1 => (valR s n).set (n / 2) (((valR s n).getD (n / 2) 0 * 16 % 256 + valD (byteI s n)) % 256)
theorem valR_length (s : ByteArray) (i : Nat) : (valR s i).length = 32 := by
  induction i with
  | zero => simp [valR]
  | succ i ih => simp [valR, ih]
theorem okR_false (s : ByteArray) (n m : Nat) (h : okR s n = false) (hm : n ≤ m) : okR s m = false := by
  induction hm with
  | refl => exact h
  | step _ ih => simp [okR, ih]
theorem okR_even (s : ByteArray) (n : Nat) : okR s (2 * n) = okN s n := by
  induction n with
  | zero => rfl
  | succ n ih => rw [show 2 * (n + 1) = 2 * n + 1 + 1 from rfl, okR, okR, ih, okN]
theorem valN_past (s : ByteArray) (n i : Nat) (h : n ≤ i) (hi : i < 32) : (valN s n).getD i 0 = 0 := by
  induction n with
  | zero => rw [valN, List.getD_eq_getElem?_getD, List.getElem?_replicate, if_pos hi]; rfl
  | succ n ih =>
    rw [valN, List.getD_eq_getElem?_getD, List.getElem?_set_ne (by omega), ← List.getD_eq_getElem?_getD]
    exact ih (by omega)
theorem valR_even (s : ByteArray) (n : Nat) (h : n ≤ 32) : valR s (2 * n) = valN s n := by
  induction n with
  | zero => rfl
  | succ n ih =>
    have v0 := valD_lo (byteI s (2 * n))
    have v1 := valD_lo (byteI s (2 * n + 1))
    have e0 := valN_past s n n (Nat.le_refl _) (by omega)
    have l0 := valN_length s n
    rw [show 2 * (n + 1) = 2 * n + 1 + 1 from rfl, valR, valR, ih (by omega), valN, show (2 * n) / 2 = n by omega, show (2 * n + 1) / 2 = n by omega, e0]
    have g : ((valN s n).set n ((0 * 16 % 256 + valD (byteI s (2 * n))) % 256)).getD n 0 = valD (byteI s (2 * n)) := by
      rw [List.getD_eq_getElem?_getD, List.getElem?_set_self (by omega)]
      show (0 * 16 % 256 + valD (byteI s (2 * n))) % 256 = _
      omega
    rw [g, List.set_set]
    congr 1
    omega
/-- The first m bytes of the number of bits. -/
def be (v : Int) : Nat → List Int
  | 0 => []
  | m + 1 => be v m ++ [v / 2 ^ (8 * (7 - m)) % 256]
theorem padI_be (L : Nat) : padI L = (128 :: List.replicate (zerosOf L) 0) ++ be ((L : Int) * 8) 8 := by
  simp [padI, be]
theorem be_length (v : Int) (m : Nat) : (be v m).length = m := by
  induction m with
  | zero => rfl
  | succ m ih => simp [be, ih]
theorem zeros_more (L j : Nat) (h : j < zerosOf L) : (L + 1 + j) % 64 ≠ 56 := by unfold zerosOf at h; omega
theorem zeros_end (L : Nat) : (L + 1 + zerosOf L) % 64 = 56 := by unfold zerosOf; omega
end Go.Proofs.YtkjdfjpfghpofaaDoor.Sha
