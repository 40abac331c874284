import Derived.Test.YtnccllelmbcdcaaGreatDoorNum
import Derived.Lib.ItoaNum
import Derived.Lib.ItoaMem
import Derived.Lib.AtoiAllCases
import Derived.Lib.IndexBytes
import Derived.Lib.CutLaws
import Derived.Test.YtnccllelmbcdcaaGreatDoorLow
import Derived.Test.YtnccllelmbcdcaaGreatDoorT
/- Plain: what a loop over the digits of a number's text reckons in int64; which letters the text has. -/
namespace Go.Proofs.YtnccllelmbcdcaaGreatDoor
open Go.RowKit

/-- One digit more, as an int64 reckons it. -/
def numStep (neg : Bool) (n : Int) (c : UInt8) : Int :=
  if neg then IntKind.i64.wrap (IntKind.i64.wrap (10 * n) - ((c.toNat : Int) - 48)) else IntKind.i64.wrap (IntKind.i64.wrap (10 * n) + ((c.toNat : Int) - 48))

theorem digit_toNat {k : Nat} (h : k < 10) : (UInt8.ofNat (48 + k)).toNat = 48 + k := by
  rw [UInt8.toNat_ofNat']; omega

theorem wrap_id {x : Int} (h0 : -9223372036854775808 ≤ x) (h1 : x ≤ 9223372036854775807) : IntKind.i64.wrap x = x := by rw [IntKind.wrap_i64]; omega

theorem dec_split (u : Nat) (h : ¬ u < 10) : ∃ q m : Nat, u = 10 * q + m ∧ m < 10 ∧ q < u ∧ Lib.decDigits u = Lib.decDigits q ++ [UInt8.ofNat (48 + m)] := by
  refine ⟨u / 10, u % 10, by omega, Nat.mod_lt _ (by decide), by omega, ?_⟩
  rw [Lib.decDigits, dif_neg h]

theorem step_pos (q : Int) (m : Nat) (hm : m < 10) (h0 : 0 ≤ q) (h : 10 * q + m ≤ 9223372036854775807) : numStep false q (UInt8.ofNat (48 + m)) = 10 * q + m := by
  unfold numStep
  rw [digit_toNat hm, wrap_id (x := 10 * q) (by omega) (by omega), if_neg (by decide), wrap_id (by omega) (by omega)]; omega

theorem step_neg (q : Int) (m : Nat) (hm : m < 10) (h0 : q ≤ 0) (h : -9223372036854775808 ≤ 10 * q - m) : numStep true q (UInt8.ofNat (48 + m)) = 10 * q - m := by
  unfold numStep
  rw [digit_toNat hm, wrap_id (x := 10 * q) (by omega) (by omega), if_pos rfl, wrap_id (by omega) (by omega)]; omega

theorem numStep_pos (u : Nat) : (u : Int) ≤ 9223372036854775807 → (Lib.decDigits u).foldl (numStep false) 0 = (u : Int) := by
  induction u using Nat.strongRecOn with
  | _ u ih =>
    intro h
    by_cases hu : u < 10
    · rw [Lib.decDigits_one hu]
      exact (step_pos 0 u hu (by omega) (by omega)).trans (by omega)
    · obtain ⟨q, m, e, hm, hq, hd⟩ := dec_split u hu
      rw [hd, List.foldl_append, ih q hq (by omega)]
      exact (step_pos q m hm (by omega) (by omega)).trans (by omega)

theorem numStep_neg (u : Nat) : (u : Int) ≤ 9223372036854775808 → (Lib.decDigits u).foldl (numStep true) 0 = -(u : Int) := by
  induction u using Nat.strongRecOn with
  | _ u ih =>
    intro h
    by_cases hu : u < 10
    · rw [Lib.decDigits_one hu]
      exact (step_neg 0 u hu (by omega) (by omega)).trans (by omega)
    · obtain ⟨q, m, e, hm, hq, hd⟩ := dec_split u hu
      rw [hd, List.foldl_append, ih q hq (by omega)]
      exact (step_neg (-q) m hm (by omega) (by omega)).trans (by omega)

/-- The letters of a number's text are digits. -/
theorem dec_digits (u : Nat) : ∀ c ∈ Lib.decDigits u, 48 ≤ c.toNat ∧ c.toNat ≤ 57 := by
  induction u using Nat.strongRecOn with
  | _ u ih =>
    intro c hc
    rw [Lib.decDigits] at hc
    split at hc
    · rename_i hu
      rw [List.mem_singleton] at hc; subst hc
      rw [digit_toNat hu]; omega
    · rename_i hu
      rcases List.mem_append.1 hc with hc | hc
      · exact ih (u / 10) (by omega) c hc
      · have hm : u % 10 < 10 := Nat.mod_lt _ (by decide)
        rw [List.mem_singleton] at hc; subst hc
        rw [digit_toNat hm]; omega
end Go.Proofs.YtnccllelmbcdcaaGreatDoor

/- Plain: the text of a number is read by one way only; what strconv's reader says of the text of an int. -/
namespace Go.Proofs.YtnccllelmbcdcaaGreatDoor
open Go.RowKit

/-- What the reference's loop reckons of a whole text. -/
def numOf (l : List UInt8) : Int := if l.head? = some 45 then l.tail.foldl (numStep true) 0 else l.foldl (numStep false) 0

theorem dec_ne (u : Nat) : Lib.decDigits u ≠ [] := by
  rw [Lib.decDigits]; split <;> simp

theorem dec_head (u : Nat) : (Lib.decDigits u).head? ≠ some 45 := by
  intro h
  have := dec_digits u 45 (List.mem_of_mem_head? (by rw [h]; rfl))
  have e : (45 : UInt8).toNat = 45 := rfl
  omega

theorem itoa_split (n : Int) : (n < 0 ∧ Lib.itoa n = 45 :: Lib.decDigits n.natAbs) ∨ (0 ≤ n ∧ Lib.itoa n = Lib.decDigits n.natAbs) := by
  unfold Lib.itoa
  by_cases h : n < 0
  · rw [if_pos h]; exact .inl ⟨h, rfl⟩
  · rw [if_neg h]; refine .inr ⟨by omega, ?_⟩
    rw [show n.toNat = n.natAbs by omega]

theorem numOf_itoa (n : Int) (h : I64 n) : numOf (Lib.itoa n) = n := by
  unfold numOf
  obtain ⟨h0, h1⟩ := h
  rcases itoa_split n with ⟨hn, e⟩ | ⟨hn, e⟩
  · rw [e, List.head?_cons, if_pos rfl, List.tail_cons, numStep_neg _ (by omega)]; omega
  · rw [e, if_neg (dec_head _), numStep_pos _ (by omega)]; omega

theorem itoa_inj (a b : Int) (ha : I64 a) (hb : I64 b) (h : Lib.itoa a = Lib.itoa b) : a = b := by
  rw [← numOf_itoa a ha, ← numOf_itoa b hb, h]

theorem itoa_letters (n : Int) : ∀ c ∈ Lib.itoa n, c ≠ 47 := by
  intro c hc
  rcases itoa_split n with ⟨_, e⟩ | ⟨_, e⟩
  · rw [e] at hc
    rcases List.mem_cons.1 hc with rfl | hc
    · decide
    · intro e2; subst e2
      have := dec_digits _ _ hc
      have e : (47 : UInt8).toNat = 47 := rfl
      omega
  · rw [e] at hc
    intro e2; subst e2
    have := dec_digits _ _ hc
    have e : (47 : UInt8).toNat = 47 := rfl
    omega

theorem itoa_ne (n : Int) : Lib.itoa n ≠ [] := by
  rcases itoa_split n with ⟨_, e⟩ | ⟨_, e⟩ <;> rw [e]
  · simp
  · exact dec_ne _

/-- Two texts that have no such letter, joined by it, are equal only part by part. -/
theorem join_inj {x y u v : List UInt8} (hx : ∀ c ∈ x, c ≠ 47) (hu : ∀ c ∈ u, c ≠ 47) (h : x ++ 47 :: y = u ++ 47 :: v) : x = u ∧ y = v := by
  induction x generalizing u with
  | nil =>
    cases u with
    | nil => simp at h; exact ⟨rfl, h⟩
    | cons d u =>
      simp at h
      exact absurd h.1.symm (hu d (by simp))
  | cons c x ih =>
    cases u with
    | nil =>
      simp at h
      exact absurd h.1 (hx c (by simp))
    | cons d u =>
      simp at h
      obtain ⟨e1, e2⟩ := ih (fun k hk => hx k (by simp [hk])) (fun k hk => hu k (by simp [hk])) h.2
      rw [h.1, e1, e2]; exact ⟨rfl, rfl⟩

theorem join_none {x y u : List UInt8} (hu : ∀ c ∈ u, c ≠ 47) (h : x ++ 47 :: y = u) : False :=
  hu 47 (by rw [← h]; simp) rfl

theorem parseUint10_snoc (l : List UInt8) : ∀ (acc v : Nat) (c : UInt8), Lib.parseUint10 acc l = .ok v → Lib.parseUint10 acc (l ++ [c]) = Lib.parseUint10 v [c] := by
  induction l with
  | nil =>
    intro acc v c h
    simp only [Lib.parseUint10] at h
    injection h with h
    rw [h, List.nil_append]
  | cons d r ih =>
    intro acc v c h
    rw [List.cons_append]
    unfold Lib.parseUint10 at h
    rw [Lib.parseUint10]
    split at h
    · rename_i h1
      rw [if_pos h1]
      split at h
      · cases h
      · rename_i h2
        rw [if_neg h2]
        split at h
        · cases h
        · rename_i h3
          rw [if_neg h3]
          exact ih _ _ _ h
    · cases h

theorem parse_dec (u : Nat) : u ≤ 9223372036854775808 → Lib.parseUint10 0 (Lib.decDigits u) = .ok u := by
  induction u using Nat.strongRecOn with
  | _ u ih =>
    intro h
    by_cases hu : u < 10
    · rw [Lib.decDigits_one hu]
      unfold Lib.parseUint10
      rw [digit_toNat hu, if_pos (by omega), if_neg (by omega), if_neg (by omega)]
      simp only [Lib.parseUint10]
      congr 1; omega
    · obtain ⟨q, m, e, hm, hq, hd⟩ := dec_split u hu
      rw [hd, parseUint10_snoc _ _ _ _ (ih q hq (by omega))]
      unfold Lib.parseUint10
      rw [digit_toNat hm, if_pos (by omega), if_neg (by omega), if_neg (by omega)]
      simp only [Lib.parseUint10]
      congr 1; omega

theorem atoi_itoa (n : Int) (h : I64 n) : Lib.atoiAll (Lib.itoa n) = .ok n := by
  obtain ⟨h0, h1⟩ := h
  rcases itoa_split n with ⟨hn, e⟩ | ⟨hn, e⟩
  · rw [e, Lib.atoiAll_minus]
    unfold Lib.parseMag
    rw [if_neg (dec_ne _), parse_dec _ (by omega)]
    simp only [Lib.signed]
    rw [if_neg (by omega)]
    congr 1; omega
  · rw [e]
    obtain ⟨c, r, hc⟩ : ∃ c r, Lib.decDigits n.natAbs = c :: r := by
      cases h : Lib.decDigits n.natAbs with
      | nil => exact absurd h (dec_ne _)
      | cons c r => exact ⟨c, r, rfl⟩
    have hd := dec_digits n.natAbs c (by rw [hc]; simp)
    rw [hc, Lib.atoiAll_plain c r (by omega) (by omega), ← hc]
    unfold Lib.parseMag
    rw [if_neg (dec_ne _), parse_dec _ (by omega)]
    simp only [Lib.signless]
    rw [if_neg (by omega)]
    congr 1; omega

theorem dec_length (k : Nat) : ∀ u : Nat, u < 10 ^ (k + 1) → (Lib.decDigits u).length ≤ k + 1 := by
  induction k with
  | zero => intro u h; rw [Lib.decDigits_one (by omega)]; simp
  | succ k ih =>
    intro u h
    by_cases hu : u < 10
    · rw [Lib.decDigits_one hu]; simp
    · obtain ⟨q, m, e, hm, hq, hd⟩ := dec_split u hu
      rw [hd, List.length_append]
      have := ih q (by rw [Nat.pow_succ] at h; omega)
      simp; omega

theorem itoa_len20 (n : Int) (h : I64 n) : (Lib.itoa n).length ≤ 20 := by
  obtain ⟨h0, h1⟩ := h
  have := dec_length 18 n.natAbs (by omega)
  rcases itoa_split n with ⟨hn, e⟩ | ⟨hn, e⟩ <;> rw [e] <;> simp <;> omega

/-- What the reference's 'number' says of a text. -/
def NumRes (l : List UInt8) (n : Int) (ok : Bool) : Prop := I64 n ∧ (ok = true → l = Lib.itoa n) ∧ ∀ m, I64 m → l = Lib.itoa m → ok = true ∧ n = m

/-- The place where the digits of a text begin. -/
def numStart (l : List UInt8) : Nat := if l.head? = some 45 then 1 else 0

theorem numRes_no {l : List UInt8} (h : ∀ m, I64 m → l ≠ Lib.itoa m) : NumRes l 0 false :=
  ⟨⟨by decide, by decide⟩, by simp, fun m hm e => absurd e (h m hm)⟩

theorem itoa_start (m : Int) : numStart (Lib.itoa m) < (Lib.itoa m).length ∧ ∀ i c, numStart (Lib.itoa m) ≤ i → (Lib.itoa m)[i]? = some c → 48 ≤ c.toNat ∧ c.toNat ≤ 57 := by
  unfold numStart
  rcases itoa_split m with ⟨hn, e⟩ | ⟨hn, e⟩
  · rw [e, List.head?_cons, if_pos rfl]
    constructor
    · have := dec_ne m.natAbs
      have : (Lib.decDigits m.natAbs).length ≠ 0 := by simpa using this
      simp; omega
    · intro i c h1 h2
      obtain ⟨j, rfl⟩ : ∃ j, i = j + 1 := ⟨i - 1, by omega⟩
      rw [List.getElem?_cons_succ] at h2
      exact dec_digits _ _ (List.mem_of_getElem? h2)
  · rw [e, if_neg (dec_head _)]
    constructor
    · have := dec_ne m.natAbs
      have : (Lib.decDigits m.natAbs).length ≠ 0 := by simpa using this
      omega
    · intro i c h1 h2
      exact dec_digits _ _ (List.mem_of_getElem? h2)

/-- The loop's number at place i. -/
def numAt (l : List UInt8) (i : Nat) : Int := ((l.take i).drop (numStart l)).foldl (numStep (decide (l.head? = some 45))) 0

theorem numAt_start (l : List UInt8) : numAt l (numStart l) = 0 := by
  unfold numAt
  rw [List.drop_eq_nil_of_le (by rw [List.length_take]; omega)]; rfl

theorem numAt_step (l : List UInt8) (i : Nat) (c : UInt8) (h0 : numStart l ≤ i) (h : l[i]? = some c) : numAt l (i + 1) = numStep (decide (l.head? = some 45)) (numAt l i) c := by
  unfold numAt
  have hi : i < l.length := by
    rcases Nat.lt_or_ge i l.length with h1 | h1
    · exact h1
    · rw [List.getElem?_eq_none h1] at h; cases h
  rw [List.take_add_one, h, List.drop_append_of_le_length (by rw [List.length_take]; omega), List.foldl_append]
  rfl

theorem numAt_end (l : List UInt8) : numAt l l.length = numOf l := by
  unfold numAt numOf numStart
  rw [List.take_length]
  split
  · rename_i h; simp [h, List.drop_one]
  · rename_i h; simp [h]

theorem numStep_I64 (neg : Bool) (n : Int) (c : UInt8) : I64 (numStep neg n c) := by
  unfold numStep
  have key : ∀ x, I64 (IntKind.i64.wrap x) := fun x => by rw [IntKind.wrap_i64]; unfold I64; omega
  split <;> exact key _

/-- Cut at a letter: what is found. -/
theorem cut_slash (l : List UInt8) : (∃ x y, l = x ++ 47 :: y ∧ (∀ c ∈ x, c ≠ 47) ∧ Lib.cut l [47] = (x, y, true)) ∨ ((∀ c ∈ l, c ≠ 47) ∧ Lib.cut l [47] = (l, [], false)) := by
  have hi := Lib.index_one l 47
  by_cases h : Lib.indexByte l 47 = -1
  · right
    constructor
    · intro c hc e
      obtain ⟨k, hk⟩ := List.getElem?_of_mem hc
      exact Lib.indexByte_none h k (e ▸ hk)
    · unfold Lib.cut; rw [hi, h, if_neg (by decide)]
  · left
    have hg := Lib.indexByte_ge l 47
    obtain ⟨o, ho⟩ : ∃ o : Nat, Lib.indexByte l 47 = o := ⟨(Lib.indexByte l 47).toNat, by omega⟩
    obtain ⟨h1, h2⟩ := Lib.indexByte_some ho
    have hlt : o < l.length := by
      rcases Nat.lt_or_ge o l.length with h1' | h1'
      · exact h1'
      · rw [List.getElem?_eq_none h1'] at h1; cases h1
    refine ⟨l.take o, l.drop (o + 1), ?_, ?_, ?_⟩
    · rw [List.getElem?_eq_getElem hlt] at h1
      injection h1 with h1
      rw [← h1, ← List.drop_eq_getElem_cons hlt, List.take_append_drop]
    · intro c hc e
      obtain ⟨k, hk⟩ := List.getElem?_of_mem hc
      rw [List.getElem?_take] at hk
      split at hk
      · rename_i hko
        exact h2 k hko (e ▸ hk)
      · cases hk
    · unfold Lib.cut; rw [hi, ho, if_pos (by omega)]; simp
end Go.Proofs.YtnccllelmbcdcaaGreatDoor

/- Plain: the text of a right number is read by one way only. -/
namespace Go.Proofs.YtnccllelmbcdcaaGreatDoor
open Go.RowKit

theorem textL_pos {a b : Int} (h : Num.rtB a b = true) : textL a b = if b = 1 then Lib.itoa a else Lib.itoa a ++ 47 :: Lib.itoa b := by
  unfold textL; rw [if_pos h]; split <;> simp

theorem textL_inj {a b x y : Int} (ha : I64 a) (hb : I64 b) (hx : I64 x) (hy : I64 y) (h1 : Num.rtB a b = true) (h2 : Num.rtB x y = true) (h : textL a b = textL x y) : a = x ∧ b = y := by
  rw [textL_pos h1, textL_pos h2] at h
  split at h <;> split at h
  · rename_i e1 e2
    exact ⟨itoa_inj _ _ ha hx h, by rw [e1, e2]⟩
  · exact (join_none (itoa_letters _) h.symm).elim
  · exact (join_none (itoa_letters _) h).elim
  · obtain ⟨e1, e2⟩ := join_inj (itoa_letters _) (itoa_letters _) h
    exact ⟨itoa_inj _ _ ha hx e1, itoa_inj _ _ hb hy e2⟩

theorem textL_ne {a b : Int} (h : Num.rtB a b = true) : textL a b ≠ [] := by
  rw [textL_pos h]; split
  · exact itoa_ne _
  · simp

/-- What both Parse say of a text: the right number with this text, or 0 and no. -/
def IsParse (l : List UInt8) (a b : Int) (ok : Bool) : Prop :=
  I64 a ∧ I64 b ∧ ((ok = true ∧ Num.rtB a b = true ∧ textL a b = l) ∨ (ok = false ∧ a = 0 ∧ b = 1 ∧ ∀ x y, I64 x → I64 y → Num.rtB x y = true → textL x y ≠ l))

theorem IsParse.unique {l : List UInt8} {a b x y : Int} {ok no : Bool} (h : IsParse l a b ok) (k : IsParse l x y no) : a = x ∧ b = y ∧ ok = no := by
  obtain ⟨ha, hb, h⟩ := h
  obtain ⟨hx, hy, k⟩ := k
  rcases h with ⟨h1, h2, h3⟩ | ⟨h1, h2, h3, h4⟩ <;> rcases k with ⟨k1, k2, k3⟩ | ⟨k1, k2, k3, k4⟩
  · obtain ⟨e1, e2⟩ := textL_inj ha hb hx hy h2 k2 (h3.trans k3.symm)
    exact ⟨e1, e2, by rw [h1, k1]⟩
  · exact absurd h3 (k4 a b ha hb h2)
  · exact absurd k3 (h4 x y hx hy k2)
  · exact ⟨by rw [h2, k2], by rw [h3, k3], by rw [h1, k1]⟩

/-- What a reader of a number says of a text, if it may read more than the texts of numbers. -/
def NumA (l : List UInt8) (n : Int) (ok : Bool) : Prop := I64 n ∧ ∀ m, I64 m → l = Lib.itoa m → ok = true ∧ n = m
theorem NumRes.toA {l : List UInt8} {n : Int} {ok : Bool} (h : NumRes l n ok) : NumA l n ok := ⟨h.1, h.2.2⟩

theorem textL_one (x : Int) : textL x 1 = Lib.itoa x := by rw [textL_pos (Num.rt_of x), if_pos rfl]

theorem isParse_yes {l : List UInt8} {a b : Int} (ha : I64 a) (hb : I64 b) (hl : l ≠ []) (h : textL a b = l) : IsParse l a b true := by
  refine ⟨ha, hb, .inl ⟨rfl, ?_, h⟩⟩
  cases hr : Num.rtB a b
  · unfold textL at h
    rw [hr] at h
    exact absurd h.symm hl
  · rfl

theorem isParse_no1 {l : List UInt8} {n : Int} {ok : Bool} (h : ∀ c ∈ l, c ≠ 47) (hn : NumA l n ok) (hb : ok = false ∨ textL n 1 ≠ l) : IsParse l 0 1 false := by
  refine ⟨⟨by decide, by decide⟩, ⟨by decide, by decide⟩, .inr ⟨rfl, rfl, rfl, fun x y hx hy hr e => ?_⟩⟩
  rw [textL_pos hr] at e
  split at e
  · obtain ⟨o, e2⟩ := hn.2 x hx e.symm
    rcases hb with hb | hb
    · rw [hb] at o; cases o
    · apply hb; rw [textL_one, e2]; exact e
  · exact join_none h e

theorem isParse_no2 {x y : List UInt8} {n d : Int} {o1 o2 : Bool} (hx : ∀ c ∈ x, c ≠ 47) (hn : NumA x n o1) (hd : NumA y d o2) (hb : o1 = false ∨ o2 = false ∨ textL n d ≠ x ++ 47 :: y) : IsParse (x ++ 47 :: y) 0 1 false := by
  refine ⟨⟨by decide, by decide⟩, ⟨by decide, by decide⟩, .inr ⟨rfl, rfl, rfl, fun u v hu hv hr e => ?_⟩⟩
  have e0 := e
  rw [textL_pos hr] at e
  split at e
  · exact join_none (itoa_letters u) e.symm
  · obtain ⟨e1, e2⟩ := join_inj (itoa_letters u) hx e
    obtain ⟨p1, q1⟩ := hn.2 u hu e1.symm
    obtain ⟨p2, q2⟩ := hd.2 v hv e2.symm
    rcases hb with hb | hb | hb
    · rw [hb] at p1; cases p1
    · rw [hb] at p2; cases p2
    · apply hb; rw [q1, q2]; exact e0

/-- A box of two ints. -/
def Box (w : World) (B : Nat) (a b : Int) : Prop := w.cell? ⟨B, 0, none⟩ = some (.int .i64 a) ∧ w.cell? ⟨B, 1, none⟩ = some (.int .i64 b) ∧ w.frozen? ⟨B, 0, none⟩ = false ∧ w.frozen? ⟨B, 1, none⟩ = false ∧ B < w.heap.size
theorem Box.below {w w' : World} {B : Nat} {a b : Int} (h : Box w B a b) (hb : Below w.heap.size w w') : Box w' B a b :=
  box2 hb B h.1 h.2.1 h.2.2.1 h.2.2.2.1 h.2.2.2.2 h.2.2.2.2
theorem Box.set {w : World} {B : Nat} {a b : Int} (h : Box w B a b) (x y : Int) : Box ((w.setCell ⟨B, 0, none⟩ (.int .i64 x)).setCell ⟨B, 1, none⟩ (.int .i64 y)) B x y := by
  obtain ⟨h0, h1, h2, h3, h4⟩ := h
  exact ⟨by simp [*, go_sem], by simp [*, go_sem], by simp [*, go_sem], by simp [*, go_sem], by simpa using h4⟩
theorem Box.skip {w : World} {B C : Nat} {a b : Int} (h : Box w B a b) (hne : ¬ B = C) (x y : Value) : Box ((w.setCell ⟨C, 0, none⟩ x).setCell ⟨C, 1, none⟩ y) B a b := by
  obtain ⟨h0, h1, h2, h3, h4⟩ := h
  have hne2 : ¬ C = B := fun e => hne e.symm
  exact ⟨by simp [*, go_sem], by simp [*, go_sem], by simp [*, go_sem], by simp [*, go_sem], by simpa using h4⟩

/-- What both Parse return. -/
def ParseOut (s : ByteArray) (w : World) (e : Ending) (w' : World) : Prop := ∃ a b ok, e = .returned (.tuple #[ratV a b, .bool ok]) ∧ IsParse s.data.toList a b ok ∧ Below w.heap.size w w'

end Go.Proofs.YtnccllelmbcdcaaGreatDoor

