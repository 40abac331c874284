/- Trees of hashes, plain: halves, roots, ways, paths, growths. -/
import Derived.Test.YtkjdfjpfghpofaaDoorGq
namespace Go.Proofs.YtkjdfjpfghpofaaDoor.Tree
open Go

def leafS (s : ByteArray) : ByteArray := ⟨#[0]⟩ ++ s
def nodeS (a b : List Int) : ByteArray := ⟨#[1]⟩ ++ strOfNums a ++ strOfNums b
def leaf (s : ByteArray) : List Int := Sha.sum (leafS s)
def node (a b : List Int) : List Int := Sha.sum (nodeS a b)
/-- k doubled as long as it is less than the rest, f times at most. -/
def halfK : Nat → Nat → Nat → Nat
  | 0, k, _ => k
  | f + 1, k, n => if k < n - k then halfK f (k * 2) n else k
def half (n : Nat) : Nat := halfK 62 1 n
theorem halfK_pos : ∀ (f k n : Nat), 1 ≤ k → 1 ≤ halfK f k n
  | 0, _, _, h => h
  | f + 1, k, n, h => by
    unfold halfK
    split
    · exact halfK_pos f (k * 2) n (by omega)
    · exact h
theorem halfK_lt : ∀ (f k n : Nat), k < n → halfK f k n < n
  | 0, _, _, h => h
  | f + 1, k, n, h => by
    unfold halfK
    split
    · exact halfK_lt f (k * 2) n (by omega)
    · exact h
theorem half_pos (n : Nat) : 1 ≤ half n := halfK_pos 62 1 n (Nat.le_refl _)
theorem half_lt (n : Nat) (h : 2 ≤ n) : half n < n := halfK_lt 62 1 n (by omega)
/-- Where the doubling has come to an end, further doublings change nothing. -/
theorem halfK_end (k n : Nat) (h : ¬ k < n - k) : ∀ f, halfK f k n = k
  | 0 => rfl
  | f + 1 => by unfold halfK; rw [if_neg h]

/-- The root of a list. -/
def root (l : List ByteArray) : List Int :=
  if _h : l.length ≤ 1 then (match l with | [] => Sha.sum ⟨#[]⟩ | s :: _ => leaf s)
  else node (root (l.take (half l.length))) (root (l.drop (half l.length)))
termination_by l.length
decreasing_by
  · have := half_lt l.length (by omega); simp; omega
  · have := half_lt l.length (by omega); have := half_pos l.length; simp; omega
theorem root_nil : root [] = Sha.sum ⟨#[]⟩ := by rw [root]; rfl
theorem root_one (l : List ByteArray) (h : l.length = 1) : root l = leaf (l.getD 0 ByteArray.empty) := by
  match l, h with
  | [s], _ => rw [root]; rfl
theorem root_more (l : List ByteArray) (h : 2 ≤ l.length) : root l = node (root (l.take (half l.length))) (root (l.drop (half l.length))) := by
  rw [root, dif_neg (by omega)]

/-- A part of a list: from, to before, and whether it is the first one of two halves. -/
structure Part where
  a : Nat
  b : Nat
  first : Bool
/-- The way from a part to one that is an end: the end, and the halves left aside, the last one first. -/
def down (isEnd : Part → Bool) (n : Nat) (p : Part) : Part × List Part :=
  if _h : isEnd p = true ∨ p.b ≤ p.a + 1 then (p, [])
  else
    if n < p.a + half (p.b - p.a) then
      let r := down isEnd n ⟨p.a, p.a + half (p.b - p.a), true⟩
      (r.1, r.2 ++ [⟨p.a + half (p.b - p.a), p.b, false⟩])
    else
      let r := down isEnd n ⟨p.a + half (p.b - p.a), p.b, false⟩
      (r.1, r.2 ++ [⟨p.a, p.a + half (p.b - p.a), true⟩])
termination_by p.b - p.a
decreasing_by
  · have := half_lt (p.b - p.a) (by omega); simp; omega
  · have := half_lt (p.b - p.a) (by omega); have := half_pos (p.b - p.a); simp; omega

/-- The path of a string. -/
def path (l : List ByteArray) (n : Nat) : List (List Int) :=
  if _h : l.length ≤ 1 then []
  else if n < half l.length then path (l.take (half l.length)) n ++ [root (l.drop (half l.length))]
  else path (l.drop (half l.length)) (n - half l.length) ++ [root (l.take (half l.length))]
termination_by l.length
decreasing_by
  · have := half_lt l.length (by omega); simp; omega
  · have := half_lt l.length (by omega); have := half_pos l.length; simp; omega

theorem path_short (l : List ByteArray) (n : Nat) (h : l.length ≤ 1) : path l n = [] := by rw [path, dif_pos h]
theorem path_left (l : List ByteArray) (n : Nat) (h : 2 ≤ l.length) (hn : n < half l.length) : path l n = path (l.take (half l.length)) n ++ [root (l.drop (half l.length))] := by
  rw [path, dif_neg (by omega), if_pos hn]
theorem path_right (l : List ByteArray) (n : Nat) (h : 2 ≤ l.length) (hn : ¬ n < half l.length) : path l n = path (l.drop (half l.length)) (n - half l.length) ++ [root (l.take (half l.length))] := by
  rw [path, dif_neg (by omega), if_neg hn]
theorem down_end (e : Part → Bool) (n : Nat) (p : Part) (h : e p = true) : down e n p = (p, []) := by rw [down, dif_pos (.inl h)]
theorem down_left (e : Part → Bool) (n : Nat) (p : Part) (h : e p = false) (h2 : p.a + 2 ≤ p.b) (hn : n < p.a + half (p.b - p.a)) :
    down e n p = ((down e n ⟨p.a, p.a + half (p.b - p.a), true⟩).1, (down e n ⟨p.a, p.a + half (p.b - p.a), true⟩).2 ++ [⟨p.a + half (p.b - p.a), p.b, false⟩]) := by
  rw [down, dif_neg (by simp [h]; omega), if_pos hn]
theorem down_right (e : Part → Bool) (n : Nat) (p : Part) (h : e p = false) (h2 : p.a + 2 ≤ p.b) (hn : ¬ n < p.a + half (p.b - p.a)) :
    down e n p = ((down e n ⟨p.a + half (p.b - p.a), p.b, false⟩).1, (down e n ⟨p.a + half (p.b - p.a), p.b, false⟩).2 ++ [⟨p.a, p.a + half (p.b - p.a), true⟩]) := by
  rw [down, dif_neg (by simp [h]; omega), if_neg hn]
/-- The strings of a part. -/
def seg (l : List ByteArray) (a b : Nat) : List ByteArray := (l.take b).drop a
theorem seg_length (l : List ByteArray) (a b : Nat) (h : b ≤ l.length) : (seg l a b).length = b - a := by simp [seg]; omega
theorem seg_take (l : List ByteArray) (a b k : Nat) (h : a + k ≤ b) : (seg l a b).take k = seg l a (a + k) := by
  unfold seg
  rw [List.drop_take, List.drop_take, List.take_take]
  congr 1; omega
theorem seg_drop (l : List ByteArray) (a b k : Nat) : (seg l a b).drop k = seg l (a + k) b := by
  unfold seg
  rw [List.drop_drop]
theorem seg_all (l : List ByteArray) : seg l 0 l.length = l := by simp [seg]
def isOne (p : Part) : Bool := p.b - p.a == 1
def endsAt (m : Nat) (p : Part) : Bool := p.b == m
def rootsOf (l : List ByteArray) (ps : List Part) : List (List Int) := ps.map fun p => root (seg l p.a p.b)
theorem rootsOf_append (l : List ByteArray) (ps : List Part) (p : Part) : rootsOf l (ps ++ [p]) = rootsOf l ps ++ [root (seg l p.a p.b)] := by simp [rootsOf]
/-- The path is the roots of the halves that the way leaves aside. -/
theorem path_down (l : List ByteArray) (n : Nat) : ∀ (k : Nat) (p : Part), p.b - p.a ≤ k → p.a ≤ n → n < p.b → p.b ≤ l.length →
    path (seg l p.a p.b) (n - p.a) = rootsOf l (down isOne n p).2
  | 0, p, hk, h1, h2, _ => by omega
  | k + 1, p, hk, h1, h2, h3 => by
    have hl := seg_length l p.a p.b h3
    by_cases h : p.b - p.a = 1
    · rw [down_end _ _ _ (by simp [isOne, h]), path_short _ _ (by omega)]; rfl
    · have g1 := half_pos (p.b - p.a)
      have g2 := half_lt (p.b - p.a) (by omega)
      by_cases hn : n < p.a + half (p.b - p.a)
      · rw [down_left _ _ _ (by simp [isOne, h]) (by omega) hn, rootsOf_append, path_left _ _ (by omega) (by rw [hl]; omega), hl, seg_take _ _ _ _ (by omega), seg_drop]
        rw [← path_down l n k ⟨p.a, p.a + half (p.b - p.a), true⟩ (by simp; omega) h1 hn (by simp; omega)]
      · rw [down_right _ _ _ (by simp [isOne, h]) (by omega) hn, rootsOf_append, path_right _ _ (by omega) (by rw [hl]; omega), hl, seg_take _ _ _ _ (by omega), seg_drop]
        rw [← path_down l n k ⟨p.a + half (p.b - p.a), p.b, false⟩ (by simp; omega) (by simp; omega) h2 h3]
        rw [show n - p.a - half (p.b - p.a) = n - (p.a + half (p.b - p.a)) by omega]
/-- The growth with a mark. -/
def grow (l : List ByteArray) (m : Nat) (whole : Bool) : List (List Int) :=
  if _h : l.length ≤ 1 ∨ m = l.length then (if whole then [] else [root l])
  else if m ≤ half l.length then grow (l.take (half l.length)) m whole ++ [root (l.drop (half l.length))]
  else grow (l.drop (half l.length)) (m - half l.length) false ++ [root (l.take (half l.length))]
termination_by l.length
decreasing_by
  · have := half_lt l.length (by omega); simp; omega
  · have := half_lt l.length (by omega); have := half_pos l.length; simp; omega
theorem grow_all (l : List ByteArray) (w : Bool) : grow l l.length w = if w then [] else [root l] := by rw [grow, dif_pos (.inr rfl)]
theorem grow_left (l : List ByteArray) (m : Nat) (w : Bool) (h0 : 2 ≤ l.length) (h : m < l.length) (hm : m ≤ half l.length) :
    grow l m w = grow (l.take (half l.length)) m w ++ [root (l.drop (half l.length))] := by rw [grow, dif_neg (by omega), if_pos hm]
theorem grow_right (l : List ByteArray) (m : Nat) (w : Bool) (h0 : 2 ≤ l.length) (h : m < l.length) (hm : ¬ m ≤ half l.length) :
    grow l m w = grow (l.drop (half l.length)) (m - half l.length) false ++ [root (l.take (half l.length))] := by rw [grow, dif_neg (by omega), if_neg hm]
/-- What a growth writes ahead of the roots of the halves: the root of the way's end, unless it is a beginning. -/
def headOf (l : List ByteArray) (p : Part) : List (List Int) := if p.a = 0 then [] else [root (seg l p.a p.b)]
theorem grow_down (l : List ByteArray) (m : Nat) : ∀ (k : Nat) (p : Part), p.b - p.a ≤ k → p.a < m → m ≤ p.b → p.b ≤ l.length →
    grow (seg l p.a p.b) (m - p.a) (p.a == 0) = headOf l (down (endsAt m) (m - 1) p).1 ++ rootsOf l (down (endsAt m) (m - 1) p).2
  | 0, p, hk, h1, h2, _ => by omega
  | k + 1, p, hk, h1, h2, h3 => by
    have hl := seg_length l p.a p.b h3
    by_cases h : p.b = m
    · rw [down_end _ _ _ (by simp [endsAt, h])]
      have := grow_all (seg l p.a p.b) (p.a == 0)
      rw [hl, h] at this
      rw [h, this]
      by_cases h0 : p.a = 0
      · simp [headOf, h0, rootsOf]
      · simp [headOf, h0, rootsOf, h]
    · have g1 := half_pos (p.b - p.a)
      have g2 := half_lt (p.b - p.a) (by omega)
      by_cases hn : m - 1 < p.a + half (p.b - p.a)
      · rw [down_left _ _ _ (by simp [endsAt, h]) (by omega) hn, rootsOf_append, grow_left _ _ _ (by omega) (by omega) (by rw [hl]; omega), hl, seg_take _ _ _ _ (by omega), seg_drop, ← List.append_assoc]
        rw [← grow_down l m k ⟨p.a, p.a + half (p.b - p.a), true⟩ (by simp; omega) h1 (by simp; omega) (by simp; omega)]
      · rw [down_right _ _ _ (by simp [endsAt, h]) (by omega) hn, rootsOf_append, grow_right _ _ _ (by omega) (by omega) (by rw [hl]; omega), hl, seg_take _ _ _ _ (by omega), seg_drop, ← List.append_assoc]
        rw [← grow_down l m k ⟨p.a + half (p.b - p.a), p.b, false⟩ (by simp; omega) (by simp; omega) h2 h3]
        rw [show m - p.a - half (p.b - p.a) = m - (p.a + half (p.b - p.a)) by omega, show ((p.a + half (p.b - p.a)) == 0) = false by simp; omega]

/-- A hash of a path is put at the side where it belongs. -/
def joined (p : Part) (h x : List Int) : List Int := if p.first then node h x else node x h
/-- The hash that results if a path is applied along a way. -/
def climb : List Part → List (List Int) → List Int → List Int
  | p :: ps, h :: hs, x => climb ps hs (joined p h x)
  | _, _, x => x
theorem climb_append : ∀ (ps : List Part) (hs : List (List Int)) (x : List Int) (p : Part) (h : List Int), hs.length = ps.length → climb (ps ++ [p]) (hs ++ [h]) x = joined p h (climb ps hs x)
  | [], [], _, _, _, _ => rfl
  | _ :: ps, _ :: hs, x, p, h, e => climb_append ps hs _ p h (by simpa using e)
  | [], _ :: _, _, _, _, e => by simp at e
  | _ :: _, [], _, _, _, e => by simp at e
theorem last_split (l : List (List Int)) (h : l ≠ []) : l = l.dropLast ++ [l.getLastD []] := by
  conv => lhs; rw [← List.dropLast_concat_getLast h]
  rw [List.getLastD_eq_getLast?, List.getLast?_eq_some_getLast h]
  rfl
/-- How many hashes a path has. -/
def depth (i n : Nat) : Nat := if _h : n ≤ 1 then 0 else if i < half n then 1 + depth i (half n) else 1 + depth (i - half n) (n - half n)
termination_by n
decreasing_by
  · exact half_lt n (by omega)
  · have := half_lt n (by omega); have := half_pos n; omega
/-- A path applied to a hash, from its end on. -/
def up (x : List Int) (i n : Nat) (hs : List (List Int)) : List Int :=
  if _h : n ≤ 1 then x else if i < half n then node (up x i (half n) hs.dropLast) (hs.getLastD []) else node (hs.getLastD []) (up x (i - half n) (n - half n) hs.dropLast)
termination_by n
decreasing_by
  · exact half_lt n (by omega)
  · have := half_lt n (by omega); have := half_pos n; omega
theorem depth_down (i : Nat) : ∀ (k : Nat) (p : Part), p.b - p.a ≤ k → p.a ≤ i → i < p.b → depth (i - p.a) (p.b - p.a) = (down isOne i p).2.length
  | 0, p, hk, h1, h2 => by omega
  | k + 1, p, hk, h1, h2 => by
    by_cases h : p.b - p.a = 1
    · rw [down_end _ _ _ (by simp [isOne, h]), depth, dif_pos (by omega)]; rfl
    · have g1 := half_pos (p.b - p.a)
      have g2 := half_lt (p.b - p.a) (by omega)
      by_cases hn : i < p.a + half (p.b - p.a)
      · rw [down_left _ _ _ (by simp [isOne, h]) (by omega) hn, depth, dif_neg (by omega), if_pos (by omega), List.length_append]
        rw [← depth_down i k ⟨p.a, p.a + half (p.b - p.a), true⟩ (by simp; omega) h1 hn]
        simp; omega
      · rw [down_right _ _ _ (by simp [isOne, h]) (by omega) hn, depth, dif_neg (by omega), if_neg (by omega), List.length_append]
        rw [← depth_down i k ⟨p.a + half (p.b - p.a), p.b, false⟩ (by simp; omega) (by simp; omega) h2]
        rw [show i - p.a - half (p.b - p.a) = i - (p.a + half (p.b - p.a)) by omega, show p.b - p.a - half (p.b - p.a) = p.b - (p.a + half (p.b - p.a)) by omega]
        simp; omega
theorem up_down (x : List Int) (i : Nat) : ∀ (k : Nat) (p : Part) (hs : List (List Int)), p.b - p.a ≤ k → p.a ≤ i → i < p.b → hs.length = (down isOne i p).2.length → up x (i - p.a) (p.b - p.a) hs = climb (down isOne i p).2 hs x
  | 0, p, _, hk, h1, h2, _ => by omega
  | k + 1, p, hs, hk, h1, h2, hl => by
    by_cases h : p.b - p.a = 1
    · rw [down_end _ _ _ (by simp [isOne, h]), up, dif_pos (by omega)]; rfl
    · have g1 := half_pos (p.b - p.a)
      have g2 := half_lt (p.b - p.a) (by omega)
      by_cases hn : i < p.a + half (p.b - p.a)
      · rw [down_left _ _ _ (by simp [isOne, h]) (by omega) hn] at hl ⊢
        rw [List.length_append] at hl
        have e := last_split hs (by intro e; subst e; simp at hl)
        have el : hs.dropLast.length = (down isOne i ⟨p.a, p.a + half (p.b - p.a), true⟩).2.length := by simp at hl ⊢; omega
        rw [up, dif_neg (by omega), if_pos (by omega)]
        conv => rhs; rw [e]
        rw [climb_append _ _ _ _ _ el, ← up_down x i k ⟨p.a, p.a + half (p.b - p.a), true⟩ hs.dropLast (by simp; omega) h1 hn el]
        simp [joined]
      · rw [down_right _ _ _ (by simp [isOne, h]) (by omega) hn] at hl ⊢
        rw [List.length_append] at hl
        have e := last_split hs (by intro e; subst e; simp at hl)
        have el : hs.dropLast.length = (down isOne i ⟨p.a + half (p.b - p.a), p.b, false⟩).2.length := by simp at hl ⊢; omega
        rw [up, dif_neg (by omega), if_neg (by omega)]
        conv => rhs; rw [e]
        rw [climb_append _ _ _ _ _ el, ← up_down x i k ⟨p.a + half (p.b - p.a), p.b, false⟩ hs.dropLast (by simp; omega) (by simp; omega) h2 el]
        rw [show i - p.a - half (p.b - p.a) = i - (p.a + half (p.b - p.a)) by omega, show p.b - p.a - half (p.b - p.a) = p.b - (p.a + half (p.b - p.a)) by omega]
        simp [joined]
/-- The two roots that result if a growth is applied along a way. -/
def climb2 : List Part → List (List Int) → List Int → List Int → List Int × List Int
  | p :: ps, h :: hs, a, b => climb2 ps hs (if p.first then joined p h a else a) (joined p h b)
  | _, _, a, b => (a, b)
theorem climb2_append : ∀ (ps : List Part) (hs : List (List Int)) (a b : List Int) (p : Part) (h : List Int), hs.length = ps.length →
    climb2 (ps ++ [p]) (hs ++ [h]) a b = ((if p.first then joined p h (climb2 ps hs a b).1 else (climb2 ps hs a b).1), joined p h (climb2 ps hs a b).2)
  | [], [], _, _, _, _, _ => rfl
  | _ :: ps, _ :: hs, a, b, p, h, e => climb2_append ps hs _ _ p h (by simpa using e)
  | [], _ :: _, _, _, _, _, e => by simp at e
  | _ :: _, [], _, _, _, _, e => by simp at e
/-- How many hashes a growth with a mark has. -/
def many (m n : Nat) (w : Bool) : Nat := if _h : n ≤ 1 ∨ m = n then (if w then 0 else 1) else if m ≤ half n then 1 + many m (half n) w else 1 + many (m - half n) (n - half n) false
termination_by n
decreasing_by
  · exact half_lt n (by omega)
  · have := half_lt n (by omega); have := half_pos n; omega
/-- The roots for old and for next. -/
def both (m n : Nat) (w : Bool) (old : List Int) (hs : List (List Int)) : List Int × List Int :=
  if _h : n ≤ 1 ∨ m = n then (if w then (old, old) else (hs.getD 0 [], hs.getD 0 []))
  else if m ≤ half n then ((both m (half n) w old hs.dropLast).1, node (both m (half n) w old hs.dropLast).2 (hs.getLastD []))
  else (node (hs.getLastD []) (both (m - half n) (n - half n) false old hs.dropLast).1, node (hs.getLastD []) (both (m - half n) (n - half n) false old hs.dropLast).2)
termination_by n
decreasing_by
  all_goals (have := half_lt n (by omega); have := half_pos n; omega)
/-- How many hashes a growth writes ahead of those of the way. -/
def lead (p : Part) : Nat := if p.a = 0 then 0 else 1
theorem many_down (m : Nat) : ∀ (k : Nat) (p : Part), p.b - p.a ≤ k → p.a < m → m ≤ p.b → many (m - p.a) (p.b - p.a) (p.a == 0) = lead (down (endsAt m) (m - 1) p).1 + (down (endsAt m) (m - 1) p).2.length
  | 0, p, hk, h1, h2 => by omega
  | k + 1, p, hk, h1, h2 => by
    by_cases h : p.b = m
    · rw [down_end _ _ _ (by simp [endsAt, h]), many, dif_pos (by omega)]
      by_cases h0 : p.a = 0 <;> simp [lead, h0]
    · have g1 := half_pos (p.b - p.a)
      have g2 := half_lt (p.b - p.a) (by omega)
      by_cases hn : m - 1 < p.a + half (p.b - p.a)
      · rw [down_left _ _ _ (by simp [endsAt, h]) (by omega) hn, many, dif_neg (by omega), if_pos (by omega), List.length_append]
        have := many_down m k ⟨p.a, p.a + half (p.b - p.a), true⟩ (by simp; omega) h1 (by simp; omega)
        simp only [Nat.add_sub_cancel_left] at this
        rw [this]; simp; omega
      · rw [down_right _ _ _ (by simp [endsAt, h]) (by omega) hn, many, dif_neg (by omega), if_neg (by omega), List.length_append]
        have := many_down m k ⟨p.a + half (p.b - p.a), p.b, false⟩ (by simp; omega) (by simp; omega) h2
        simp only [show ((p.a + half (p.b - p.a)) == 0) = false by simp; omega] at this
        rw [show m - p.a - half (p.b - p.a) = m - (p.a + half (p.b - p.a)) by omega, show p.b - p.a - half (p.b - p.a) = p.b - (p.a + half (p.b - p.a)) by omega, this]
        simp; omega
/-- The root with which a growth begins, and what follows. -/
def begun (p : Part) (old : List Int) (hs : List (List Int)) : List Int := if p.a = 0 then old else hs.getD 0 []
theorem both_down (m : Nat) (old : List Int) : ∀ (k : Nat) (p : Part) (hs : List (List Int)), p.b - p.a ≤ k → p.a < m → m ≤ p.b → hs.length = lead (down (endsAt m) (m - 1) p).1 + (down (endsAt m) (m - 1) p).2.length →
    both (m - p.a) (p.b - p.a) (p.a == 0) old hs = climb2 (down (endsAt m) (m - 1) p).2 (hs.drop (lead (down (endsAt m) (m - 1) p).1)) (begun (down (endsAt m) (m - 1) p).1 old hs) (begun (down (endsAt m) (m - 1) p).1 old hs)
  | 0, p, _, hk, h1, h2, _ => by omega
  | k + 1, p, hs, hk, h1, h2, hl => by
    by_cases h : p.b = m
    · rw [down_end _ _ _ (by simp [endsAt, h])] at hl ⊢
      rw [both, dif_pos (by omega)]
      by_cases h0 : p.a = 0
      · simp [h0, begun, climb2]
      · simp [h0, begun, climb2]
    · have g1 := half_pos (p.b - p.a)
      have g2 := half_lt (p.b - p.a) (by omega)
      by_cases hn : m - 1 < p.a + half (p.b - p.a)
      · rw [down_left _ _ _ (by simp [endsAt, h]) (by omega) hn] at hl ⊢
        rw [List.length_append] at hl
        have ih := both_down m old k ⟨p.a, p.a + half (p.b - p.a), true⟩ hs.dropLast (by simp; omega) h1 (by simp; omega) (by simp at hl ⊢; omega)
        rw [both, dif_neg (by omega), if_pos (by omega)]
        generalize down (endsAt m) (m - 1) ⟨p.a, p.a + half (p.b - p.a), true⟩ = r at hl ih ⊢
        simp only [Nat.add_sub_cancel_left] at ih
        have e := last_split hs (by intro e; subst e; simp at hl)
        have e2 : hs.drop (lead r.1) = hs.dropLast.drop (lead r.1) ++ [hs.getLastD []] := by
          conv => lhs; rw [e]
          rw [List.drop_append_of_le_length (by simp at hl ⊢; omega)]
        have e3 : begun r.1 old hs = begun r.1 old hs.dropLast := by
          unfold begun
          by_cases h0 : r.1.a = 0
          · simp [h0]
          · rw [if_neg h0, if_neg h0]
            have : lead r.1 = 1 := by simp [lead, h0]
            simp at hl
            conv => lhs; rw [e]
            rw [List.getD_eq_getElem?_getD, List.getD_eq_getElem?_getD, List.getElem?_append_left (by simp; omega)]
        have hlen : (hs.dropLast.drop (lead r.1)).length = r.2.length := by simp at hl ⊢; omega
        rw [e2, climb2_append _ _ _ _ _ _ hlen, ih, e3]
        simp [joined]
      · rw [down_right _ _ _ (by simp [endsAt, h]) (by omega) hn] at hl ⊢
        rw [List.length_append] at hl
        have ih := both_down m old k ⟨p.a + half (p.b - p.a), p.b, false⟩ hs.dropLast (by simp; omega) (by simp; omega) h2 (by simp at hl ⊢; omega)
        rw [both, dif_neg (by omega), if_neg (by omega)]
        generalize down (endsAt m) (m - 1) ⟨p.a + half (p.b - p.a), p.b, false⟩ = r at hl ih ⊢
        simp only [show ((p.a + half (p.b - p.a)) == 0) = false by simp; omega] at ih
        have e := last_split hs (by intro e; subst e; simp at hl)
        have e2 : hs.drop (lead r.1) = hs.dropLast.drop (lead r.1) ++ [hs.getLastD []] := by
          conv => lhs; rw [e]
          rw [List.drop_append_of_le_length (by simp at hl ⊢; omega)]
        have e3 : begun r.1 old hs = begun r.1 old hs.dropLast := by
          unfold begun
          by_cases h0 : r.1.a = 0
          · simp [h0]
          · rw [if_neg h0, if_neg h0]
            have : lead r.1 = 1 := by simp [lead, h0]
            simp at hl
            conv => lhs; rw [e]
            rw [List.getD_eq_getElem?_getD, List.getD_eq_getElem?_getD, List.getElem?_append_left (by simp; omega)]
        have hlen : (hs.dropLast.drop (lead r.1)).length = r.2.length := by simp at hl ⊢; omega
        rw [show m - p.a - half (p.b - p.a) = m - (p.a + half (p.b - p.a)) by omega, show p.b - p.a - half (p.b - p.a) = p.b - (p.a + half (p.b - p.a)) by omega]
        rw [e2, climb2_append _ _ _ _ _ _ hlen, ih, e3]
        simp [joined]
end Go.Proofs.YtkjdfjpfghpofaaDoor.Tree
