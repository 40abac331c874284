/- Path and Growth of the program. -/
import Derived.Test.YtkjdfjpfghpofaaDoorUk
namespace Go.Proofs.YtkjdfjpfghpofaaDoor
open Go.RowKit

/-- A list of strings in memory. -/
def StrsV (w : World) (v : Value) (l : List ByteArray) : Prop :=
  (l = [] ∧ ∃ a c, v = .slice a 0 c) ∨ (0 < l.length ∧ ∃ b off cap, v = .slice (some ⟨b, off, none⟩) l.length cap ∧ (l.length : Int) ≤ (cap : Int) ∧ (cap : Int) ≤ 9223372036854775807 ∧ StrsAt w b off l)
theorem rootsOf_hash (l : List ByteArray) (R : List Tree.Part) : ∀ x ∈ Tree.rootsOf l R, x.length = 32 := by
  intro x hx
  obtain ⟨p, _, rfl⟩ := List.mem_map.1 hx
  exact (root_hash _).1
/-- The halves beside a way lie in the list. -/
theorem down_in (e : Tree.Part → Bool) (n : Nat) : ∀ (k : Nat) (p : Tree.Part), p.b - p.a ≤ k → p.a < p.b → (∀ q, q ∈ (Tree.down e n p).2 → p.a ≤ q.a ∧ q.a < q.b ∧ q.b ≤ p.b) ∧ p.a ≤ (Tree.down e n p).1.a ∧ (Tree.down e n p).1.a < (Tree.down e n p).1.b ∧ (Tree.down e n p).1.b ≤ p.b
  | 0, p, h, h2 => by omega
  | k + 1, p, h, h2 => by
    by_cases he : e p = true ∨ p.b ≤ p.a + 1
    · rw [Tree.down, dif_pos he]; simp; omega
    · have he1 : e p = false := by cases hq : e p with
        | false => rfl
        | true => exact absurd (Or.inl hq) he
      have he2 : p.a + 2 ≤ p.b := by
        have : ¬ p.b ≤ p.a + 1 := fun h => he (.inr h)
        omega
      have g1 := Tree.half_pos (p.b - p.a)
      have g2 := Tree.half_lt (p.b - p.a) (by omega)
      by_cases hn : n < p.a + Tree.half (p.b - p.a)
      · rw [Tree.down_left _ _ _ he1 he2 hn]
        obtain ⟨i1, i2, i3, i4⟩ := down_in e n k ⟨p.a, p.a + Tree.half (p.b - p.a), true⟩ (by simp; omega) (by simp; omega)
        simp only at i1 i2 i3 i4
        refine ⟨fun q hq => ?_, i2, i3, by simp only; omega⟩
        rcases List.mem_append.1 hq with hq | hq
        · have := i1 q hq; omega
        · simp at hq; subst hq; simp; omega
      · rw [Tree.down_right _ _ _ he1 he2 hn]
        obtain ⟨i1, i2, i3, i4⟩ := down_in e n k ⟨p.a + Tree.half (p.b - p.a), p.b, false⟩ (by simp; omega) (by simp; omega)
        simp only at i1 i2 i3 i4
        refine ⟨fun q hq => ?_, by simp only; omega, i3, i4⟩
        rcases List.mem_append.1 hq with hq | hq
        · have := i1 q hq; omega
        · simp at hq; subst hq; simp; omega

theorem hashR_nil (w : World) (base : Nat) : HashR w base (.slice none 0 0) [] := ⟨rfl, .inl ⟨rfl, rfl⟩⟩
theorem wayR_parts {w : World} {base : Nat} {E : Tree.Part} {R : List Tree.Part} {a : Option Addr} {c : Nat} (h : w.ownsRow base 66 3 (.slice a R.length c) R.length (R.flatMap partC)) : 0 < R.length → ∃ g, a = some ⟨g, 0, none⟩ ∧ PartsAt w g R ∧ g < w.heap.size :=
  fun hR => by obtain ⟨g, h1, h2, h3⟩ := parts_of_own h hR; exact ⟨g, h1, h3, h3.1⟩

set_option maxRecDepth 100000 in
set_option maxHeartbeats 1000000 in
theorem path_in (l : List ByteArray) (b off cap len n : Nat) (hl : l.length = len) (hn : n < len) (hc : (len : Int) ≤ (cap : Int)) (hmax : (cap : Int) ≤ 9223372036854775807) (hss : ∀ s ∈ l, s.size ≤ 140737488351232) (w : World) (ht : Tabs w) (hst : StrsAt w b off l) :
    Calls Tryd.prog 21 #[.slice (some ⟨b, off, none⟩) len cap, .int .i64 n] w fun e w' => ∃ v, e = .returned (.tuple #[v, .bool true]) ∧ HashR w' w.heap.size v (Tree.path l n) ∧ Below w.heap.size w w' := by
  have hp := Tree.path_down l n len ⟨0, len, false⟩ (by simp) (by simp) hn (by simp; omega)
  simp only [← hl, Tree.seg_all, Nat.sub_zero] at hp
  rw [hl] at hp
  have hin := (down_in Tree.isOne n len ⟨0, len, false⟩ (by simp) (by simp; omega)).1
  have hshort := Tree.down_short Tree.isOne n ⟨0, len, false⟩ (by simp only; omega)
  have CW := Lib.hid (fun w' => wayToString_c len n hn (by omega) w')
  obtain ⟨⟨E, R⟩, hER⟩ : ∃ y, Tree.down Tree.isOne n ⟨0, len, false⟩ = y := ⟨_, rfl⟩
  rw [hER] at hp hin hshort CW
  simp only at hp hin hshort
  rw [hp]
  have i1 : ¬ (n : Int) < 0 := by omega
  have i2 : (n : Int) < (len : Int) := by omega
  have HH := Lib.hid (And.intro hl (And.intro hc (And.intro hmax (And.intro hss (And.intro ht (And.intro hst (And.intro hin hshort)))))))
  clear hl hc hmax hss ht hst hin hshort hp hER hn
  go_enter Tryd.func21, Tryd.ntmps21
  go_wp2_with fail
  refine (CW.out _).mono ?_
  rintro e w2 ⟨v, rfl, ⟨a, c, rfl, hO⟩, hb⟩
  have CA := appendRoots_c (.slice none 0 0) [] (by simp) (by simp) l b off cap len HH.out.1 HH.out.2.1 HH.out.2.2.1 HH.out.2.2.2.1 R a c (by have := HH.out.2.2.2.2.2.2.2; omega) (fun p hp => ⟨(HH.out.2.2.2.2.2.2.1 p hp).2.1, (HH.out.2.2.2.2.2.2.1 p hp).2.2⟩) w2.heap.size w2 (Nat.le_refl _) (hashR_nil _ _) (HH.out.2.2.2.2.2.1.below hb HH.out.2.2.2.2.2.1.1) (Nat.lt_of_lt_of_le HH.out.2.2.2.2.2.1.1 hb.size) (wayR_parts (E := E) hO) (HH.out.2.2.2.2.1.below hb) (fun w' hb' => (HH.out.2.2.2.2.1.below hb).below hb')
  have hf : ∀ w', (Instr.field 69 (wayV E (.slice a R.length c)) 1).run Tryd.prog w' = .ok (.slice a R.length c) w' := fun w' => by kernel_rfl
  have HA := Lib.hid CA
  have HB := Lib.hid hb
  clear CA hO hb
  go_wp2_with fail
  refine HA.out.mono ?_
  rintro e w3 ⟨v, rfl, hR, hb3⟩
  have HR := Lib.hid (And.intro (own_mono hR HB.out.size) (HB.out.trans (hb3.mono HB.out.size)))
  clear hR hb3
  go_wp2_with fail
  go_ret2
  exact ⟨_, rfl, HR.out.1, HR.out.2⟩

/-- Without such a string: nothing. -/
theorem path_out (v : Value) (a : Option Addr) (len cap : Nat) (hv : v = .slice a len cap) (n : Int) (hn : n < 0 ∨ (len : Int) ≤ n) (w : World) :
    Calls Tryd.prog 21 #[v, .int .i64 n] w fun e w' => e = .returned (.tuple #[.slice none 0 0, .bool false]) ∧ Below w.heap.size w w' := by
  subst hv
  by_cases h0 : n < 0
  · go_enter Tryd.func21, Tryd.ntmps21
    go_wp2
    go_ret2
    exact ⟨rfl, Below.refl _ _⟩
  · have h1 : (len : Int) ≤ n := by omega
    have h2 : ¬ n < (len : Int) := by omega
    clear hn
    go_enter Tryd.func21, Tryd.ntmps21
    go_wp2
    go_ret2
    exact ⟨rfl, Below.refl _ _⟩

theorem path_c (v : Value) (l : List ByteArray) (n : Int) (hss : ∀ s ∈ l, s.size ≤ 140737488351232) (w : World) (ht : Tabs w) (hv : StrsV w v l) :
    Calls Tryd.prog 21 #[v, .int .i64 n] w fun e w' => ∃ u, e = .returned (.tuple #[u, .bool (decide (0 ≤ n ∧ n < (l.length : Int)))]) ∧ HashR w' w.heap.size u (if 0 ≤ n ∧ n < (l.length : Int) then Tree.path l n.toNat else []) ∧ Below w.heap.size w w' := by
  by_cases h : 0 ≤ n ∧ n < (l.length : Int)
  · rw [if_pos h, show decide (0 ≤ n ∧ n < (l.length : Int)) = true by simpa using h]
    rcases hv with ⟨rfl, _⟩ | ⟨hl, b, off, cap, rfl, hc, hm, hs⟩
    · simp at h; omega
    · have := path_in l b off cap l.length n.toNat rfl (by omega) hc hm hss w ht hs
      rw [show ((n.toNat : Nat) : Int) = n by omega] at this
      exact this
  · rw [if_neg h, show decide (0 ≤ n ∧ n < (l.length : Int)) = false by simpa using h]
    have hx : ∃ a cap, v = .slice a l.length cap := by
      rcases hv with ⟨rfl, a, c, rfl⟩ | ⟨hl, b, off, cap, rfl, hc, hm, hs⟩
      · exact ⟨a, c, rfl⟩
      · exact ⟨_, _, rfl⟩
    obtain ⟨a, cap, rfl⟩ := hx
    refine (path_out _ a l.length cap rfl n (by omega) w).mono ?_
    rintro e w' ⟨rfl, hb⟩
    exact ⟨_, rfl, hashR_nil _ _, hb⟩

set_option maxRecDepth 100000 in
theorem endIsWhole_c (p : Tree.Part) (a : Option Addr) (n c : Nat) (w : World) :
    Calls Tryd.prog 47 #[wayV p (.slice a n c)] w fun e w' => e = .returned (.bool (p.a == 0)) ∧ Below w.heap.size w w' := by
  obtain ⟨x, y, z⟩ := p
  have e1 : ((x : Int) == 0) = (x == 0) := by
    by_cases h1 : x = 0
    · subst h1; rfl
    · have : ¬ (x : Int) = 0 := by omega
      have l : ((x : Int) == 0) = false := by simpa using this
      have r : (x == 0) = false := by simpa using h1
      rw [l, r]
  simp only
  obtain ⟨q, hq⟩ : ∃ q, (x == 0) = q := ⟨_, rfl⟩
  rw [hq] at e1
  rw [hq]
  clear hq
  go_enter Tryd.func47, Tryd.ntmps47
  go_wp2
  go_ret
  exact ⟨rfl, (Below.refl _ w).alloc (Nat.le_refl _) _⟩
end Go.Proofs.YtkjdfjpfghpofaaDoor
