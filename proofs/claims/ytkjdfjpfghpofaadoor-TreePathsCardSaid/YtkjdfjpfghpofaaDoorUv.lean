/- Path of the reference. -/
import Derived.Test.YtkjdfjpfghpofaaDoorUl
namespace Go.Proofs.YtkjdfjpfghpofaaDoor
open Go.RowKit

theorem path_length (l : List ByteArray) (i len : Nat) (hl : l.length = len) (hi : i < len) (hmax : (len : Int) ≤ 9223372036854775807) : (Tree.path l i).length ≤ 63 := by
  have hp := Tree.path_down l i len ⟨0, len, false⟩ (by simp) (by simp) hi (by simp; omega)
  simp only [← hl, Tree.seg_all, Nat.sub_zero] at hp
  rw [hp, hl, Tree.rootsOf, List.length_map]
  exact Tree.down_short Tree.isOne i ⟨0, len, false⟩ (by simp only; omega)

set_option maxRecDepth 100000 in
set_option maxHeartbeats 2000000 in
theorem refPath_in (k : Nat) : ∀ (b off cap n : Nat) (l : List ByteArray) (i : Nat) (w : World), n ≤ k → l.length = n → 1 ≤ n → (n : Int) ≤ (cap : Int) → (cap : Int) ≤ 9223372036854775807 → (∀ s ∈ l, s.size ≤ 140737488351232) → i < n → StrsAt w b off l →
    Calls Tryd.prog 22 #[.slice (some ⟨b, off, none⟩) n cap, .int .i64 i] w fun e w' => ∃ v, e = .returned (.tuple #[v, .bool true]) ∧ HashR w' w.heap.size v (Tree.path l i) ∧ Below w.heap.size w w' := by
  obtain ⟨i0, hj0, hz0, hz1, hz2⟩ := info_parts infoHash
  induction k with
  | zero => intro b off cap n l i w hk hl h1; omega
  | succ k ih =>
    intro b off cap n l i w hk hl h1 hc hmax hss hin hs
    have hbl := hs.1
    by_cases hn1 : n = 1
    · subst hn1
      obtain rfl : i = 0 := by omega
      rw [Tree.path_short l 0 (by omega)]
      clear hs hss hmax hk hl h1 ih
      go_enter Tryd.func22, Tryd.ntmps22
      go_wp2_with fail
      go_ret2
      exact ⟨_, rfl, hashR_nil _ _, Below.refl _ _⟩
    have n2 : ((n : Int) == 1) = false := by simp; omega
    have p1 := Tree.half_pos n
    have p2 := Tree.half_lt n (by omega)
    have CH := Lib.hid (fun w' => refHalf_c n (by omega) w')
    obtain ⟨m, eh⟩ : ∃ m, Tree.half n = m := ⟨_, rfl⟩
    rw [eh] at p1 p2 CH
    by_cases hlt : i < Tree.half n
    all_goals have hlt' := hlt
    all_goals rw [eh] at hlt'
    · have hr := Tree.path_left l i (by omega) (by rw [hl]; exact hlt)
      rw [hl, eh] at hr
      have C1 : Hid (∀ w', Below w.heap.size w w' → Calls Tryd.prog 22 #[.slice (some ⟨b, off, none⟩) m cap, .int .i64 i] w' fun e w'' => ∃ v, e = .returned (.tuple #[v, .bool true]) ∧ HashR w'' w'.heap.size v (Tree.path (l.take m) i) ∧ Below w'.heap.size w' w'') :=
        Lib.hid (fun w' hb => ih b off cap m (l.take m) i w' (by omega) (by simp; omega) (by omega) (by omega) (by omega) (fun s hs => hss s (List.mem_of_mem_take hs)) (by omega) ((hs.take m).below hb hbl))
      have C2 : Hid (∀ w', Below w.heap.size w w' → Calls Tryd.prog 17 #[.slice (some ⟨b, off + m, none⟩) (n - m) (cap - m)] w' fun e w'' => e = .returned (hashV (Tree.root (l.drop m))) ∧ Below w'.heap.size w' w'') :=
        Lib.hid (fun w' hb => refRoot_c n b (off + m) (cap - m) (n - m) (l.drop m) w' (by omega) (by simp; omega) (by omega) (by omega) (by omega) (fun s hs => hss s (List.mem_of_mem_drop hs)) ((hs.drop m).below hb hbl))
      have hX := path_length (l.take m) i m (by simp; omega) (by omega) (by omega)
      have hh := (root_hash (l.drop m)).1
      obtain ⟨X, eX⟩ : ∃ X, Tree.path (l.take m) i = X := ⟨_, rfl⟩
      obtain ⟨r, er⟩ : ∃ r, Tree.root (l.drop m) = r := ⟨_, rfl⟩
      rw [eX, er] at hr; rw [eX] at C1 hX; rw [er] at C2 hh
      rw [hr]
      obtain ⟨cs, ecs⟩ : ∃ cs, (r.map (Value.int .u8)).toArray = cs := ⟨_, rfl⟩
      have zc : cs.size = 32 := by rw [← ecs]; simp [hh]
      unfold hashV at C2
      rw [ecs] at C2
      have HX := Lib.hid (And.intro hX (And.intro hh (And.intro ecs (And.intro zc hmax))))
      have j1 : (i : Int) < (m : Int) := by omega
      have i1 : (m : Int) ≤ (cap : Int) := by omega
      have i2 : (m : Int) ≤ (n : Int) := by omega
      have i3 : (n : Int) ≤ (cap : Int) := by omega
      have i5 : ¬ m = cap := by omega
      have i6 : ¬ cap = m := by omega
      have i7 : (m : Int) < (cap : Int) := by omega
      have i8 : ¬ (i : Int) < 0 := by omega
      have i9 : (i : Int) < (n : Int) := by omega
      clear hs hss hmax hk hl ih hr er hh eX hX eh ecs hin hlt hlt'
      go_enter Tryd.func22, Tryd.ntmps22
      go_wp2_with fail
      refine (CH.out _).mono ?_; rintro e w1 ⟨rfl, rfl⟩
      go_wp2_with fail
      refine (C1.out _ (Below.refl _ _)).mono ?_; rintro e w2 ⟨v, rfl, hO, hb⟩
      have HO := Lib.hid hO; have HB := Lib.hid hb
      clear hO hb
      go_wp2_with fail
      refine (C2.out _ HB.out).mono ?_; rintro e w3 ⟨rfl, hb⟩
      have HO3 := Lib.hid (own_below HO.out hb); have HB3 := Lib.hid (HB.out.trans (hb.mono HB.out.size))
      clear hb HO
      go_wp2_with (at_builtin; refine wpList_append_lies _ rfl _ _ 32 rfl w1.heap.size 24 i0 _ 32 32 Tryd.underlying32 hj0 hz0 hz1 hz2 rfl (by decide) _ X.length (X.flatMap hashC) rfl (HO3.out.alloc _) _ 1 1 (hashC r) rfl (by rw [hashC, List.length_map, HX.out.2.1]) (fun j u hu => news_row _ _ _ (hashC r) (by rw [fold_set _ rfl _ cs 32 rfl HX.out.2.2.2.1, ← HX.out.2.2.1]; rfl) _ (by rfl) j u hu) (fun u hu => by obtain ⟨y, _, rfl⟩ := List.mem_map.1 hu; rfl) (by decide) (by have := HX.out.1; unfold maxLen; omega) (by have := HX.out.1; omega) (by have := HB3.out.size; simp; omega) _ rfl ?_; intro g5 cap5 w5 hown hgrow hlie hlt5; have HO5 := Lib.hid hown; have HG5 := Lib.hid hgrow; clear hown hgrow hlie hlt5)
      go_ret2
      refine ⟨_, rfl, ?_, Below.grown (HB3.out.alloc HB3.out.size _) HG5.out (by have := HB3.out.size; simp; omega) (fun q hq => (HO3.out.lt q hq).1)⟩
      have e := HO5.out
      show World.ownsRow _ _ _ _ _ (X ++ [r]).length ((X ++ [r]).flatMap hashC)
      rw [List.length_append, List.flatMap_append, show [r].flatMap hashC = hashC r by simp]
      exact e
    · have hr := Tree.path_right l i (by omega) (by rw [hl]; exact hlt)
      rw [hl, eh] at hr
      have C1 : Hid (∀ w', Below w.heap.size w w' → Calls Tryd.prog 22 #[.slice (some ⟨b, off + m, none⟩) (n - m) (cap - m), .int .i64 ((i - m : Nat) : Int)] w' fun e w'' => ∃ v, e = .returned (.tuple #[v, .bool true]) ∧ HashR w'' w'.heap.size v (Tree.path (l.drop m) (i - m)) ∧ Below w'.heap.size w' w'') :=
        Lib.hid (fun w' hb => ih b (off + m) (cap - m) (n - m) (l.drop m) (i - m) w' (by omega) (by simp; omega) (by omega) (by omega) (by omega) (fun s hs => hss s (List.mem_of_mem_drop hs)) (by omega) ((hs.drop m).below hb hbl))
      have C2 : Hid (∀ w', Below w.heap.size w w' → Calls Tryd.prog 17 #[.slice (some ⟨b, off, none⟩) m cap] w' fun e w'' => e = .returned (hashV (Tree.root (l.take m))) ∧ Below w'.heap.size w' w'') :=
        Lib.hid (fun w' hb => refRoot_c n b off cap m (l.take m) w' (by omega) (by simp; omega) (by omega) (by omega) (by omega) (fun s hs => hss s (List.mem_of_mem_take hs)) ((hs.take m).below hb hbl))
      have hX := path_length (l.drop m) (i - m) (n - m) (by simp; omega) (by omega) (by omega)
      have hh := (root_hash (l.take m)).1
      obtain ⟨X, eX⟩ : ∃ X, Tree.path (l.drop m) (i - m) = X := ⟨_, rfl⟩
      obtain ⟨r, er⟩ : ∃ r, Tree.root (l.take m) = r := ⟨_, rfl⟩
      rw [eX, er] at hr; rw [eX] at C1 hX; rw [er] at C2 hh
      rw [hr]
      obtain ⟨cs, ecs⟩ : ∃ cs, (r.map (Value.int .u8)).toArray = cs := ⟨_, rfl⟩
      have zc : cs.size = 32 := by rw [← ecs]; simp [hh]
      unfold hashV at C2
      rw [ecs] at C2
      have HX := Lib.hid (And.intro hX (And.intro hh (And.intro ecs (And.intro zc hmax))))
      have j1 : ¬ (i : Int) < (m : Int) := by omega
      have j2 : (m : Int) ≤ (i : Int) := by omega
      have j3 : (i : Int) - (m : Int) = ((i - m : Nat) : Int) := by omega
      have j4 : IntKind.i64.wrap ((i - m : Nat) : Int) = ((i - m : Nat) : Int) := wrap64 _ (by omega) (by omega)
      have i1 : (m : Int) ≤ (cap : Int) := by omega
      have i2 : (m : Int) ≤ (n : Int) := by omega
      have i3 : (n : Int) ≤ (cap : Int) := by omega
      have i5 : ¬ m = cap := by omega
      have i6 : ¬ cap = m := by omega
      have i7 : (m : Int) < (cap : Int) := by omega
      have i8 : ¬ (i : Int) < 0 := by omega
      have i9 : (i : Int) < (n : Int) := by omega
      clear hs hss hmax hk hl ih hr er hh eX hX eh ecs hin hlt hlt'
      go_enter Tryd.func22, Tryd.ntmps22
      go_wp2_with fail
      refine (CH.out _).mono ?_; rintro e w1 ⟨rfl, rfl⟩
      go_wp2_with fail
      refine (C1.out _ (Below.refl _ _)).mono ?_; rintro e w2 ⟨v, rfl, hO, hb⟩
      have HO := Lib.hid hO; have HB := Lib.hid hb
      clear hO hb
      go_wp2_with fail
      refine (C2.out _ HB.out).mono ?_; rintro e w3 ⟨rfl, hb⟩
      have HO3 := Lib.hid (own_below HO.out hb); have HB3 := Lib.hid (HB.out.trans (hb.mono HB.out.size))
      clear hb HO
      go_wp2_with (at_builtin; refine wpList_append_lies _ rfl _ _ 32 rfl w1.heap.size 24 i0 _ 32 32 Tryd.underlying32 hj0 hz0 hz1 hz2 rfl (by decide) _ X.length (X.flatMap hashC) rfl (HO3.out.alloc _) _ 1 1 (hashC r) rfl (by rw [hashC, List.length_map, HX.out.2.1]) (fun j u hu => news_row _ _ _ (hashC r) (by rw [fold_set _ rfl _ cs 32 rfl HX.out.2.2.2.1, ← HX.out.2.2.1]; rfl) _ (by rfl) j u hu) (fun u hu => by obtain ⟨y, _, rfl⟩ := List.mem_map.1 hu; rfl) (by decide) (by have := HX.out.1; unfold maxLen; omega) (by have := HX.out.1; omega) (by have := HB3.out.size; simp; omega) _ rfl ?_; intro g5 cap5 w5 hown hgrow hlie hlt5; have HO5 := Lib.hid hown; have HG5 := Lib.hid hgrow; clear hown hgrow hlie hlt5)
      go_ret2
      refine ⟨_, rfl, ?_, Below.grown (HB3.out.alloc HB3.out.size _) HG5.out (by have := HB3.out.size; simp; omega) (fun q hq => (HO3.out.lt q hq).1)⟩
      have e := HO5.out
      show World.ownsRow _ _ _ _ _ (X ++ [r]).length ((X ++ [r]).flatMap hashC)
      rw [List.length_append, List.flatMap_append, show [r].flatMap hashC = hashC r by simp]
      exact e

/-- Without such a string: nothing. -/
theorem refPath_out (v : Value) (a : Option Addr) (len cap : Nat) (hv : v = .slice a len cap) (n : Int) (hn : n < 0 ∨ (len : Int) ≤ n) (w : World) :
    Calls Tryd.prog 22 #[v, .int .i64 n] w fun e w' => e = .returned (.tuple #[.slice none 0 0, .bool false]) ∧ Below w.heap.size w w' := by
  subst hv
  by_cases h0 : n < 0
  · go_enter Tryd.func22, Tryd.ntmps22
    go_wp2
    go_ret2
    exact ⟨rfl, Below.refl _ _⟩
  · have h1 : (len : Int) ≤ n := by omega
    have h2 : ¬ n < (len : Int) := by omega
    clear hn
    go_enter Tryd.func22, Tryd.ntmps22
    go_wp2
    go_ret2
    exact ⟨rfl, Below.refl _ _⟩

theorem refPath_c (v : Value) (l : List ByteArray) (n : Int) (hss : ∀ s ∈ l, s.size ≤ 140737488351232) (w : World) (hv : StrsV w v l) :
    Calls Tryd.prog 22 #[v, .int .i64 n] w fun e w' => ∃ u, e = .returned (.tuple #[u, .bool (decide (0 ≤ n ∧ n < (l.length : Int)))]) ∧ HashR w' w.heap.size u (if 0 ≤ n ∧ n < (l.length : Int) then Tree.path l n.toNat else []) ∧ Below w.heap.size w w' := by
  by_cases h : 0 ≤ n ∧ n < (l.length : Int)
  · rw [if_pos h, show decide (0 ≤ n ∧ n < (l.length : Int)) = true by simpa using h]
    rcases hv with ⟨rfl, _⟩ | ⟨hl, b, off, cap, rfl, hc, hm, hs⟩
    · simp at h; omega
    · have := refPath_in l.length b off cap l.length l n.toNat w (Nat.le_refl _) rfl hl hc hm hss (by omega) hs
      rw [show ((n.toNat : Nat) : Int) = n by omega] at this
      exact this
  · rw [if_neg h, show decide (0 ≤ n ∧ n < (l.length : Int)) = false by simpa using h]
    have hx : ∃ a cap, v = .slice a l.length cap := by
      rcases hv with ⟨rfl, a, c, rfl⟩ | ⟨hl, b, off, cap, rfl, hc, hm, hs⟩
      · exact ⟨a, c, rfl⟩
      · exact ⟨_, _, rfl⟩
    obtain ⟨a, cap, rfl⟩ := hx
    refine (refPath_out _ a l.length cap rfl n (by omega) w).mono ?_
    rintro e w' ⟨rfl, hb⟩
    exact ⟨_, rfl, hashR_nil _ _, hb⟩
end Go.Proofs.YtkjdfjpfghpofaaDoor
