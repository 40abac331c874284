/- Growth of the program. -/
import Derived.Test.YtkjdfjpfghpofaaDoorUl
namespace Go.Proofs.YtkjdfjpfghpofaaDoor
open Go.RowKit

set_option maxRecDepth 100000 in
set_option maxHeartbeats 1000000 in
theorem growth_in (l : List ByteArray) (b off cap len m : Nat) (hl : l.length = len) (h0 : 0 < m) (hn : m < len) (hc : (len : Int) ≤ (cap : Int)) (hmax : (cap : Int) ≤ 9223372036854775807) (hss : ∀ s ∈ l, s.size ≤ 140737488351232) (w : World) (ht : Tabs w) (hst : StrsAt w b off l) :
    Calls Tryd.prog 28 #[.slice (some ⟨b, off, none⟩) len cap, .int .i64 m] w fun e w' => ∃ v, e = .returned (.tuple #[v, .bool true]) ∧ HashR w' w.heap.size v (Tree.grow l m true) ∧ Below w.heap.size w w' := by
  obtain ⟨i0, hj0, hz0, hz1, hz2⟩ := info_parts infoHash
  have hp := Tree.grow_down l m len ⟨0, len, false⟩ (by simp) h0 (by simp only; omega) (by simp; omega)
  simp only [← hl, Tree.seg_all, Nat.sub_zero, beq_self_eq_true] at hp
  rw [hl] at hp
  have hin := (down_in (Tree.endsAt m) (m - 1) len ⟨0, len, false⟩ (by simp) (by simp; omega))
  have hshort := Tree.down_short (Tree.endsAt m) (m - 1) ⟨0, len, false⟩ (by simp only; omega)
  have CW := Lib.hid (fun w' => wayToBeginning_c len m h0 (by omega) (by omega) w')
  obtain ⟨⟨E, R⟩, hER⟩ : ∃ y, Tree.down (Tree.endsAt m) (m - 1) ⟨0, len, false⟩ = y := ⟨_, rfl⟩
  rw [hER] at hp hin hshort CW
  simp only at hp hin hshort
  rw [hp]
  obtain ⟨HD, eHD⟩ : ∃ y, Tree.headOf l E = y := ⟨_, rfl⟩
  rw [eHD]
  have HHD := Lib.hid eHD
  clear eHD
  have i1 : ¬ (m : Int) < 0 := by omega
  have i2 : ¬ (len : Int) < (m : Int) := by omega
  have i3 : ¬ (m : Int) = 0 := by omega
  have i4 : ¬ (m : Int) = (len : Int) := by omega
  have HH := Lib.hid (And.intro hl (And.intro hc (And.intro hmax (And.intro hss (And.intro ht (And.intro hst (And.intro hin hshort)))))))
  have j1 : ((m : Int) == 0) = false := by simpa using i3
  have j2 : ((m : Int) == (len : Int)) = false := by simpa using i4
  clear hl hc hmax hss ht hst hin hshort hp hER hn h0 i3 i4
  go_enter Tryd.func28, Tryd.ntmps28
  go_wp2_with fail
  refine (CW.out _).mono ?_
  rintro e w2 ⟨v, rfl, ⟨a, c, rfl, hO⟩, hb⟩
  have HO := Lib.hid (And.intro hO hb)
  have CE := Lib.hid (fun w' => endIsWhole_c E a R.length c w')
  clear hO hb
  go_wp2_with fail
  generalize hW : (w2.alloc _) = W3
  have hN : WayB W3 w2.heap.size E (.slice a R.length c) ∧ Below w.heap.size w W3 ∧ (0 < R.length → ∃ g, a = some ⟨g, 0, none⟩ ∧ PartsAt W3 g R ∧ g < W3.heap.size) := by
    rw [← hW]
    have hb1 : Below w2.heap.size w2 (w2.alloc (.cells #[.int .i64 E.a, .int .i64 E.b, .bool E.first, .slice a R.length c] 69)) := (Below.refl _ w2).alloc (Nat.le_refl _) _
    exact ⟨heap_alloc_new w2 _, HO.out.2.trans (hb1.mono HO.out.2.size), wayR_parts (E := E) (own_below HO.out.1 hb1)⟩
  clear hW HO
  refine (CE.out _).mono ?_
  rintro e w4 ⟨rfl, hb⟩
  have hN4 : Hid (WayB w4 w2.heap.size E (.slice a R.length c) ∧ Below w.heap.size w w4 ∧ (0 < R.length → ∃ g, a = some ⟨g, 0, none⟩ ∧ PartsAt w4 g R ∧ g < w4.heap.size)) :=
    Lib.hid ⟨hN.1.past hb, hN.2.1.trans (hb.mono hN.2.1.size), fun h => by obtain ⟨g, h1, h2, h3⟩ := hN.2.2 h; exact ⟨g, h1, h2.below hb h3, Nat.lt_of_lt_of_le h3 hb.size⟩⟩
  clear hN hb CE CW
  have CA := fun (v : Value) (hs : List (List Int)) (h1 : ∀ x ∈ hs, x.length = 32) (h2 : hs.length ≤ 1000) (w' : World) (hb : Below w4.heap.size w4 w') (hv : HashR w' w4.heap.size v hs) =>
    appendRoots_c v hs h1 h2 l b off cap len HH.out.1 HH.out.2.1 HH.out.2.2.1 HH.out.2.2.2.1 R a c (by have := HH.out.2.2.2.2.2.2.2; omega) (fun p hp => ⟨(HH.out.2.2.2.2.2.2.1.1 p hp).2.1, (HH.out.2.2.2.2.2.2.1.1 p hp).2.2⟩) w4.heap.size w' hb.size hv
      ((HH.out.2.2.2.2.2.1.below hN4.out.2.1 HH.out.2.2.2.2.2.1.1).below hb (Nat.lt_of_lt_of_le HH.out.2.2.2.2.2.1.1 hN4.out.2.1.size)) (Nat.lt_of_lt_of_le HH.out.2.2.2.2.2.1.1 hN4.out.2.1.size)
      (fun h => by obtain ⟨g, g1, g2, g3⟩ := hN4.out.2.2 h; exact ⟨g, g1, g2.below hb g3, g3⟩) ((HH.out.2.2.2.2.1.below hN4.out.2.1).below hb) (fun w'' hb' => (HH.out.2.2.2.2.1.below hN4.out.2.1).below (hb.trans hb'))
  have HCA := Lib.hid CA
  obtain ⟨y0, y1, y2, y3⟩ := hN4.out.1.cells
  have hr := root_hash (Tree.seg l E.a E.b)
  have hsl := Tree.seg_length l E.a E.b (by have := HH.out.2.2.2.2.2.2.1.2.2.2; have := HH.out.1; omega)
  have CR : Hid (∀ w', Below w4.heap.size w4 w' → Calls Tryd.prog 16 #[.slice (some ⟨b, off + E.a, none⟩) (E.b - E.a) (cap - E.a)] w' fun e w'' => e = .returned (hashV (Tree.root (Tree.seg l E.a E.b))) ∧ Below w'.heap.size w' w'') :=
    Lib.hid (fun w' hb => root_c b (off + E.a) (cap - E.a) (E.b - E.a) (Tree.seg l E.a E.b) hsl (by have := HH.out.2.2.2.2.2.2.1.2; omega) (by have := HH.out; omega) (by have := HH.out; omega) (fun s hs => HH.out.2.2.2.1 s (List.mem_of_mem_take (List.mem_of_mem_drop hs))) w' ((HH.out.2.2.2.2.1.below hN4.out.2.1).below hb) ((((HH.out.2.2.2.2.2.1.below hN4.out.2.1 HH.out.2.2.2.2.2.1.1).take E.b).drop E.a).below hb (Nat.lt_of_lt_of_le HH.out.2.2.2.2.2.1.1 hN4.out.2.1.size)))
  have i1 : (E.a : Int) ≤ (E.b : Int) := by have := HH.out.2.2.2.2.2.2.1.2; omega
  have i2 : (E.b : Int) ≤ (cap : Int) := by have := HH.out; omega
  have i4 : ¬ E.a = cap := by have := HH.out; omega
  have i5 : ¬ cap = E.a := by omega
  have hd := hN4.out.1.lt
  clear CA hsl
  by_cases hE : E.a = 0
  · have hq : (E.a == 0) = true := by simpa using hE
    have hE2 := Lib.hid hE
    have hhead : HD = [] := by rw [← HHD.out, Tree.headOf, if_pos hE]
    subst hhead
    rw [hq]
    clear hE i1 i2 i4 i5 hq
    go_wp2_with fail
    refine (HCA.out (.slice none 0 0) [] (by simp) (by simp) w4 (Below.refl _ _) (hashR_nil _ _)).mono ?_
    rintro e w5 ⟨v, rfl, hR, hb5⟩
    have HR := Lib.hid (And.intro (own_mono hR hN4.out.2.1.size) (hN4.out.2.1.trans (hb5.mono hN4.out.2.1.size)))
    clear hR hb5
    go_wp2_with fail
    go_ret2
    exact ⟨_, rfl, HR.out.1, HR.out.2⟩
  · have hq : (E.a == 0) = false := by simpa using hE
    have hhead : HD = [Tree.root (Tree.seg l E.a E.b)] := by rw [← HHD.out, Tree.headOf, if_neg hE]
    obtain ⟨r, er⟩ : ∃ r, Tree.root (Tree.seg l E.a E.b) = r := ⟨_, rfl⟩
    rw [er] at hr CR hhead
    subst hhead
    rw [hq]
    obtain ⟨ea, eea⟩ : ∃ y, E.a = y := ⟨_, rfl⟩
    obtain ⟨eb, eeb⟩ : ∃ y, E.b = y := ⟨_, rfl⟩
    rw [eea] at y0 CR i1 i4 i5; rw [eeb] at y1 CR i1 i2
    obtain ⟨cs, ecs⟩ : ∃ cs, (r.map (Value.int .u8)).toArray = cs := ⟨_, rfl⟩
    have zc : cs.size = 32 := by rw [← ecs]; simp [hr.1]
    unfold hashV at CR
    rw [ecs] at CR
    have HZ := Lib.hid (And.intro zc (And.intro ecs (And.intro hr.1 (And.intro eea eeb))))
    clear hE hq hr er eea eeb ecs
    go_wp2_with fail
    refine (CR.out _ (Below.refl _ _)).mono ?_
    rintro e w5 ⟨rfl, hb5⟩
    have HB5 := Lib.hid hb5
    have n1 : ¬ w2.heap.size = w5.heap.size := by have := hb5.size; omega
    have n2 : ¬ w5.heap.size = w2.heap.size := by omega
    obtain ⟨t0, t1, t2, t3⟩ := (hN4.out.1.past hb5).cells
    clear hb5 y0 y1 y2 y3
    go_wp2_with (at_builtin; refine wpList_append_lies _ rfl _ _ 32 rfl w4.heap.size 24 i0 _ 32 32 Tryd.underlying32 hj0 hz0 hz1 hz2 rfl (by decide) _ 0 [] rfl (hashR_nil _ _) _ 1 1 (hashC r) rfl (by rw [hashC, List.length_map, HZ.out.2.2.1]) (fun j u hu => news_row _ _ _ (hashC r) (by rw [fold_set _ rfl _ cs 32 rfl HZ.out.1, ← HZ.out.2.1]; rfl) _ (by rfl) j u hu) (fun u hu => by obtain ⟨y, _, rfl⟩ := List.mem_map.1 hu; rfl) (by decide) (by decide) (by decide) (by have := HB5.out.size; simp; omega) _ rfl ?_; intro g5 cap5 w6 hown hgrow hlie hlt5; have HO6 := Lib.hid hown; have hb6 : Below w4.heap.size w4 w6 := Below.grown (HB5.out.alloc HB5.out.size _) hgrow (by have := HB5.out.size; simp; omega) (fun q hq => by cases hq); have HB6 := Lib.hid hb6; obtain ⟨t0, t1, t2, t3⟩ := (hN4.out.1.past hb6).cells; clear hown hgrow hlie hlt5 hb6)
    have hR6 : HashR w6 w4.heap.size (.slice (some ⟨g5, 0, none⟩) 1 cap5) [r] := by
      have e := HO6.out
      show World.ownsRow _ _ _ _ _ 1 ([r].flatMap hashC)
      rw [show [r].flatMap hashC = hashC r by simp]
      exact e
    refine (HCA.out (.slice (some ⟨g5, 0, none⟩) 1 cap5) [r] (by intro x hx; simp at hx; subst hx; exact HZ.out.2.2.1) (by simp) w6 HB6.out hR6).mono ?_
    rintro e w7 ⟨v, rfl, hR, hb7⟩
    have HR := Lib.hid (And.intro (own_mono hR hN4.out.2.1.size) ((hN4.out.2.1.trans (HB6.out.mono hN4.out.2.1.size)).trans (hb7.mono hN4.out.2.1.size)))
    clear hR hb7
    go_wp2_with fail
    go_ret2
    exact ⟨_, rfl, HR.out.1, HR.out.2⟩

/-- From nothing, or from the whole list: nothing, and true. -/
theorem growth_ends (a : Option Addr) (len cap : Nat) (m : Int) (hm : m = 0 ∨ m = (len : Int)) (w : World) :
    Calls Tryd.prog 28 #[.slice a len cap, .int .i64 m] w fun e w' => e = .returned (.tuple #[.slice none 0 0, .bool true]) ∧ Below w.heap.size w w' := by
  have i1 : ¬ m < 0 := by omega
  have i2 : ¬ (len : Int) < m := by omega
  by_cases h0 : m = 0
  · subst h0
    clear hm
    go_enter Tryd.func28, Tryd.ntmps28
    go_wp2
    go_ret2
    exact ⟨rfl, Below.refl _ _⟩
  · obtain rfl : m = (len : Int) := by omega
    have j1 : ((len : Int) == 0) = false := by simp; omega
    have j2 : ((len : Int) == (len : Int)) = true := by simp
    clear hm
    go_enter Tryd.func28, Tryd.ntmps28
    go_wp2
    go_ret2
    exact ⟨rfl, Below.refl _ _⟩
/-- There are not so many strings: nothing, and false. -/
theorem growth_out (a : Option Addr) (len cap : Nat) (m : Int) (hm : m < 0 ∨ (len : Int) < m) (w : World) :
    Calls Tryd.prog 28 #[.slice a len cap, .int .i64 m] w fun e w' => e = .returned (.tuple #[.slice none 0 0, .bool false]) ∧ Below w.heap.size w w' := by
  by_cases h0 : m < 0
  · clear hm
    go_enter Tryd.func28, Tryd.ntmps28
    go_wp2
    go_ret2
    exact ⟨rfl, Below.refl _ _⟩
  · have h1 : (len : Int) < m := by omega
    clear hm
    go_enter Tryd.func28, Tryd.ntmps28
    go_wp2
    go_ret2
    exact ⟨rfl, Below.refl _ _⟩

/-- What Growth returns. -/
def growL (l : List ByteArray) (m : Int) : List (List Int) := if 0 < m ∧ m < (l.length : Int) then Tree.grow l m.toNat true else []
theorem growth_c (v : Value) (l : List ByteArray) (m : Int) (hss : ∀ s ∈ l, s.size ≤ 140737488351232) (w : World) (ht : Tabs w) (hv : StrsV w v l) :
    Calls Tryd.prog 28 #[v, .int .i64 m] w fun e w' => ∃ u, e = .returned (.tuple #[u, .bool (decide (0 ≤ m ∧ m ≤ (l.length : Int)))]) ∧ HashR w' w.heap.size u (growL l m) ∧ Below w.heap.size w w' := by
  have hx : ∃ a cap, v = .slice a l.length cap := by
    rcases hv with ⟨rfl, a, c, rfl⟩ | ⟨hl, b, off, cap, rfl, hc, hm, hs⟩
    · exact ⟨a, c, rfl⟩
    · exact ⟨_, _, rfl⟩
  by_cases h : 0 < m ∧ m < (l.length : Int)
  · rw [show decide (0 ≤ m ∧ m ≤ (l.length : Int)) = true by simp; omega, growL, if_pos h]
    rcases hv with ⟨rfl, _⟩ | ⟨hl, b, off, cap, rfl, hc, hm, hs⟩
    · simp at h; omega
    · have := growth_in l b off cap l.length m.toNat rfl (by omega) (by omega) hc hm hss w ht hs
      rw [show ((m.toNat : Nat) : Int) = m by omega] at this
      exact this
  · rw [growL, if_neg h]
    obtain ⟨a, cap, rfl⟩ := hx
    by_cases h2 : 0 ≤ m ∧ m ≤ (l.length : Int)
    · rw [show decide (0 ≤ m ∧ m ≤ (l.length : Int)) = true by simp; omega]
      refine (growth_ends a l.length cap m (by omega) w).mono ?_
      rintro e w' ⟨rfl, hb⟩
      exact ⟨_, rfl, hashR_nil _ _, hb⟩
    · rw [show decide (0 ≤ m ∧ m ≤ (l.length : Int)) = false by simp; omega]
      refine (growth_out a l.length cap m (by omega) w).mono ?_
      rintro e w' ⟨rfl, hb⟩
      exact ⟨_, rfl, hashR_nil _ _, hb⟩
end Go.Proofs.YtkjdfjpfghpofaaDoor
