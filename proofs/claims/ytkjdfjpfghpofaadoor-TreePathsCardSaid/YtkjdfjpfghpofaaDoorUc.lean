/- Roots of lists: Root of both sides. -/
import Derived.Test.YtkjdfjpfghpofaaDoorUb
import Derived.Laws.EntriesVeiled
namespace Go.Proofs.YtkjdfjpfghpofaaDoor
open Go.RowKit

/-- These strings stand in a block from a place on. -/
def StrsAt (w : World) (b off : Nat) (l : List ByteArray) : Prop := b < w.heap.size ∧ ∀ i, i < l.length → w.cell? ⟨b, off + i, none⟩ = some (.string (l.getD i ByteArray.empty))
theorem StrsAt.below {B : Nat} {w w' : World} {b off : Nat} {l : List ByteArray} (h : StrsAt w b off l) (hb : Below B w w') (hB : b < B) : StrsAt w' b off l :=
  ⟨Nat.lt_of_lt_of_le h.1 hb.size, fun i hi => (hb.cell (p := ⟨b, off + i, none⟩) hB).trans (h.2 i hi)⟩
theorem StrsAt.take {w : World} {b off : Nat} {l : List ByteArray} (h : StrsAt w b off l) (k : Nat) : StrsAt w b off (l.take k) :=
  ⟨h.1, fun i hi => by
    rw [List.length_take] at hi
    rw [h.2 i (by omega)]
    have : i < k := by omega
    simp [List.getD_eq_getElem?_getD, List.getElem?_take, this]⟩
theorem StrsAt.drop {w : World} {b off : Nat} {l : List ByteArray} (h : StrsAt w b off l) (k : Nat) : StrsAt w b (off + k) (l.drop k) :=
  ⟨h.1, fun i hi => by
    simp at hi
    rw [Nat.add_assoc, h.2 (k + i) (by omega)]
    simp [List.getD_eq_getElem?_getD, List.getElem?_drop]⟩

theorem ResW.there {w wr : World} (h : ResW w wr) : wr.there w.heap.size 0 32 := h.1.there 32 rfl
theorem ResW.cell {w wr : World} (h : ResW w wr) {g o : Nat} (hg : g < w.heap.size) {v : Value} (hv : w.cell? ⟨g, o, none⟩ = some v) : wr.cell? ⟨g, o, none⟩ = some v := (h.2.cell (p := ⟨g, o, none⟩) hg).trans hv

theorem ResW.keep {w wr : World} (h : ResW w wr) {g o : Nat} (hg : g < w.heap.size) {v : Value} (hv : w.cell? ⟨g, o, none⟩ = some v) (l : List Int) : (wr.setCells w.heap.size 0 (List.map (Value.int .u8) l)).cell? ⟨g, o, none⟩ = some v ∧ (wr.setCells w.heap.size 0 (List.map (Value.int .u8) l)).there w.heap.size 0 32 :=
  ⟨((Below.setCells (Nat.le_refl _) _ _ _ h.2).cell (p := ⟨g, o, none⟩) hg).trans hv, World.there_setCells h.there _ _ _⟩

/-- The closure that Root makes, kept in a variable that it captures. -/
abbrev rootF (g : Nat) : Value := .func (Fn.func 38) #[] #[.pointer (some ⟨g, 0, none⟩)]

theorem getD_mem {l : List ByteArray} (h : 0 < l.length) : l.getD 0 ByteArray.empty ∈ l := by
  cases l with
  | nil => simp at h
  | cons a l => simp

set_option maxRecDepth 100000 in
set_option maxHeartbeats 2000000 in
theorem rootOf_c (k : Nat) : ∀ (b off cap n g : Nat) (l : List ByteArray) (w : World), n ≤ k → l.length = n → 1 ≤ n → (n : Int) ≤ (cap : Int) → (n : Int) ≤ 9223372036854775807 → (∀ s ∈ l, s.size ≤ 140737488351232) → Tabs w → StrsAt w b off l →
    w.cell? ⟨g, 0, none⟩ = some (rootF g) → g < w.heap.size →
    Calls Tryd.prog 38 #[.slice (some ⟨b, off, none⟩) n cap, .pointer (some ⟨g, 0, none⟩)] w fun e w' => e = .returned (hashV (Tree.root l)) ∧ Below w.heap.size w w' := by
  induction k with
  | zero => intro b off cap n g l w hk hl h1; omega
  | succ k ih =>
    intro b off cap n g l w hk hl h1 hc hmax hss ht hs hg hgl
    have HT := Lib.hid ht
    have HS := Lib.hid hs
    have hbl := hs.1
    have nb : ¬ b = w.heap.size := by omega
    have ng : ¬ g = w.heap.size := by omega
    have nb2 : ¬ w.heap.size = b := by omega
    have ng2 : ¬ w.heap.size = g := by omega
    by_cases hn1 : n = 1
    · subst hn1
      have hc0 := hs.2 0 (by omega)
      rw [Nat.add_zero] at hc0
      have hsz := hss _ (getD_mem (l := l) (by omega))
      have hr := Tree.root_one l hl
      obtain ⟨s, es⟩ : ∃ s, l.getD 0 ByteArray.empty = s := ⟨_, rfl⟩
      rw [es] at hc0 hsz hr
      have C1 := Lib.hid (fun w' h => leaf_c s hsz w' h)
      have hh := (leaf_hash s).1
      obtain ⟨r, er⟩ : ∃ r, Tree.leaf s = r := ⟨_, rfl⟩
      rw [er] at C1 hr hh
      rw [hr]
      have HL := Lib.hid hh
      clear ht hs es hss hmax hk hl h1 ih hr er hh hsz hg
      go_enter Tryd.func38, Tryd.ntmps38
      go_wp2_with (first
        | (go_at_call 14; refine (C1.out _ (HT.out.below (resW_start w _ (by rfl)).2)).mono ?_; rintro e w1 ⟨rfl, hb⟩; have hM : Hid (ResW w w1) := Lib.hid (ResW.below (resW_start w _ (by rfl)) hb); clear hb)
        | refine store_blk hM.out.1 rfl _ _ rfl rfl r rfl HL.out (by kernel_rfl) ?_)
      exact bodyPost_ret (Blk.result (hM.out.1.row r) Tryd.results38 _ rfl 32 5 (by kernel_rfl) (by rw [HL.out]; kernel_rfl)) rfl ⟨rfl, Below.setRow hM.out.2 (Nat.le_refl _) _⟩
    · have n2 : ((n : Int) == 1) = false := by simp; omega
      have p1 := Tree.half_pos n
      have p2 := Tree.half_lt n (by omega)
      have CH := Lib.hid (fun w' => half_c n hmax w')
      have hr := Tree.root_more l (by omega)
      rw [hl] at hr
      obtain ⟨m, eh⟩ : ∃ m, Tree.half n = m := ⟨_, rfl⟩
      rw [eh] at p1 p2 CH hr
      have C1 : Hid (∀ w', Below w.heap.size w w' → Calls Tryd.prog 38 #[.slice (some ⟨b, off, none⟩) m cap, .pointer (some ⟨g, 0, none⟩)] w' fun e w'' => e = .returned (hashV (Tree.root (l.take m))) ∧ Below w'.heap.size w' w'') :=
        Lib.hid (fun w' hb => ih b off cap m g (l.take m) w' (by omega) (by simp; omega) p1 (by omega) (by omega) (fun s hs => hss s (List.mem_of_mem_take hs)) (HT.out.below hb) ((hs.take m).below hb hbl) ((hb.cell (p := ⟨g, 0, none⟩) hgl).trans hg) (Nat.lt_of_lt_of_le hgl hb.size))
      have C2 : Hid (∀ w', Below w.heap.size w w' → Calls Tryd.prog 38 #[.slice (some ⟨b, off + m, none⟩) (n - m) (cap - m), .pointer (some ⟨g, 0, none⟩)] w' fun e w'' => e = .returned (hashV (Tree.root (l.drop m))) ∧ Below w'.heap.size w' w'') :=
        Lib.hid (fun w' hb => ih b (off + m) (cap - m) (n - m) g (l.drop m) w' (by omega) (by simp; omega) (by omega) (by omega) (by omega) (fun s hs => hss s (List.mem_of_mem_drop hs)) (HT.out.below hb) ((hs.drop m).below hb hbl) ((hb.cell (p := ⟨g, 0, none⟩) hgl).trans hg) (Nat.lt_of_lt_of_le hgl hb.size))
      have hA := root_hash (l.take m)
      have hB := root_hash (l.drop m)
      obtain ⟨A, eA⟩ : ∃ A, Tree.root (l.take m) = A := ⟨_, rfl⟩
      obtain ⟨B, eB⟩ : ∃ B, Tree.root (l.drop m) = B := ⟨_, rfl⟩
      rw [eA] at C1 hA hr; rw [eB] at C2 hB hr
      have C3 := Lib.hid (fun w' h => node_c A B hA.1 hB.1 w' h)
      have hh := (node_hash A B).1
      obtain ⟨r, er⟩ : ∃ r, Tree.node A B = r := ⟨_, rfl⟩
      rw [er] at C3 hr hh
      rw [hr]
      have HL := Lib.hid (And.intro hh hmax)
      have hnn : (List.map (Value.int .u8) r).length = 32 := by rw [List.length_map, hh]
      have hi := (show (Tryd.prog.info? 24).map (·.size) = some 32 by kernel_rfl)
      have i1 : (m : Int) ≤ (cap : Int) := by omega
      have i2 : (m : Int) ≤ (n : Int) := by omega
      have ho : ∀ v, v ∈ List.map (Value.int .u8) r → v.oneCell' = true := fun v hv => by obtain ⟨x, _, rfl⟩ := List.mem_map.1 hv; rfl
      clear ht hs hss hmax hk hl ih hr er hh eA eB hA hB eh
      unfold hashV at C3
      go_enter Tryd.func38, Tryd.ntmps38
      go_wp2_with fail
      generalize hW : (w.alloc _) = W
      have hM0 : Hid (ResW w W) := by rw [← hW]; exact Lib.hid (resW_start _ _ (by rfl))
      clear hW
      refine (CH.out _).mono ?_; rintro e w1 ⟨rfl, rfl⟩
      go_wp2_with fail
      have q0 := hM0.out.cell hgl hg
      have t0 := hM0.out.there
      go_region_held3 (fun w' => w'.cell? ⟨g, 0, none⟩ = some (rootF g) ∧ w'.there w.heap.size 0 32) (first | exact hM3.out.keep hgl hg r | exact ⟨hM3.out.cell hgl hg, hM3.out.there⟩ | exact ⟨hM2.out.cell hgl hg, hM2.out.there⟩ | exact ⟨hM1.out.cell hgl hg, hM1.out.there⟩ | exact ⟨hM0.out.cell hgl hg, hM0.out.there⟩ | simp [*, go_sem])
        (first
          | (go_at_call_of 38 (Value.slice (some ⟨b, off, none⟩) m cap); refine (C1.out _ (by first | exact hM0.out.2 | exact hM0.out.2.drew)).mono ?_; rintro e wa ⟨rfl, hb⟩; have hM1 : Hid (ResW w wa) := Lib.hid (ResW.below (by first | exact hM0.out | exact hM0.out.drew) hb); have t1 := hM1.out.there; clear hb)
          | (go_at_call_of 38 (Value.slice (some ⟨b, off + m, none⟩) (n - m) (cap - m)); refine (C2.out _ (by exact hM1.out.2)).mono ?_; rintro e wb ⟨rfl, hb⟩; have hM2 : Hid (ResW w wb) := Lib.hid (ResW.below (by exact hM1.out) hb); have t2 := hM2.out.there; clear hb)
          | (go_at_call 18; refine (C3.out _ (HT.out.below (by exact hM2.out.2))).mono ?_; rintro e wd ⟨rfl, hb⟩; have hM3 : Hid (ResW w wd) := Lib.hid (ResW.below (by exact hM2.out) hb); have t3 := hM3.out.there; clear hb))
      all_goals
        go_wp2
        exact bodyPost_ret (result_mid (World.rangeAt_setCells_same wd w.heap.size 0 (List.map (Value.int .u8) r) (by rw [hnn]; exact t3)) Tryd.results38 _ rfl 32 5 (by kernel_rfl) (by rw [hnn]; exact hi)) rfl ⟨rfl, Below.setCells (Nat.le_refl _) _ _ _ hM3.out.2⟩

set_option maxRecDepth 100000 in
set_option maxHeartbeats 2000000 in
theorem root_c (b off cap n : Nat) (l : List ByteArray) (hl : l.length = n) (h1 : 1 ≤ n) (hc : (n : Int) ≤ (cap : Int)) (hmax : (n : Int) ≤ 9223372036854775807) (hss : ∀ s ∈ l, s.size ≤ 140737488351232) (w : World) (ht : Tabs w) (hs : StrsAt w b off l) :
    Calls Tryd.prog 16 #[.slice (some ⟨b, off, none⟩) n cap] w fun e w' => e = .returned (hashV (Tree.root l)) ∧ Below w.heap.size w w' := by
  have n2 : ((n : Int) == 0) = false := by simp; omega
  have C1 : Hid (∀ w', Below w.heap.size w w' → w'.cell? ⟨w.heap.size + 1, 0, none⟩ = some (rootF (w.heap.size + 1)) → w.heap.size + 1 < w'.heap.size → Calls Tryd.prog 38 #[.slice (some ⟨b, off, none⟩) n cap, .pointer (some ⟨w.heap.size + 1, 0, none⟩)] w' fun e w'' => e = .returned (hashV (Tree.root l)) ∧ Below w'.heap.size w' w'') :=
    Lib.hid (fun w' hb hg hgl => rootOf_c n b off cap n (w.heap.size + 1) l w' (Nat.le_refl _) hl h1 hc hmax hss (ht.below hb) (hs.below hb hs.1) hg hgl)
  have hh := (root_hash l).1
  obtain ⟨r, er⟩ : ∃ r, Tree.root l = r := ⟨_, rfl⟩
  rw [er] at C1 hh
  rw [er]
  have HL := Lib.hid hh
  clear ht hs hss hmax hl er hh
  unfold hashV at C1
  go_enter Tryd.func16, Tryd.ntmps16
  go_wp2_with fail
  generalize hW : ((w.alloc _).alloc _) = W
  have hM0 : Hid (Blk .u8 W w.heap.size 24 (List.replicate 32 0) ∧ W.cell? ⟨w.heap.size + 1, 0, none⟩ = some (rootF (w.heap.size + 1)) ∧ w.heap.size + 1 < W.heap.size ∧ Below w.heap.size w W) := by
    rw [← hW]
    exact Lib.hid ⟨(zeros_new _ _ _ .u8 32 _ rfl (by rfl)).alloc _, by simp [go_sem], by simp, ((Below.refl _ w).alloc (Nat.le_refl _) _).alloc (by simp) _⟩
  clear hW
  refine (C1.out _ hM0.out.2.2.2 hM0.out.2.1 hM0.out.2.2.1).mono ?_; rintro e w1 ⟨rfl, hb⟩
  have hM : Hid (ResW w w1) := Lib.hid ⟨hM0.out.1.below hb hM0.out.1.lt, hM0.out.2.2.2.trans (hb.mono hM0.out.2.2.2.size)⟩
  clear hb
  go_wp2_with (refine store_blk hM.out.1 rfl _ _ rfl rfl r rfl HL.out (by kernel_rfl) ?_)
  exact bodyPost_ret (Blk.result (hM.out.1.row r) Tryd.results16 _ rfl 32 5 (by kernel_rfl) (by rw [HL.out]; kernel_rfl)) rfl ⟨rfl, Below.setRow hM.out.2 (Nat.le_refl _) _⟩
end Go.Proofs.YtkjdfjpfghpofaaDoor
