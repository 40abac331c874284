/- Roots of lists: Root of the reference. -/
import Derived.Test.YtkjdfjpfghpofaaDoorUc
namespace Go.Proofs.YtkjdfjpfghpofaaDoor
open Go.RowKit

set_option maxRecDepth 100000 in
set_option maxHeartbeats 2000000 in
theorem refRoot_c (k : Nat) : ∀ (b off cap n : Nat) (l : List ByteArray) (w : World), n ≤ k → l.length = n → 1 ≤ n → (n : Int) ≤ (cap : Int) → (n : Int) ≤ 9223372036854775807 → (∀ s ∈ l, s.size ≤ 140737488351232) → StrsAt w b off l →
    Calls Tryd.prog 17 #[.slice (some ⟨b, off, none⟩) n cap] w fun e w' => e = .returned (hashV (Tree.root l)) ∧ Below w.heap.size w w' := by
  induction k with
  | zero => intro b off cap n l w hk hl h1; omega
  | succ k ih =>
    intro b off cap n l w hk hl h1 hc hmax hss hs
    have HS := Lib.hid hs
    have hbl := hs.1
    have nb : ¬ b = w.heap.size := by omega
    have nb2 : ¬ w.heap.size = b := by omega
    have n0 : ((n : Int) == 0) = false := by simp; omega
    by_cases hn1 : n = 1
    · subst hn1
      have hc0 := hs.2 0 (by omega)
      rw [Nat.add_zero] at hc0
      have hsz := hss _ (getD_mem (l := l) (by omega))
      have hr := Tree.root_one l hl
      obtain ⟨s, es⟩ : ∃ s, l.getD 0 ByteArray.empty = s := ⟨_, rfl⟩
      rw [es] at hc0 hsz hr
      have C1 := Lib.hid (fun w' => refLeaf_c s hsz w')
      have hh := (leaf_hash s).1
      obtain ⟨r, er⟩ : ∃ r, Tree.leaf s = r := ⟨_, rfl⟩
      rw [er] at C1 hr hh
      rw [hr]
      have HL := Lib.hid hh
      clear hs es hss hmax hk hl h1 ih hr er hh hsz
      go_enter Tryd.func17, Tryd.ntmps17
      go_wp2_with (first
        | (go_at_call 15; refine (C1.out _).mono ?_; rintro e w1 ⟨rfl, hb⟩; have hM : Hid (ResW w w1) := Lib.hid (ResW.below (resW_start w _ (by rfl)) hb); clear hb)
        | refine store_blk hM.out.1 rfl _ _ rfl rfl r rfl HL.out (by kernel_rfl) ?_)
      exact bodyPost_ret (Blk.result (hM.out.1.row r) Tryd.results17 _ rfl 32 5 (by kernel_rfl) (by rw [HL.out]; kernel_rfl)) rfl ⟨rfl, Below.setRow hM.out.2 (Nat.le_refl _) _⟩
    · have n2 : ((n : Int) == 1) = false := by simp; omega
      have p1 := Tree.half_pos n
      have p2 := Tree.half_lt n (by omega)
      have CH := Lib.hid (fun w' => refHalf_c n hmax w')
      have hr := Tree.root_more l (by omega)
      rw [hl] at hr
      obtain ⟨m, eh⟩ : ∃ m, Tree.half n = m := ⟨_, rfl⟩
      rw [eh] at p1 p2 CH hr
      have C1 : Hid (∀ w', Below w.heap.size w w' → Calls Tryd.prog 17 #[.slice (some ⟨b, off, none⟩) m cap] w' fun e w'' => e = .returned (hashV (Tree.root (l.take m))) ∧ Below w'.heap.size w' w'') :=
        Lib.hid (fun w' hb => ih b off cap m (l.take m) w' (by omega) (by simp; omega) p1 (by omega) (by omega) (fun s hs => hss s (List.mem_of_mem_take hs)) ((hs.take m).below hb hbl))
      have C2 : Hid (∀ w', Below w.heap.size w w' → Calls Tryd.prog 17 #[.slice (some ⟨b, off + m, none⟩) (n - m) (cap - m)] w' fun e w'' => e = .returned (hashV (Tree.root (l.drop m))) ∧ Below w'.heap.size w' w'') :=
        Lib.hid (fun w' hb => ih b (off + m) (cap - m) (n - m) (l.drop m) w' (by omega) (by simp; omega) (by omega) (by omega) (by omega) (fun s hs => hss s (List.mem_of_mem_drop hs)) ((hs.drop m).below hb hbl))
      have hA := root_hash (l.take m)
      have hB := root_hash (l.drop m)
      obtain ⟨A, eA⟩ : ∃ A, Tree.root (l.take m) = A := ⟨_, rfl⟩
      obtain ⟨B, eB⟩ : ∃ B, Tree.root (l.drop m) = B := ⟨_, rfl⟩
      rw [eA] at C1 hA hr; rw [eB] at C2 hB hr
      have C3 := Lib.hid (fun w' => refNode_c A B hA.1 hB.1 w')
      have hh := (node_hash A B).1
      obtain ⟨r, er⟩ : ∃ r, Tree.node A B = r := ⟨_, rfl⟩
      rw [er] at C3 hr hh
      rw [hr]
      have HL := Lib.hid (And.intro hh hmax)
      have hnn : (List.map (Value.int .u8) r).length = 32 := by rw [List.length_map, hh]
      have hi := (show (Tryd.prog.info? 24).map (·.size) = some 32 by kernel_rfl)
      have i1 : (m : Int) ≤ (cap : Int) := by omega
      have i2 : (m : Int) ≤ (n : Int) := by omega
      have ho : ∀ v, v ∈ List.map (Value.int .u8) r → v.oneCell' = true := fun v hv => by obtain ⟨x, _, rfl⟩ := List.mem_map.1 hv; rfl
      clear hs hss hmax hk hl ih hr er hh eA eB hA hB eh
      unfold hashV at C3
      go_enter Tryd.func17, Tryd.ntmps17
      go_wp2_with fail
      generalize hW : (w.alloc _) = W
      have hM0 : Hid (ResW w W) := by rw [← hW]; exact Lib.hid (resW_start _ _ (by rfl))
      clear hW
      refine (CH.out _).mono ?_; rintro e w1 ⟨rfl, rfl⟩
      go_wp2_with fail
      have t0 := hM0.out.there
      go_region_held3 (fun w' => w'.there w.heap.size 0 32) (first | exact World.there_setCells hM3.out.there _ _ _ | exact hM3.out.there | exact hM2.out.there | exact hM1.out.there | exact hM0.out.there | simp [*, go_sem])
        (first
          | (go_at_call_of 17 (Value.slice (some ⟨b, off, none⟩) m cap); refine (C1.out _ (by first | exact hM0.out.2 | exact hM0.out.2.drew)).mono ?_; rintro e wa ⟨rfl, hb⟩; have hM1 : Hid (ResW w wa) := Lib.hid (ResW.below (by first | exact hM0.out | exact hM0.out.drew) hb); have t1 := hM1.out.there; clear hb)
          | (go_at_call_of 17 (Value.slice (some ⟨b, off + m, none⟩) (n - m) (cap - m)); refine (C2.out _ (by exact hM1.out.2)).mono ?_; rintro e wb ⟨rfl, hb⟩; have hM2 : Hid (ResW w wb) := Lib.hid (ResW.below (by exact hM1.out) hb); have t2 := hM2.out.there; clear hb)
          | (go_at_call 19; refine (C3.out _).mono ?_; rintro e wd ⟨rfl, hb⟩; have hM3 : Hid (ResW w wd) := Lib.hid (ResW.below (by exact hM2.out) hb); have t3 := hM3.out.there; clear hb))
      all_goals
        go_wp2
        exact bodyPost_ret (result_mid (World.rangeAt_setCells_same wd w.heap.size 0 (List.map (Value.int .u8) r) (by rw [hnn]; exact t3)) Tryd.results17 _ rfl 32 5 (by kernel_rfl) (by rw [hnn]; exact hi)) rfl ⟨rfl, Below.setCells (Nat.le_refl _) _ _ _ hM3.out.2⟩


/-- A list without strings. -/
theorem refRoot_none (v : Value) (hv : ∃ a c, v = .slice a 0 c) (w : World) :
    Calls Tryd.prog 17 #[v] w fun e w' => e = .returned (hashV (Tree.root [])) ∧ Below w.heap.size w w' := by
  obtain ⟨a, c, rfl⟩ := hv
  have C1 := Lib.hid (fun w' => refSum_c ⟨#[]⟩ (by decide) w')
  have hr := Tree.root_nil
  have hh := (Sha.sum_hash ⟨#[]⟩).1
  obtain ⟨r, er⟩ : ∃ r, Sha.sum ⟨#[]⟩ = r := ⟨_, rfl⟩
  rw [er] at C1 hr hh
  rw [hr]
  have HL := Lib.hid hh
  clear hr er hh
  go_enter Tryd.func17, Tryd.ntmps17
  go_wp2_with (first
    | (go_at_call 37; refine (C1.out _).mono ?_; rintro e w1 ⟨rfl, hb⟩; have hM : Hid (ResW w w1) := Lib.hid (ResW.below (resW_start w _ (by rfl)) hb); clear hb)
    | refine store_blk hM.out.1 rfl _ _ rfl rfl r rfl HL.out (by kernel_rfl) ?_)
  exact bodyPost_ret (Blk.result (hM.out.1.row r) Tryd.results17 _ rfl 32 5 (by kernel_rfl) (by rw [HL.out]; kernel_rfl)) rfl ⟨rfl, Below.setRow hM.out.2 (Nat.le_refl _) _⟩
theorem root_none (v : Value) (hv : ∃ a c, v = .slice a 0 c) (w : World) (ht : Tabs w) :
    Calls Tryd.prog 16 #[v] w fun e w' => e = .returned (hashV (Tree.root [])) ∧ Below w.heap.size w w' := by
  obtain ⟨a, c, rfl⟩ := hv
  have HT := Lib.hid ht
  have C1 := Lib.hid (fun w' h => sum_c ⟨#[]⟩ (by decide) w' h)
  have hr := Tree.root_nil
  have hh := (Sha.sum_hash ⟨#[]⟩).1
  obtain ⟨r, er⟩ : ∃ r, Sha.sum ⟨#[]⟩ = r := ⟨_, rfl⟩
  rw [er] at C1 hr hh
  rw [hr]
  have HL := Lib.hid hh
  clear hr er hh ht
  go_enter Tryd.func16, Tryd.ntmps16
  go_wp2_with (first
    | (go_at_call 36; refine (C1.out _ (HT.out.below (resW_start w _ (by rfl)).2)).mono ?_; rintro e w1 ⟨rfl, hb⟩; have hM : Hid (ResW w w1) := Lib.hid (ResW.below (resW_start w _ (by rfl)) hb); clear hb)
    | refine store_blk hM.out.1 rfl _ _ rfl rfl r rfl HL.out (by kernel_rfl) ?_)
  exact bodyPost_ret (Blk.result (hM.out.1.row r) Tryd.results16 _ rfl 32 5 (by kernel_rfl) (by rw [HL.out]; kernel_rfl)) rfl ⟨rfl, Below.setRow hM.out.2 (Nat.le_refl _) _⟩
end Go.Proofs.YtkjdfjpfghpofaaDoor
