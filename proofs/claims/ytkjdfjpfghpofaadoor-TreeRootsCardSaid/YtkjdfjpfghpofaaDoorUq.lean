/- The laws: TreeRoots. -/
import Derived.Test.YtkjdfjpfghpofaaDoorUp
namespace Go.Proofs.YtkjdfjpfghpofaaDoor
open Go.RowKit

/-- Two hashes in boxes. -/
def BoxW (w : World) (a b : List Int) (wr : World) : Prop := Blk .u8 wr w.heap.size 24 a ∧ Blk .u8 wr (w.heap.size + 1) 24 b ∧ Below w.heap.size w wr
theorem boxW_start (w : World) (a b : List Int) (cs ds : Array Value) (hc : (a.map (Value.int .u8)).toArray = cs) (hd : (b.map (Value.int .u8)).toArray = ds) : BoxW w a b ((w.alloc (.cells cs 24)).alloc (.cells ds 24)) :=
  ⟨(Blk.new w a cs hc.symm).alloc _, blk_alloc2 ds hd.symm _ (by simp), ((Below.refl _ w).alloc (Nat.le_refl _) _).alloc (by simp) _⟩
theorem BoxW.below {w wr w' : World} {a b : List Int} (h : BoxW w a b wr) (hb : Below wr.heap.size wr w') : BoxW w a b w' := ⟨h.1.below hb h.1.lt, h.2.1.below hb h.2.1.lt, h.2.2.trans (hb.mono h.2.2.size)⟩
theorem BoxW.drew {w wr : World} {a b : List Int} (h : BoxW w a b wr) : BoxW w a b wr.drew := ⟨h.1, h.2.1, h.2.2.drew⟩

set_option maxRecDepth 100000 in
set_option maxHeartbeats 4000000 in
theorem treeRoots_none (A0 : Option Addr) (C0 : Nat) (a b : List Int) (ha : a.length = 32) (hb : b.length = 32) (w : World) (ht : Tabs w) :
    Calls Tryd.prog 3 #[.slice A0 0 C0, hashV a, hashV b] w fun e w' => e = .returned (.bool true) ∧ Below w.heap.size w w' := by
  obtain ⟨l, hl⟩ : ∃ l : List ByteArray, l = [] := ⟨_, rfl⟩
  have CR : Hid (∀ w', Below w.heap.size w w' → Calls Tryd.prog 16 #[.slice A0 0 C0] w' fun e w'' => e = .returned (.agg ((Tree.root l).map (Value.int .u8)).toArray) ∧ Below w'.heap.size w' w'') := Lib.hid (fun w' h => hl ▸ root_none _ ⟨_, _, rfl⟩ w' (ht.below h))
  have CS : Hid (∀ w', Below w.heap.size w w' → Calls Tryd.prog 17 #[.slice A0 0 C0] w' fun e w'' => e = .returned (.agg ((Tree.root l).map (Value.int .u8)).toArray) ∧ Below w'.heap.size w' w'') := Lib.hid (fun w' h => hl ▸ refRoot_none _ ⟨_, _, rfl⟩ w')
  have HT := Lib.hid ht
  obtain ⟨cs, hc⟩ : ∃ cs, (a.map (Value.int .u8)).toArray = cs := ⟨_, rfl⟩
  obtain ⟨ds, hd⟩ : ∃ cs, (b.map (Value.int .u8)).toArray = cs := ⟨_, rfl⟩
  have z1 : cs.size = 32 := by rw [← hc]; simp [ha]
  have z2 : ds.size = 32 := by rw [← hd]; simp [hb]
  have HW := Lib.hid (boxW_start w a b cs ds hc hd)
  have CN : Hid (∀ w', Below w.heap.size w w' → Calls Tryd.prog 18 #[.agg (a.map (Value.int .u8)).toArray, .agg (b.map (Value.int .u8)).toArray] w' fun e w'' => e = .returned (.agg ((Tree.node a b).map (Value.int .u8)).toArray) ∧ Below w'.heap.size w' w'') := Lib.hid (fun w' h => node_c a b ha hb w' (HT.out.below h))
  have CM : Hid (∀ w', Below w.heap.size w w' → Calls Tryd.prog 19 #[.agg (a.map (Value.int .u8)).toArray, .agg (b.map (Value.int .u8)).toArray] w' fun e w'' => e = .returned (.agg ((Tree.node a b).map (Value.int .u8)).toArray) ∧ Below w'.heap.size w' w'') := Lib.hid (fun w' h => refNode_c a b ha hb w')
  have hnd := (node_hash a b).1
  obtain ⟨nd, end0⟩ : ∃ x, Tree.node a b = x := ⟨_, rfl⟩
  rw [end0] at CN CM hnd
  have hu := Tryd.underlying24
  have hia : (Tryd.prog.info? 24).map (·.size) = some (List.map (Value.int .u8) a).length := by rw [List.length_map, ha]; kernel_rfl
  have hib : (Tryd.prog.info? 24).map (·.size) = some (List.map (Value.int .u8) b).length := by rw [List.length_map, hb]; kernel_rfl
  have hqn := fun w' => hash_eq nd nd hnd hnd w'
  have hrr := (root_hash l).1
  have hqr := fun w' => hash_eq (Tree.root l) (Tree.root l) hrr hrr w'
  obtain ⟨rr, err⟩ : ∃ x, Tree.root l = x := ⟨_, rfl⟩
  simp only [err] at CR CS hqr
  simp only [beq_self_eq_true] at hqn hqr
  unfold hashV
  rw [hc, hd]
  clear hc hd ht end0 hnd hrr err ha hb
  clear hl
  go_enter Tryd.func3, Tryd.ntmps3
  go_wp2_with fail
  refine (sanity_c _ (HT.out.below HW.out.2.2)).mono ?_; rintro e w1 ⟨rfl, hb⟩
  have hQ := Lib.hid (HW.out.below hb); clear hb HW
  go_wp2_with fail
  go_loopw [9, 18] (fun _ i wr => i = .int .i64 0 ∧ Hid (BoxW w a b wr)) (fun _ _ _ => 0)
  case atStart => exact ⟨rfl, hQ⟩
  clear hQ
  case round =>
    obtain ⟨rfl, hQ⟩ := hrel
    go_wp2_with fail
    refine wp_region_held_drew (S := fun w' => w'.rangeAt w.heap.size 0 (List.map (Value.int .u8) a) ∧ w'.rangeAt (w.heap.size + 1) 0 (List.map (Value.int .u8) b)) (by kernel_rfl) (by exact ⟨hQ.out.1.range, hQ.out.2.1.range⟩) (fun hHeld => ?_)
    refine wpAnyH_take (i := 0) (oi := _) (v := ?_) rfl (by kernel_rfl) (by kernel_rfl) (by kernel_rfl) (fun _ _ _ h => h) (Or.inl ⟨by kernel_rfl, ?_⟩) (by assumption) ?_
    rotate_left
    · (intro w hSw; (try dsimp only at hSw); go_simp; try with_reducible rfl)
    (try simp only [Act.put, List.setIfInBounds_toArray])
    refine wpAnyH_take (i := 1) (oi := _) (v := ?_) rfl (by kernel_rfl) (by kernel_rfl) (by kernel_rfl) (fun _ _ _ h => h) (Or.inl ⟨by kernel_rfl, ?_⟩) (by assumption) ?_
    rotate_left
    · (intro w hSw; (try dsimp only at hSw); go_simp; try with_reducible rfl)
    (try simp only [Act.put])
    refine wpAnyH_take (i := 2) (oi := _) (v := ?_) rfl (by kernel_rfl) (by kernel_rfl) (by kernel_rfl) (fun _ _ _ h => h) (Or.inl ⟨by kernel_rfl, ?_⟩) (by assumption) ?_
    rotate_left
    · (intro w hSw; (try dsimp only at hSw); go_simp; try with_reducible rfl)
    (try simp only [Act.put])
    refine wpAnyH_take (i := 4) (oi := _) (v := ?_) rfl (by kernel_rfl) (by kernel_rfl) (by kernel_rfl) (fun _ _ _ h => h) (Or.inl ⟨by kernel_rfl, ?_⟩) (by assumption) ?_
    rotate_left
    · (intro w hSw; (try dsimp only at hSw); go_simp; try with_reducible rfl)
    (try simp only [Act.put])
    refine wpAnyH_ready (rs := [3]) (by kernel_rfl) (by simp) ?_
    refine AllReadyH.cons (o := _) rfl (fun K hK => ?_) AllReadyH.nil
    go_simp
    go_at_call 16
    refine (CR.out _ (by first | exact hQ.out.2.2 | exact hQ.out.2.2.drew)).mono ?_; rintro e wa ⟨rfl, hb⟩
    have hQ := Lib.hid (BoxW.below (by first | exact hQ.out | exact hQ.out.drew) hb); clear hb
    refine hK.out _ _ (by exact ⟨hQ.out.1.range, hQ.out.2.1.range⟩) (fun hHeld => ?_)
    clear hK K
    (try simp only [Act.put, List.setIfInBounds_toArray, List.set_cons_zero, List.set_cons_succ])
    refine wpAnyH_ready (rs := [5]) (by kernel_rfl) (by simp) ?_
    refine AllReadyH.cons (o := _) rfl (fun K hK => ?_) AllReadyH.nil
    go_simp
    go_at_call 17
    refine (CS.out _ (by first | exact hQ.out.2.2 | exact hQ.out.2.2.drew)).mono ?_; rintro e wa ⟨rfl, hb⟩
    have hQ := Lib.hid (BoxW.below (by first | exact hQ.out | exact hQ.out.drew) hb); clear hb
    refine hK.out _ _ (by exact ⟨hQ.out.1.range, hQ.out.2.1.range⟩) (fun hHeld => ?_)
    clear hK K
    (try simp only [Act.put, List.setIfInBounds_toArray, List.set_cons_zero, List.set_cons_succ])
    refine wpAnyH_take (i := 6) (oi := _) (v := ?_) rfl (by kernel_rfl) (by kernel_rfl) (by kernel_rfl) (fun _ _ _ h => h) (Or.inl ⟨by kernel_rfl, ?_⟩) (by assumption) ?_
    rotate_left
    · (intro w hSw; (try dsimp only at hSw); go_simp; try with_reducible rfl)
    (try simp only [Act.put, List.setIfInBounds_toArray])
    refine wpAnyH_take (i := 7) (oi := _) (v := ?_) rfl (by kernel_rfl) (by kernel_rfl) (by kernel_rfl) (fun _ _ _ h => h) (Or.inl ⟨by kernel_rfl, ?_⟩) (by assumption) ?_
    rotate_left
    · (intro w hSw; (try dsimp only at hSw); go_simp; try with_reducible rfl)
    (try simp only [Act.put])
    refine wpAnyH_take (i := 8) (oi := _) (v := ?_) rfl (by kernel_rfl) (by kernel_rfl) (by kernel_rfl) (fun _ _ _ h => h) (Or.inl ⟨by kernel_rfl, ?_⟩) (by assumption) ?_
    rotate_left
    · (intro w hSw; (try dsimp only at hSw); go_simp; try with_reducible rfl)
    (try simp only [Act.put])
    refine wpAnyH_take (i := 9) (oi := _) (v := _) rfl (by kernel_rfl) (by kernel_rfl) (by kernel_rfl) (fun _ _ _ h => h) (yieldsIf_load_mid (by kernel_rfl) _ _ rfl (w.heap.size) 0 (by kernel_rfl) (List.map (Value.int .u8) a) _ (fun w h => h.1) hu rfl hia) (by assumption) ?_
    (try simp only [Act.put])
    refine wpAnyH_take (i := 10) (oi := _) (v := _) rfl (by kernel_rfl) (by kernel_rfl) (by kernel_rfl) (fun _ _ _ h => h) (yieldsIf_load_mid (by kernel_rfl) _ _ rfl (w.heap.size + 1) 0 (by kernel_rfl) (List.map (Value.int .u8) b) _ (fun w h => h.2) hu rfl hib) (by assumption) ?_
    (try simp only [Act.put])
    refine wpAnyH_take (i := 12) (oi := _) (v := _) rfl (by kernel_rfl) (by kernel_rfl) (by kernel_rfl) (fun _ _ _ h => h) (yieldsIf_load_mid (by kernel_rfl) _ _ rfl (w.heap.size) 0 (by kernel_rfl) (List.map (Value.int .u8) a) _ (fun w h => h.1) hu rfl hia) (by assumption) ?_
    (try simp only [Act.put])
    refine wpAnyH_take (i := 13) (oi := _) (v := _) rfl (by kernel_rfl) (by kernel_rfl) (by kernel_rfl) (fun _ _ _ h => h) (yieldsIf_load_mid (by kernel_rfl) _ _ rfl (w.heap.size + 1) 0 (by kernel_rfl) (List.map (Value.int .u8) b) _ (fun w h => h.2) hu rfl hib) (by assumption) ?_
    (try simp only [Act.put])
    refine wpAnyH_ready (rs := [11]) (by kernel_rfl) (by simp) ?_
    refine AllReadyH.cons (o := _) rfl (fun K hK => ?_) AllReadyH.nil
    go_simp
    go_at_call 18
    refine (CN.out _ (by first | exact hQ.out.2.2 | exact hQ.out.2.2.drew)).mono ?_; rintro e wa ⟨rfl, hb⟩
    have hQ := Lib.hid (BoxW.below (by first | exact hQ.out | exact hQ.out.drew) hb); clear hb
    refine hK.out _ _ (by exact ⟨hQ.out.1.range, hQ.out.2.1.range⟩) (fun hHeld => ?_)
    clear hK K
    (try simp only [Act.put, List.setIfInBounds_toArray, List.set_cons_zero, List.set_cons_succ])
    refine wpAnyH_ready (rs := [14]) (by kernel_rfl) (by simp) ?_
    refine AllReadyH.cons (o := _) rfl (fun K hK => ?_) AllReadyH.nil
    go_simp
    go_at_call 19
    refine (CM.out _ (by first | exact hQ.out.2.2 | exact hQ.out.2.2.drew)).mono ?_; rintro e wa ⟨rfl, hb⟩
    have hQ := Lib.hid (BoxW.below (by first | exact hQ.out | exact hQ.out.drew) hb); clear hb
    refine hK.out _ _ (by exact ⟨hQ.out.1.range, hQ.out.2.1.range⟩) (fun hHeld => ?_)
    clear hK K
    (try simp only [Act.put, List.setIfInBounds_toArray, List.set_cons_zero, List.set_cons_succ])
    refine wpAnyH_take (i := 15) (oi := _) (v := ?_) rfl (by kernel_rfl) (by kernel_rfl) (by kernel_rfl) (fun _ _ _ h => h) (Or.inl ⟨by kernel_rfl, ?_⟩) (by assumption) ?_
    rotate_left
    · (intro w hSw; (try dsimp only at hSw); go_simp; try with_reducible rfl)
    (try simp only [Act.put, List.setIfInBounds_toArray])
    refine wpAnyH_take (i := 16) (oi := _) (v := ?_) rfl (by kernel_rfl) (by kernel_rfl) (by kernel_rfl) (fun _ _ _ h => h) (Or.inl ⟨by kernel_rfl, ?_⟩) (by assumption) ?_
    rotate_left
    · (intro w hSw; (try dsimp only at hSw); go_simp; try with_reducible rfl)
    (try simp only [Act.put])
    refine wpAnyH_take (i := 17) (oi := _) (v := ?_) rfl (by kernel_rfl) (by kernel_rfl) (by kernel_rfl) (fun _ _ _ h => h) (Or.inl ⟨by kernel_rfl, ?_⟩) (by assumption) ?_
    rotate_left
    · (intro w hSw; (try dsimp only at hSw); go_simp; try with_reducible rfl)
    (try simp only [Act.put])
    refine wpAnyH_done (by kernel_rfl) ?_ _
    simp [Act.put]
    go_wp2
    go_ret
    exact ⟨rfl, hQ.out.2.2⟩

set_option maxRecDepth 100000 in
set_option maxHeartbeats 4000000 in
theorem treeRoots_some (l0 l : List ByteArray) (b0 off cap len n : Nat) (hl0 : l0.length = len) (hpos : 0 < len) (hln : len ≤ 40 ∧ n = len ∨ ¬ len ≤ 40 ∧ n = 40) (hl : l = l0.take n) (hcap : (len : Int) ≤ (cap : Int)) (hmax : (cap : Int) ≤ 9223372036854775807) (hss : ∀ s ∈ l0, s.size ≤ 140737488351232)
    (a b : List Int) (ha : a.length = 32) (hb : b.length = 32) (w : World) (ht : Tabs w) (hst : StrsAt w b0 off l0) :
    Calls Tryd.prog 3 #[.slice (some ⟨b0, off, none⟩) len cap, hashV a, hashV b] w fun e w' => e = .returned (.bool true) ∧ Below w.heap.size w w' := by
  have hst2 : StrsAt w b0 off l := hl ▸ hst.take n
  have hlen : l.length = n := by rw [hl, List.length_take]; omega
  have hss2 : ∀ s ∈ l, s.size ≤ 140737488351232 := fun s hs => hss s (List.mem_of_mem_take (hl ▸ hs))
  have CR : Hid (∀ w', Below w.heap.size w w' → Calls Tryd.prog 16 #[.slice (some ⟨b0, off, none⟩) n cap] w' fun e w'' => e = .returned (.agg ((Tree.root l).map (Value.int .u8)).toArray) ∧ Below w'.heap.size w' w'') := Lib.hid (fun w' h => root_c b0 off cap n l hlen (by omega) (by omega) (by omega) hss2 w' (ht.below h) (hst2.below h hst2.1))
  have CS : Hid (∀ w', Below w.heap.size w w' → Calls Tryd.prog 17 #[.slice (some ⟨b0, off, none⟩) n cap] w' fun e w'' => e = .returned (.agg ((Tree.root l).map (Value.int .u8)).toArray) ∧ Below w'.heap.size w' w'') := Lib.hid (fun w' h => refRoot_c n b0 off cap n l w' (Nat.le_refl _) hlen (by omega) (by omega) (by omega) hss2 (hst2.below h hst2.1))
  have HLL := Lib.hid (And.intro hst2 (And.intro hlen hss2))
  have hc40 : (n : Int) ≤ (cap : Int) := by omega
  have hn40 : (n : Int) ≤ 40 := by omega
  have hnl : (n : Int) ≤ (len : Int) := by omega
  have n0 : ¬ n = 0 := by omega
  have hmin : (len : Int) ≤ 40 ∧ n = len ∨ ¬ (len : Int) ≤ 40 ∧ n = 40 := by omega
  clear hst2 hlen hss2 hst hss hl hl0 hln
  have HT := Lib.hid ht
  obtain ⟨cs, hc⟩ : ∃ cs, (a.map (Value.int .u8)).toArray = cs := ⟨_, rfl⟩
  obtain ⟨ds, hd⟩ : ∃ cs, (b.map (Value.int .u8)).toArray = cs := ⟨_, rfl⟩
  have z1 : cs.size = 32 := by rw [← hc]; simp [ha]
  have z2 : ds.size = 32 := by rw [← hd]; simp [hb]
  have HW := Lib.hid (boxW_start w a b cs ds hc hd)
  have CN : Hid (∀ w', Below w.heap.size w w' → Calls Tryd.prog 18 #[.agg (a.map (Value.int .u8)).toArray, .agg (b.map (Value.int .u8)).toArray] w' fun e w'' => e = .returned (.agg ((Tree.node a b).map (Value.int .u8)).toArray) ∧ Below w'.heap.size w' w'') := Lib.hid (fun w' h => node_c a b ha hb w' (HT.out.below h))
  have CM : Hid (∀ w', Below w.heap.size w w' → Calls Tryd.prog 19 #[.agg (a.map (Value.int .u8)).toArray, .agg (b.map (Value.int .u8)).toArray] w' fun e w'' => e = .returned (.agg ((Tree.node a b).map (Value.int .u8)).toArray) ∧ Below w'.heap.size w' w'') := Lib.hid (fun w' h => refNode_c a b ha hb w')
  have hnd := (node_hash a b).1
  obtain ⟨nd, end0⟩ : ∃ x, Tree.node a b = x := ⟨_, rfl⟩
  rw [end0] at CN CM hnd
  have hu := Tryd.underlying24
  have hia : (Tryd.prog.info? 24).map (·.size) = some (List.map (Value.int .u8) a).length := by rw [List.length_map, ha]; kernel_rfl
  have hib : (Tryd.prog.info? 24).map (·.size) = some (List.map (Value.int .u8) b).length := by rw [List.length_map, hb]; kernel_rfl
  have hqn := fun w' => hash_eq nd nd hnd hnd w'
  have hrr := (root_hash l).1
  have hqr := fun w' => hash_eq (Tree.root l) (Tree.root l) hrr hrr w'
  obtain ⟨rr, err⟩ : ∃ x, Tree.root l = x := ⟨_, rfl⟩
  simp only [err] at CR CS hqr
  simp only [beq_self_eq_true] at hqn hqr
  unfold hashV
  rw [hc, hd]
  clear hc hd ht end0 hnd hrr err ha hb
  rcases hmin with ⟨hm, rfl⟩ | ⟨hm, rfl⟩
  · go_enter Tryd.func3, Tryd.ntmps3
    go_wp2_with fail
    refine (sanity_c _ (HT.out.below HW.out.2.2)).mono ?_; rintro e w1 ⟨rfl, hb⟩
    have hQ := Lib.hid (HW.out.below hb); clear hb HW
    go_wp2_with fail
    go_loopw [9, 18] (fun _ i wr => ∃ j : Nat, j ≤ n ∧ i = .int .i64 j ∧ Hid (BoxW w a b wr)) (fun _ i _ => n - (intOf i).toNat)
    case atStart => exact ⟨0, by omega, rfl, hQ⟩
    clear hQ
    case round =>
      obtain ⟨j, hj, rfl, hQ⟩ := hrel
      by_cases hlt : j < n
      · have hc := (HLL.out.1.below hQ.out.2.2 HLL.out.1.1).2 j (by have := HLL.out.2.1; omega)
        have hsz := HLL.out.2.2 (l.getD j ByteArray.empty) (by have := HLL.out.2.1; rw [List.getD_eq_getElem?_getD, List.getElem?_eq_getElem (show j < l.length by omega)]; exact List.getElem_mem _)
        obtain ⟨s, es⟩ : ∃ s, l.getD j ByteArray.empty = s := ⟨_, rfl⟩
        rw [es] at hc hsz
        have L1 := Lib.hid (fun w' h => leaf_c s hsz w' h)
        have L2 := Lib.hid (fun w' => refLeaf_c s hsz w')
        have hlf := (leaf_hash s).1
        obtain ⟨lf, elf⟩ : ∃ x, Tree.leaf s = x := ⟨_, rfl⟩
        rw [elf] at L1 L2 hlf
        have hql := fun w' => hash_eq lf lf hlf hlf w'
        simp only [beq_self_eq_true] at hql
        unfold hashV at L1 L2
        have HLT := Lib.hid hlt
        have i1 : (j : Int) < (n : Int) := by omega
        clear hsz es elf hlf hlt
        go_wp2_with (first
          | (go_at_call 14; refine (L1.out _ (HT.out.below hQ.out.2.2)).mono ?_; rintro e w2 ⟨rfl, hb⟩; have hQ := Lib.hid (hQ.out.below hb); clear hb)
          | (go_at_call 15; refine (L2.out _).mono ?_; rintro e w3 ⟨rfl, hb⟩; have hQ := Lib.hid (hQ.out.below hb); clear hb))
        exact ⟨⟨j + 1, HLT.out, by go_num, hQ⟩, by have := HLT.out; simp only [intOf]; omega⟩
      · obtain rfl : j = n := by omega
        have i1 : ¬ (j : Int) < (j : Int) := by omega
        go_wp2_with fail
        refine wp_region_held_drew (S := fun w' => w'.rangeAt w.heap.size 0 (List.map (Value.int .u8) a) ∧ w'.rangeAt (w.heap.size + 1) 0 (List.map (Value.int .u8) b)) (by kernel_rfl) (by exact ⟨hQ.out.1.range, hQ.out.2.1.range⟩) (fun hHeld => ?_)
        refine wpAnyH_take (i := 0) (oi := _) (v := ?_) rfl (by kernel_rfl) (by kernel_rfl) (by kernel_rfl) (fun _ _ _ h => h) (Or.inl ⟨by kernel_rfl, ?_⟩) (by assumption) ?_
        rotate_left
        · (intro w hSw; (try dsimp only at hSw); go_simp; try with_reducible rfl)
        (try simp only [Act.put, List.setIfInBounds_toArray])
        refine wpAnyH_take (i := 1) (oi := _) (v := ?_) rfl (by kernel_rfl) (by kernel_rfl) (by kernel_rfl) (fun _ _ _ h => h) (Or.inl ⟨by kernel_rfl, ?_⟩) (by assumption) ?_
        rotate_left
        · (intro w hSw; (try dsimp only at hSw); go_simp; try with_reducible rfl)
        (try simp only [Act.put])
        refine wpAnyH_take (i := 2) (oi := _) (v := ?_) rfl (by kernel_rfl) (by kernel_rfl) (by kernel_rfl) (fun _ _ _ h => h) (Or.inl ⟨by kernel_rfl, ?_⟩) (by assumption) ?_
        rotate_left
        · (intro w hSw; (try dsimp only at hSw); go_simp; try with_reducible rfl)
        (try simp only [Act.put])
        refine wpAnyH_take (i := 4) (oi := _) (v := ?_) rfl (by kernel_rfl) (by kernel_rfl) (by kernel_rfl) (fun _ _ _ h => h) (Or.inl ⟨by kernel_rfl, ?_⟩) (by assumption) ?_
        rotate_left
        · (intro w hSw; (try dsimp only at hSw); go_simp; try with_reducible rfl)
        (try simp only [Act.put])
        refine wpAnyH_ready (rs := [3]) (by kernel_rfl) (by simp) ?_
        refine AllReadyH.cons (o := _) rfl (fun K hK => ?_) AllReadyH.nil
        go_simp
        go_at_call 16
        refine (CR.out _ (by first | exact hQ.out.2.2 | exact hQ.out.2.2.drew)).mono ?_; rintro e wa ⟨rfl, hb⟩
        have hQ := Lib.hid (BoxW.below (by first | exact hQ.out | exact hQ.out.drew) hb); clear hb
        refine hK.out _ _ (by exact ⟨hQ.out.1.range, hQ.out.2.1.range⟩) (fun hHeld => ?_)
        clear hK K
        (try simp only [Act.put, List.setIfInBounds_toArray, List.set_cons_zero, List.set_cons_succ])
        refine wpAnyH_ready (rs := [5]) (by kernel_rfl) (by simp) ?_
        refine AllReadyH.cons (o := _) rfl (fun K hK => ?_) AllReadyH.nil
        go_simp
        go_at_call 17
        refine (CS.out _ (by first | exact hQ.out.2.2 | exact hQ.out.2.2.drew)).mono ?_; rintro e wa ⟨rfl, hb⟩
        have hQ := Lib.hid (BoxW.below (by first | exact hQ.out | exact hQ.out.drew) hb); clear hb
        refine hK.out _ _ (by exact ⟨hQ.out.1.range, hQ.out.2.1.range⟩) (fun hHeld => ?_)
        clear hK K
        (try simp only [Act.put, List.setIfInBounds_toArray, List.set_cons_zero, List.set_cons_succ])
        refine wpAnyH_take (i := 6) (oi := _) (v := ?_) rfl (by kernel_rfl) (by kernel_rfl) (by kernel_rfl) (fun _ _ _ h => h) (Or.inl ⟨by kernel_rfl, ?_⟩) (by assumption) ?_
        rotate_left
        · (intro w hSw; (try dsimp only at hSw); go_simp; try with_reducible rfl)
        (try simp only [Act.put, List.setIfInBounds_toArray])
        refine wpAnyH_take (i := 7) (oi := _) (v := ?_) rfl (by kernel_rfl) (by kernel_rfl) (by kernel_rfl) (fun _ _ _ h => h) (Or.inl ⟨by kernel_rfl, ?_⟩) (by assumption) ?_
        rotate_left
        · (intro w hSw; (try dsimp only at hSw); go_simp; try with_reducible rfl)
        (try simp only [Act.put])
        refine wpAnyH_take (i := 8) (oi := _) (v := ?_) rfl (by kernel_rfl) (by kernel_rfl) (by kernel_rfl) (fun _ _ _ h => h) (Or.inl ⟨by kernel_rfl, ?_⟩) (by assumption) ?_
        rotate_left
        · (intro w hSw; (try dsimp only at hSw); go_simp; try with_reducible rfl)
        (try simp only [Act.put])
        refine wpAnyH_take (i := 9) (oi := _) (v := _) rfl (by kernel_rfl) (by kernel_rfl) (by kernel_rfl) (fun _ _ _ h => h) (yieldsIf_load_mid (by kernel_rfl) _ _ rfl (w.heap.size) 0 (by kernel_rfl) (List.map (Value.int .u8) a) _ (fun w h => h.1) hu rfl hia) (by assumption) ?_
        (try simp only [Act.put])
        refine wpAnyH_take (i := 10) (oi := _) (v := _) rfl (by kernel_rfl) (by kernel_rfl) (by kernel_rfl) (fun _ _ _ h => h) (yieldsIf_load_mid (by kernel_rfl) _ _ rfl (w.heap.size + 1) 0 (by kernel_rfl) (List.map (Value.int .u8) b) _ (fun w h => h.2) hu rfl hib) (by assumption) ?_
        (try simp only [Act.put])
        refine wpAnyH_take (i := 12) (oi := _) (v := _) rfl (by kernel_rfl) (by kernel_rfl) (by kernel_rfl) (fun _ _ _ h => h) (yieldsIf_load_mid (by kernel_rfl) _ _ rfl (w.heap.size) 0 (by kernel_rfl) (List.map (Value.int .u8) a) _ (fun w h => h.1) hu rfl hia) (by assumption) ?_
        (try simp only [Act.put])
        refine wpAnyH_take (i := 13) (oi := _) (v := _) rfl (by kernel_rfl) (by kernel_rfl) (by kernel_rfl) (fun _ _ _ h => h) (yieldsIf_load_mid (by kernel_rfl) _ _ rfl (w.heap.size + 1) 0 (by kernel_rfl) (List.map (Value.int .u8) b) _ (fun w h => h.2) hu rfl hib) (by assumption) ?_
        (try simp only [Act.put])
        refine wpAnyH_ready (rs := [11]) (by kernel_rfl) (by simp) ?_
        refine AllReadyH.cons (o := _) rfl (fun K hK => ?_) AllReadyH.nil
        go_simp
        go_at_call 18
        refine (CN.out _ (by first | exact hQ.out.2.2 | exact hQ.out.2.2.drew)).mono ?_; rintro e wa ⟨rfl, hb⟩
        have hQ := Lib.hid (BoxW.below (by first | exact hQ.out | exact hQ.out.drew) hb); clear hb
        refine hK.out _ _ (by exact ⟨hQ.out.1.range, hQ.out.2.1.range⟩) (fun hHeld => ?_)
        clear hK K
        (try simp only [Act.put, List.setIfInBounds_toArray, List.set_cons_zero, List.set_cons_succ])
        refine wpAnyH_ready (rs := [14]) (by kernel_rfl) (by simp) ?_
        refine AllReadyH.cons (o := _) rfl (fun K hK => ?_) AllReadyH.nil
        go_simp
        go_at_call 19
        refine (CM.out _ (by first | exact hQ.out.2.2 | exact hQ.out.2.2.drew)).mono ?_; rintro e wa ⟨rfl, hb⟩
        have hQ := Lib.hid (BoxW.below (by first | exact hQ.out | exact hQ.out.drew) hb); clear hb
        refine hK.out _ _ (by exact ⟨hQ.out.1.range, hQ.out.2.1.range⟩) (fun hHeld => ?_)
        clear hK K
        (try simp only [Act.put, List.setIfInBounds_toArray, List.set_cons_zero, List.set_cons_succ])
        refine wpAnyH_take (i := 15) (oi := _) (v := ?_) rfl (by kernel_rfl) (by kernel_rfl) (by kernel_rfl) (fun _ _ _ h => h) (Or.inl ⟨by kernel_rfl, ?_⟩) (by assumption) ?_
        rotate_left
        · (intro w hSw; (try dsimp only at hSw); go_simp; try with_reducible rfl)
        (try simp only [Act.put, List.setIfInBounds_toArray])
        refine wpAnyH_take (i := 16) (oi := _) (v := ?_) rfl (by kernel_rfl) (by kernel_rfl) (by kernel_rfl) (fun _ _ _ h => h) (Or.inl ⟨by kernel_rfl, ?_⟩) (by assumption) ?_
        rotate_left
        · (intro w hSw; (try dsimp only at hSw); go_simp; try with_reducible rfl)
        (try simp only [Act.put])
        refine wpAnyH_take (i := 17) (oi := _) (v := ?_) rfl (by kernel_rfl) (by kernel_rfl) (by kernel_rfl) (fun _ _ _ h => h) (Or.inl ⟨by kernel_rfl, ?_⟩) (by assumption) ?_
        rotate_left
        · (intro w hSw; (try dsimp only at hSw); go_simp; try with_reducible rfl)
        (try simp only [Act.put])
        refine wpAnyH_done (by kernel_rfl) ?_ _
        simp [Act.put]
        go_wp2
        go_ret
        exact ⟨rfl, hQ.out.2.2⟩
  · go_enter Tryd.func3, Tryd.ntmps3
    go_wp2_with fail
    refine (sanity_c _ (HT.out.below HW.out.2.2)).mono ?_; rintro e w1 ⟨rfl, hb⟩
    have hQ := Lib.hid (HW.out.below hb); clear hb HW
    go_wp2_with fail
    go_loopw [9, 18] (fun _ i wr => ∃ j : Nat, j ≤ 40 ∧ i = .int .i64 j ∧ Hid (BoxW w a b wr)) (fun _ i _ => 40 - (intOf i).toNat)
    case atStart => exact ⟨0, by omega, rfl, hQ⟩
    clear hQ
    case round =>
      obtain ⟨j, hj, rfl, hQ⟩ := hrel
      by_cases hlt : j < 40
      · have hc := (HLL.out.1.below hQ.out.2.2 HLL.out.1.1).2 j (by have := HLL.out.2.1; omega)
        have hsz := HLL.out.2.2 (l.getD j ByteArray.empty) (by have := HLL.out.2.1; rw [List.getD_eq_getElem?_getD, List.getElem?_eq_getElem (show j < l.length by omega)]; exact List.getElem_mem _)
        obtain ⟨s, es⟩ : ∃ s, l.getD j ByteArray.empty = s := ⟨_, rfl⟩
        rw [es] at hc hsz
        have L1 := Lib.hid (fun w' h => leaf_c s hsz w' h)
        have L2 := Lib.hid (fun w' => refLeaf_c s hsz w')
        have hlf := (leaf_hash s).1
        obtain ⟨lf, elf⟩ : ∃ x, Tree.leaf s = x := ⟨_, rfl⟩
        rw [elf] at L1 L2 hlf
        have hql := fun w' => hash_eq lf lf hlf hlf w'
        simp only [beq_self_eq_true] at hql
        unfold hashV at L1 L2
        have HLT := Lib.hid hlt
        have i1 : (j : Int) < (40 : Int) := by omega
        clear hsz es elf hlf hlt
        go_wp2_with (first
          | (go_at_call 14; refine (L1.out _ (HT.out.below hQ.out.2.2)).mono ?_; rintro e w2 ⟨rfl, hb⟩; have hQ := Lib.hid (hQ.out.below hb); clear hb)
          | (go_at_call 15; refine (L2.out _).mono ?_; rintro e w3 ⟨rfl, hb⟩; have hQ := Lib.hid (hQ.out.below hb); clear hb))
        exact ⟨⟨j + 1, HLT.out, by go_num, hQ⟩, by have := HLT.out; simp only [intOf]; omega⟩
      · obtain rfl : j = 40 := by omega
        have i1 : ¬ (40 : Int) < (40 : Int) := by omega
        go_wp2_with fail
        refine wp_region_held_drew (S := fun w' => w'.rangeAt w.heap.size 0 (List.map (Value.int .u8) a) ∧ w'.rangeAt (w.heap.size + 1) 0 (List.map (Value.int .u8) b)) (by kernel_rfl) (by exact ⟨hQ.out.1.range, hQ.out.2.1.range⟩) (fun hHeld => ?_)
        refine wpAnyH_take (i := 0) (oi := _) (v := ?_) rfl (by kernel_rfl) (by kernel_rfl) (by kernel_rfl) (fun _ _ _ h => h) (Or.inl ⟨by kernel_rfl, ?_⟩) (by assumption) ?_
        rotate_left
        · (intro w hSw; (try dsimp only at hSw); go_simp; try with_reducible rfl)
        (try simp only [Act.put, List.setIfInBounds_toArray])
        refine wpAnyH_take (i := 1) (oi := _) (v := ?_) rfl (by kernel_rfl) (by kernel_rfl) (by kernel_rfl) (fun _ _ _ h => h) (Or.inl ⟨by kernel_rfl, ?_⟩) (by assumption) ?_
        rotate_left
        · (intro w hSw; (try dsimp only at hSw); go_simp; try with_reducible rfl)
        (try simp only [Act.put])
        refine wpAnyH_take (i := 2) (oi := _) (v := ?_) rfl (by kernel_rfl) (by kernel_rfl) (by kernel_rfl) (fun _ _ _ h => h) (Or.inl ⟨by kernel_rfl, ?_⟩) (by assumption) ?_
        rotate_left
        · (intro w hSw; (try dsimp only at hSw); go_simp; try with_reducible rfl)
        (try simp only [Act.put])
        refine wpAnyH_take (i := 4) (oi := _) (v := ?_) rfl (by kernel_rfl) (by kernel_rfl) (by kernel_rfl) (fun _ _ _ h => h) (Or.inl ⟨by kernel_rfl, ?_⟩) (by assumption) ?_
        rotate_left
        · (intro w hSw; (try dsimp only at hSw); go_simp; try with_reducible rfl)
        (try simp only [Act.put])
        refine wpAnyH_ready (rs := [3]) (by kernel_rfl) (by simp) ?_
        refine AllReadyH.cons (o := _) rfl (fun K hK => ?_) AllReadyH.nil
        go_simp
        go_at_call 16
        refine (CR.out _ (by first | exact hQ.out.2.2 | exact hQ.out.2.2.drew)).mono ?_; rintro e wa ⟨rfl, hb⟩
        have hQ := Lib.hid (BoxW.below (by first | exact hQ.out | exact hQ.out.drew) hb); clear hb
        refine hK.out _ _ (by exact ⟨hQ.out.1.range, hQ.out.2.1.range⟩) (fun hHeld => ?_)
        clear hK K
        (try simp only [Act.put, List.setIfInBounds_toArray, List.set_cons_zero, List.set_cons_succ])
        refine wpAnyH_ready (rs := [5]) (by kernel_rfl) (by simp) ?_
        refine AllReadyH.cons (o := _) rfl (fun K hK => ?_) AllReadyH.nil
        go_simp
        go_at_call 17
        refine (CS.out _ (by first | exact hQ.out.2.2 | exact hQ.out.2.2.drew)).mono ?_; rintro e wa ⟨rfl, hb⟩
        have hQ := Lib.hid (BoxW.below (by first | exact hQ.out | exact hQ.out.drew) hb); clear hb
        refine hK.out _ _ (by exact ⟨hQ.out.1.range, hQ.out.2.1.range⟩) (fun hHeld => ?_)
        clear hK K
        (try simp only [Act.put, List.setIfInBounds_toArray, List.set_cons_zero, List.set_cons_succ])
        refine wpAnyH_take (i := 6) (oi := _) (v := ?_) rfl (by kernel_rfl) (by kernel_rfl) (by kernel_rfl) (fun _ _ _ h => h) (Or.inl ⟨by kernel_rfl, ?_⟩) (by assumption) ?_
        rotate_left
        · (intro w hSw; (try dsimp only at hSw); go_simp; try with_reducible rfl)
        (try simp only [Act.put, List.setIfInBounds_toArray])
        refine wpAnyH_take (i := 7) (oi := _) (v := ?_) rfl (by kernel_rfl) (by kernel_rfl) (by kernel_rfl) (fun _ _ _ h => h) (Or.inl ⟨by kernel_rfl, ?_⟩) (by assumption) ?_
        rotate_left
        · (intro w hSw; (try dsimp only at hSw); go_simp; try with_reducible rfl)
        (try simp only [Act.put])
        refine wpAnyH_take (i := 8) (oi := _) (v := ?_) rfl (by kernel_rfl) (by kernel_rfl) (by kernel_rfl) (fun _ _ _ h => h) (Or.inl ⟨by kernel_rfl, ?_⟩) (by assumption) ?_
        rotate_left
        · (intro w hSw; (try dsimp only at hSw); go_simp; try with_reducible rfl)
        (try simp only [Act.put])
        refine wpAnyH_take (i := 9) (oi := _) (v := _) rfl (by kernel_rfl) (by kernel_rfl) (by kernel_rfl) (fun _ _ _ h => h) (yieldsIf_load_mid (by kernel_rfl) _ _ rfl (w.heap.size) 0 (by kernel_rfl) (List.map (Value.int .u8) a) _ (fun w h => h.1) hu rfl hia) (by assumption) ?_
        (try simp only [Act.put])
        refine wpAnyH_take (i := 10) (oi := _) (v := _) rfl (by kernel_rfl) (by kernel_rfl) (by kernel_rfl) (fun _ _ _ h => h) (yieldsIf_load_mid (by kernel_rfl) _ _ rfl (w.heap.size + 1) 0 (by kernel_rfl) (List.map (Value.int .u8) b) _ (fun w h => h.2) hu rfl hib) (by assumption) ?_
        (try simp only [Act.put])
        refine wpAnyH_take (i := 12) (oi := _) (v := _) rfl (by kernel_rfl) (by kernel_rfl) (by kernel_rfl) (fun _ _ _ h => h) (yieldsIf_load_mid (by kernel_rfl) _ _ rfl (w.heap.size) 0 (by kernel_rfl) (List.map (Value.int .u8) a) _ (fun w h => h.1) hu rfl hia) (by assumption) ?_
        (try simp only [Act.put])
        refine wpAnyH_take (i := 13) (oi := _) (v := _) rfl (by kernel_rfl) (by kernel_rfl) (by kernel_rfl) (fun _ _ _ h => h) (yieldsIf_load_mid (by kernel_rfl) _ _ rfl (w.heap.size + 1) 0 (by kernel_rfl) (List.map (Value.int .u8) b) _ (fun w h => h.2) hu rfl hib) (by assumption) ?_
        (try simp only [Act.put])
        refine wpAnyH_ready (rs := [11]) (by kernel_rfl) (by simp) ?_
        refine AllReadyH.cons (o := _) rfl (fun K hK => ?_) AllReadyH.nil
        go_simp
        go_at_call 18
        refine (CN.out _ (by first | exact hQ.out.2.2 | exact hQ.out.2.2.drew)).mono ?_; rintro e wa ⟨rfl, hb⟩
        have hQ := Lib.hid (BoxW.below (by first | exact hQ.out | exact hQ.out.drew) hb); clear hb
        refine hK.out _ _ (by exact ⟨hQ.out.1.range, hQ.out.2.1.range⟩) (fun hHeld => ?_)
        clear hK K
        (try simp only [Act.put, List.setIfInBounds_toArray, List.set_cons_zero, List.set_cons_succ])
        refine wpAnyH_ready (rs := [14]) (by kernel_rfl) (by simp) ?_
        refine AllReadyH.cons (o := _) rfl (fun K hK => ?_) AllReadyH.nil
        go_simp
        go_at_call 19
        refine (CM.out _ (by first | exact hQ.out.2.2 | exact hQ.out.2.2.drew)).mono ?_; rintro e wa ⟨rfl, hb⟩
        have hQ := Lib.hid (BoxW.below (by first | exact hQ.out | exact hQ.out.drew) hb); clear hb
        refine hK.out _ _ (by exact ⟨hQ.out.1.range, hQ.out.2.1.range⟩) (fun hHeld => ?_)
        clear hK K
        (try simp only [Act.put, List.setIfInBounds_toArray, List.set_cons_zero, List.set_cons_succ])
        refine wpAnyH_take (i := 15) (oi := _) (v := ?_) rfl (by kernel_rfl) (by kernel_rfl) (by kernel_rfl) (fun _ _ _ h => h) (Or.inl ⟨by kernel_rfl, ?_⟩) (by assumption) ?_
        rotate_left
        · (intro w hSw; (try dsimp only at hSw); go_simp; try with_reducible rfl)
        (try simp only [Act.put, List.setIfInBounds_toArray])
        refine wpAnyH_take (i := 16) (oi := _) (v := ?_) rfl (by kernel_rfl) (by kernel_rfl) (by kernel_rfl) (fun _ _ _ h => h) (Or.inl ⟨by kernel_rfl, ?_⟩) (by assumption) ?_
        rotate_left
        · (intro w hSw; (try dsimp only at hSw); go_simp; try with_reducible rfl)
        (try simp only [Act.put])
        refine wpAnyH_take (i := 17) (oi := _) (v := ?_) rfl (by kernel_rfl) (by kernel_rfl) (by kernel_rfl) (fun _ _ _ h => h) (Or.inl ⟨by kernel_rfl, ?_⟩) (by assumption) ?_
        rotate_left
        · (intro w hSw; (try dsimp only at hSw); go_simp; try with_reducible rfl)
        (try simp only [Act.put])
        refine wpAnyH_done (by kernel_rfl) ?_ _
        simp [Act.put]
        go_wp2
        go_ret
        exact ⟨rfl, hQ.out.2.2⟩

theorem treeRoots_c (w : World) (ht : Tabs w) (v : Value) (l : List ByteArray) (a b : List Int) (hv : StrsV w v l) (hss : ∀ s ∈ l, s.size ≤ 140737488351232) (ha : a.length = 32) (hb : b.length = 32) :
    Calls Tryd.prog 3 #[v, hashV a, hashV b] w fun e w' => e = .returned (.bool true) ∧ Below w.heap.size w w' := by
  rcases hv with ⟨rfl, a0, c, rfl⟩ | ⟨hl, b0, off, cap, rfl, hc, hm, hs⟩
  · exact treeRoots_none a0 c a b ha hb w ht
  · by_cases h : l.length ≤ 40
    · exact treeRoots_some l (l.take l.length) b0 off cap l.length l.length rfl hl (.inl ⟨h, rfl⟩) rfl hc hm hss a b ha hb w ht hs
    · exact treeRoots_some l (l.take 40) b0 off cap l.length 40 rfl hl (.inr ⟨h, rfl⟩) rfl hc hm hss a b ha hb w ht hs
end Go.Proofs.YtkjdfjpfghpofaaDoor
