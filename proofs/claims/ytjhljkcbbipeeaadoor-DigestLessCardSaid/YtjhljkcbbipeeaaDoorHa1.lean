/- The laws: DigestTexts. -/
import Derived.Test.YtjhljkcbbipeeaaDoorGw
import Derived.Test.YtjhljkcbbipeeaaDoorGz
import Derived.WideShapes
namespace Go.Proofs.YtjhljkcbbipeeaaDoor
open Go.RowKit

theorem Blk.range {k : IntKind} {w : World} {b : Nat} {T : TypeId} {l : List Int} (h : Blk k w b T l) : w.rangeAt b 0 (List.map (Value.int k) l) := fun j v hv => by
  rw [Nat.zero_add, cell_of_row _ _ _ _ _ _ h]
  simpa using hv
theorem LessW.below {w wr w' : World} {a b : List Int} (h : LessW w a b wr) (hb : Below wr.heap.size wr w') : LessW w a b w' := ⟨h.1.below hb h.1.lt, h.2.1.below hb h.2.1.lt, h.2.2.trans (hb.mono h.2.2.size)⟩
theorem LessW.drew {w wr : World} {a b : List Int} (h : LessW w a b wr) : LessW w a b wr.drew := ⟨h.1, h.2.1, h.2.2.drew⟩

theorem toList_inj (X Y : ByteArray) (h : X.toList = Y.toList) : X = Y := by
  rw [ByteArray.toList_eq, ByteArray.toList_eq] at h
  exact Go.WideShapes.bytes_inj h
theorem beq_texts (X Y : ByteArray) (p : Bool) (h : X = Y ↔ p = true) : (X.toList == Y.toList) = p := by
  by_cases e : X = Y
  · rw [h.1 e, e]; exact beq_self_eq_true _
  · have hp : p = false := by cases p with
      | false => rfl
      | true => exact absurd (h.2 rfl) e
    rw [hp]; exact beq_eq_false_iff_ne.2 (fun h => e (toList_inj X Y h))

set_option maxRecDepth 100000 in
set_option maxHeartbeats 8000000 in
theorem digestTexts_c (a b : List Int) (ha : Sha.Hash a) (hb : Sha.Hash b) (w : World) (ht : Tabs w) :
    Calls Tryd.prog 6 #[hashV a, hashV b] w fun e w' => e = .returned (.bool true) ∧ Below w.heap.size w w' := by
  have HT := Lib.hid ht
  obtain ⟨cs, hc⟩ : ∃ cs, (a.map (Value.int .u8)).toArray = cs := ⟨_, rfl⟩
  obtain ⟨ds, hd⟩ : ∃ cs, (b.map (Value.int .u8)).toArray = cs := ⟨_, rfl⟩
  have z1 : cs.size = 32 := by rw [← hc]; simp [ha.1]
  have z2 : ds.size = 32 := by rw [← hd]; simp [hb.1]
  have HW := Lib.hid (lessW_start w a b cs ds hc hd)
  unfold hashV
  rw [hc, hd]
  have A1 := Lib.hid (fun w' => text_c a ha w')
  have A2 := Lib.hid (fun w' => refText_c a ha w')
  have B1 := Lib.hid (fun w' => text_c b hb w')
  have hX := Sha.text_size a
  have hq := fun w' => hash_eq a b ha.1 hb.1 w'
  have hinj : Sha.text a = Sha.text b ↔ (a == b) = true := ⟨fun h => beq_iff_eq.2 (Sha.text_inj a b ha hb h), fun h => by rw [beq_iff_eq.1 h]⟩
  obtain ⟨X, eX⟩ : ∃ X, Sha.text a = X := ⟨_, rfl⟩
  obtain ⟨Y, eY⟩ : ∃ X, Sha.text b = X := ⟨_, rfl⟩
  obtain ⟨r, er⟩ : ∃ r, (a == b) = r := ⟨_, rfl⟩
  rw [eX, eY, er] at hinj
  have hr : (X.toList == Y.toList) = r := beq_texts X Y r hinj
  rw [eX] at A1 A2 hX; rw [eY] at B1
  simp only [er] at hq
  have hu := Tryd.underlying24
  have hia : (Tryd.prog.info? 24).map (·.size) = some (List.map (Value.int .u8) a).length := by rw [List.length_map, ha.1]; kernel_rfl
  have hib : (Tryd.prog.info? 24).map (·.size) = some (List.map (Value.int .u8) b).length := by rw [List.length_map, hb.1]; kernel_rfl
  clear ht hc hd ha hb eX eY er hinj
  go_enter Tryd.func6, Tryd.ntmps6
  go_wp2_with fail
  refine (sanity_c _ (HT.out.below HW.out.2.2)).mono ?_; rintro e w1 ⟨rfl, hb⟩
  have hN := Lib.hid (HW.out.below hb); clear hb
  go_wp2_with fail
  have s0 := hN.out.1.range
  have s1 := hN.out.2.1.range
  refine wp_region_held_drew (S := fun w' => w'.rangeAt w.heap.size 0 (List.map (Value.int .u8) a) ∧ w'.rangeAt (w.heap.size + 1) 0 (List.map (Value.int .u8) b)) (by kernel_rfl) (by exact ⟨hN.out.1.range, hN.out.2.1.range⟩) (fun hHeld => ?_)
  refine wpAnyH_take (i := 0) (oi := _) (v := ?_) rfl (by kernel_rfl) (by kernel_rfl) (by kernel_rfl) (fun _ _ _ h => h) (Or.inl ⟨by rfl, ?_⟩) (by assumption) ?_
  rotate_left
  · (intro w hSw; (try dsimp only at hSw); go_simp; try with_reducible rfl)
  (try simp only [Act.put, List.setIfInBounds_toArray, List.set_cons_zero, List.set_cons_succ])
  refine wpAnyH_take (i := 1) (oi := _) (v := ?_) rfl (by kernel_rfl) (by kernel_rfl) (by kernel_rfl) (fun _ _ _ h => h) (Or.inl ⟨by rfl, ?_⟩) (by assumption) ?_
  rotate_left
  · (intro w hSw; (try dsimp only at hSw); go_simp; try with_reducible rfl)
  (try simp only [Act.put, List.setIfInBounds_toArray, List.set_cons_zero, List.set_cons_succ])
  refine wpAnyH_take (i := 2) (oi := _) (v := _) rfl (by kernel_rfl) (by kernel_rfl) (by kernel_rfl) (fun _ _ _ h => h) (yieldsIf_load_mid (by rfl) _ _ rfl _ _ rfl (List.map (Value.int .u8) a) _ (fun w h => h.1) hu rfl hia) (by assumption) ?_
  (try simp only [Act.put, List.setIfInBounds_toArray, List.set_cons_zero, List.set_cons_succ])
  refine wpAnyH_take (i := 4) (oi := _) (v := _) rfl (by kernel_rfl) (by kernel_rfl) (by kernel_rfl) (fun _ _ _ h => h) (yieldsIf_load_mid (by rfl) _ _ rfl _ _ rfl (List.map (Value.int .u8) a) _ (fun w h => h.1) hu rfl hia) (by assumption) ?_
  (try simp only [Act.put, List.setIfInBounds_toArray, List.set_cons_zero, List.set_cons_succ])
  refine wpAnyH_ready (rs := [3]) (by kernel_rfl) (by simp) ?_
  refine AllReadyH.cons (o := _) rfl (fun K hK => ?_) AllReadyH.nil
  go_simp
  go_at_call 16
  refine (A1.out _).mono ?_; rintro e wa ⟨rfl, hb⟩
  have hN := Lib.hid (LessW.below (by first | exact hN.out | exact hN.out.drew) hb); clear hb
  refine hK.out _ _ (by exact ⟨hN.out.1.range, hN.out.2.1.range⟩) (fun hHeld => ?_)
  clear hK K
  (try simp only [Act.put, List.setIfInBounds_toArray, List.set_cons_zero, List.set_cons_succ])
  refine wpAnyH_ready (rs := [5]) (by kernel_rfl) (by simp) ?_
  refine AllReadyH.cons (o := _) rfl (fun K hK => ?_) AllReadyH.nil
  go_simp
  go_at_call 17
  refine (A2.out _).mono ?_; rintro e wa ⟨rfl, hb⟩
  have hN := Lib.hid (LessW.below (by first | exact hN.out | exact hN.out.drew) hb); clear hb
  refine hK.out _ _ (by exact ⟨hN.out.1.range, hN.out.2.1.range⟩) (fun hHeld => ?_)
  clear hK K
  (try simp only [Act.put, List.setIfInBounds_toArray, List.set_cons_zero, List.set_cons_succ])
  refine wpAnyH_take (i := 6) (oi := _) (v := ?_) rfl (by kernel_rfl) (by kernel_rfl) (by kernel_rfl) (fun _ _ _ h => h) (Or.inl ⟨by rfl, ?_⟩) (by assumption) ?_
  rotate_left
  · (intro w hSw; (try dsimp only at hSw); go_simp; try with_reducible rfl)
  (try simp only [Act.put, List.setIfInBounds_toArray, List.set_cons_zero, List.set_cons_succ])
  refine wpAnyH_take (i := 7) (oi := _) (v := ?_) rfl (by kernel_rfl) (by kernel_rfl) (by kernel_rfl) (fun _ _ _ h => h) (Or.inl ⟨by rfl, ?_⟩) (by assumption) ?_
  rotate_left
  · (intro w hSw; (try dsimp only at hSw); go_simp; try with_reducible rfl)
  (try simp only [Act.put, List.setIfInBounds_toArray, List.set_cons_zero, List.set_cons_succ])
  refine wpAnyH_take (i := 8) (oi := _) (v := ?_) rfl (by kernel_rfl) (by kernel_rfl) (by kernel_rfl) (fun _ _ _ h => h) (Or.inl ⟨by rfl, ?_⟩) (by assumption) ?_
  rotate_left
  · (intro w hSw; (try dsimp only at hSw); go_simp; try with_reducible rfl)
  (try simp only [Act.put, List.setIfInBounds_toArray, List.set_cons_zero, List.set_cons_succ])
  refine wpAnyH_take (i := 9) (oi := _) (v := _) rfl (by kernel_rfl) (by kernel_rfl) (by kernel_rfl) (fun _ _ _ h => h) (yieldsIf_load_mid (by rfl) _ _ rfl _ _ rfl (List.map (Value.int .u8) a) _ (fun w h => h.1) hu rfl hia) (by assumption) ?_
  (try simp only [Act.put, List.setIfInBounds_toArray, List.set_cons_zero, List.set_cons_succ])
  refine wpAnyH_ready (rs := [10]) (by kernel_rfl) (by simp) ?_
  refine AllReadyH.cons (o := _) rfl (fun K hK => ?_) AllReadyH.nil
  go_simp
  go_at_call 16
  refine (A1.out _).mono ?_; rintro e wa ⟨rfl, hb⟩
  have hN := Lib.hid (LessW.below (by first | exact hN.out | exact hN.out.drew) hb); clear hb
  refine hK.out _ _ (by exact ⟨hN.out.1.range, hN.out.2.1.range⟩) (fun hHeld => ?_)
  clear hK K
  (try simp only [Act.put, List.setIfInBounds_toArray, List.set_cons_zero, List.set_cons_succ])
  refine wpAnyH_take (i := 11) (oi := _) (v := ?_) rfl (by kernel_rfl) (by kernel_rfl) (by kernel_rfl) (fun _ _ _ h => h) (Or.inl ⟨by rfl, ?_⟩) (by assumption) ?_
  rotate_left
  · (intro w hSw; (try dsimp only at hSw); go_simp; try with_reducible rfl)
  (try simp only [Act.put, List.setIfInBounds_toArray, List.set_cons_zero, List.set_cons_succ])
  refine wpAnyH_take (i := 12) (oi := _) (v := ?_) rfl (by kernel_rfl) (by kernel_rfl) (by kernel_rfl) (fun _ _ _ h => h) (Or.inl ⟨by rfl, ?_⟩) (by assumption) ?_
  rotate_left
  · (intro w hSw; (try dsimp only at hSw); go_simp; try with_reducible rfl)
  (try simp only [Act.put, List.setIfInBounds_toArray, List.set_cons_zero, List.set_cons_succ])
  refine wpAnyH_take (i := 13) (oi := _) (v := ?_) rfl (by kernel_rfl) (by kernel_rfl) (by kernel_rfl) (fun _ _ _ h => h) (Or.inl ⟨by rfl, ?_⟩) (by assumption) ?_
  rotate_left
  · (intro w hSw; (try dsimp only at hSw); go_simp; try with_reducible rfl)
  (try simp only [Act.put, List.setIfInBounds_toArray, List.set_cons_zero, List.set_cons_succ])
  refine wpAnyH_take (i := 14) (oi := _) (v := ?_) rfl (by kernel_rfl) (by kernel_rfl) (by kernel_rfl) (fun _ _ _ h => h) (Or.inl ⟨by rfl, ?_⟩) (by assumption) ?_
  rotate_left
  · (intro w hSw; (try dsimp only at hSw); go_simp; try with_reducible rfl)
  (try simp only [Act.put, List.setIfInBounds_toArray, List.set_cons_zero, List.set_cons_succ])
  refine wpAnyH_take (i := 15) (oi := _) (v := _) rfl (by kernel_rfl) (by kernel_rfl) (by kernel_rfl) (fun _ _ _ h => h) (yieldsIf_load_mid (by rfl) _ _ rfl _ _ rfl (List.map (Value.int .u8) a) _ (fun w h => h.1) hu rfl hia) (by assumption) ?_
  (try simp only [Act.put, List.setIfInBounds_toArray, List.set_cons_zero, List.set_cons_succ])
  refine wpAnyH_take (i := 17) (oi := _) (v := _) rfl (by kernel_rfl) (by kernel_rfl) (by kernel_rfl) (fun _ _ _ h => h) (yieldsIf_load_mid (by rfl) _ _ rfl _ _ rfl (List.map (Value.int .u8) b) _ (fun w h => h.2) hu rfl hib) (by assumption) ?_
  (try simp only [Act.put, List.setIfInBounds_toArray, List.set_cons_zero, List.set_cons_succ])
  refine wpAnyH_take (i := 20) (oi := _) (v := _) rfl (by kernel_rfl) (by kernel_rfl) (by kernel_rfl) (fun _ _ _ h => h) (yieldsIf_load_mid (by rfl) _ _ rfl _ _ rfl (List.map (Value.int .u8) a) _ (fun w h => h.1) hu rfl hia) (by assumption) ?_
  (try simp only [Act.put, List.setIfInBounds_toArray, List.set_cons_zero, List.set_cons_succ])
  refine wpAnyH_take (i := 21) (oi := _) (v := _) rfl (by kernel_rfl) (by kernel_rfl) (by kernel_rfl) (fun _ _ _ h => h) (yieldsIf_load_mid (by rfl) _ _ rfl _ _ rfl (List.map (Value.int .u8) b) _ (fun w h => h.2) hu rfl hib) (by assumption) ?_
  (try simp only [Act.put, List.setIfInBounds_toArray, List.set_cons_zero, List.set_cons_succ])
  refine wpAnyH_take (i := 22) (oi := _) (v := ?_) rfl (by kernel_rfl) (by kernel_rfl) (by kernel_rfl) (fun _ _ _ h => h) (Or.inl ⟨by rfl, ?_⟩) (by assumption) ?_
  rotate_left
  · (intro w hSw; (try dsimp only at hSw); go_simp; try with_reducible rfl)
  (try simp only [Act.put, List.setIfInBounds_toArray, List.set_cons_zero, List.set_cons_succ])
  refine wpAnyH_ready (rs := [16]) (by kernel_rfl) (by simp) ?_
  refine AllReadyH.cons (o := _) rfl (fun K hK => ?_) AllReadyH.nil
  go_simp
  go_at_call 16
  refine (A1.out _).mono ?_; rintro e wa ⟨rfl, hb⟩
  have hN := Lib.hid (LessW.below (by first | exact hN.out | exact hN.out.drew) hb); clear hb
  refine hK.out _ _ (by exact ⟨hN.out.1.range, hN.out.2.1.range⟩) (fun hHeld => ?_)
  clear hK K
  (try simp only [Act.put, List.setIfInBounds_toArray, List.set_cons_zero, List.set_cons_succ])
  refine wpAnyH_ready (rs := [18]) (by kernel_rfl) (by simp) ?_
  refine AllReadyH.cons (o := _) rfl (fun K hK => ?_) AllReadyH.nil
  go_simp
  go_at_call 16
  refine (B1.out _).mono ?_; rintro e wa ⟨rfl, hb⟩
  have hN := Lib.hid (LessW.below (by first | exact hN.out | exact hN.out.drew) hb); clear hb
  refine hK.out _ _ (by exact ⟨hN.out.1.range, hN.out.2.1.range⟩) (fun hHeld => ?_)
  clear hK K
  (try simp only [Act.put, List.setIfInBounds_toArray, List.set_cons_zero, List.set_cons_succ])
  refine wpAnyH_take (i := 19) (oi := _) (v := ?_) rfl (by kernel_rfl) (by kernel_rfl) (by kernel_rfl) (fun _ _ _ h => h) (Or.inl ⟨by rfl, ?_⟩) (by assumption) ?_
  rotate_left
  · (intro w hSw; (try dsimp only at hSw); go_simp; try with_reducible rfl)
  (try simp only [Act.put, List.setIfInBounds_toArray, List.set_cons_zero, List.set_cons_succ])
  refine wpAnyH_take (i := 23) (oi := _) (v := ?_) rfl (by kernel_rfl) (by kernel_rfl) (by kernel_rfl) (fun _ _ _ h => h) (Or.inl ⟨by rfl, ?_⟩) (by assumption) ?_
  rotate_left
  · (intro w hSw; (try dsimp only at hSw); go_simp; try with_reducible rfl)
  (try simp only [Act.put, List.setIfInBounds_toArray, List.set_cons_zero, List.set_cons_succ])
  refine wpAnyH_take (i := 24) (oi := _) (v := ?_) rfl (by kernel_rfl) (by kernel_rfl) (by kernel_rfl) (fun _ _ _ h => h) (Or.inl ⟨by rfl, ?_⟩) (by assumption) ?_
  rotate_left
  · (intro w hSw; (try dsimp only at hSw); go_simp; try with_reducible rfl)
  (try simp only [Act.put, List.setIfInBounds_toArray, List.set_cons_zero, List.set_cons_succ])
  refine wpAnyH_take (i := 25) (oi := _) (v := ?_) rfl (by kernel_rfl) (by kernel_rfl) (by kernel_rfl) (fun _ _ _ h => h) (Or.inl ⟨by rfl, ?_⟩) (by assumption) ?_
  rotate_left
  · (intro w hSw; (try dsimp only at hSw); go_simp; try with_reducible rfl)
  (try simp only [Act.put, List.setIfInBounds_toArray, List.set_cons_zero, List.set_cons_succ])
  refine wpAnyH_done (by kernel_rfl) ?_ _
  simp [Act.put]
  go_wp2
  go_ret
  exact ⟨rfl, hN.out.2.2⟩
end Go.Proofs.YtjhljkcbbipeeaaDoor
