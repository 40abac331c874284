/- The laws: DigestLess. -/
import Derived.Test.YtjhljkcbbipeeaaDoorHa1
import Derived.Test.YtjhljkcbbipeeaaDoorHa0
namespace Go.Proofs.YtjhljkcbbipeeaaDoor
open Go.RowKit

theorem LessW.set2 {w wr : World} {a b : List Int} (h : LessW w a b wr) (j : Nat) (x : Int) : LessW w a (b.set j x) (wr.setCell ⟨w.heap.size + 1, j, none⟩ (.int .u8 x)) :=
  ⟨h.1.other _ _ (by omega : w.heap.size ≠ w.heap.size + 1), h.2.1.set j x, h.2.2.setCell (by omega : w.heap.size ≤ w.heap.size + 1) _⟩

set_option maxRecDepth 100000 in
set_option maxHeartbeats 16000000 in
theorem less_one (a b : List Int) (ha : Sha.Hash a) (hb : Sha.Hash b) (same : Int) (r : Nat) (hr33 : r ≤ 32) (CM : Hid (∀ w', Calls Tryd.prog 15 #[.int .i64 same, .int .i64 33] w' fun e w'' => e = .returned (.int .i64 (r : Int)) ∧ w'' = w'))
    (hx : Sha.lexLt a (Sha.mixN a b r) = true) (hy : Sha.lexLt (Sha.mixN a b r) a = false) (he : (a == Sha.mixN a b r) = false) (w : World) (ht : Tabs w) :
    Calls Tryd.prog 8 #[hashV a, hashV b, .int .i64 same] w fun e w' => e = .returned (.bool true) ∧ Below w.heap.size w w' := by
  have HT := Lib.hid ht
  obtain ⟨cs, hc⟩ : ∃ cs, (a.map (Value.int .u8)).toArray = cs := ⟨_, rfl⟩
  obtain ⟨ds, hd⟩ : ∃ cs, (b.map (Value.int .u8)).toArray = cs := ⟨_, rfl⟩
  have z1 : cs.size = 32 := by rw [← hc]; simp [ha.1]
  have z2 : ds.size = 32 := by rw [← hd]; simp [hb.1]
  have HW := Lib.hid (lessW_start w a b cs ds hc hd)
  have HA := Lib.hid (And.intro ha hb)
  have HR := Lib.hid hr33
  have hc1 := Sha.mixN_hash a b ha hb r
  have P1 := Lib.hid (fun w' => less_c a (Sha.mixN a b r) ha.1 hc1.1 w')
  have P2 := Lib.hid (fun w' => less_c (Sha.mixN a b r) a hc1.1 ha.1 w')
  have R1 := Lib.hid (fun w' => refLess_c a (Sha.mixN a b r) ha.1 hc1.1 w')
  have R2 := Lib.hid (fun w' => refLess_c (Sha.mixN a b r) a hc1.1 ha.1 w')
  have T1 := Lib.hid (fun w' => text_c a ha w')
  have T2 := Lib.hid (fun w' => text_c (Sha.mixN a b r) hc1 w')
  have hq := fun w' => hash_eq a (Sha.mixN a b r) ha.1 hc1.1 w'
  have hless := Sha.text_less a (Sha.mixN a b r) ha hc1
  simp only [he] at hq
  rw [hx] at P1 R1 hless; rw [hy] at P2 R2
  obtain ⟨X, eX⟩ : ∃ X, Sha.text a = X := ⟨_, rfl⟩
  obtain ⟨Y, eY⟩ : ∃ X, Sha.text (Sha.mixN a b r) = X := ⟨_, rfl⟩
  rw [eX] at T1 hless; rw [eY] at T2 hless
  have hu := Tryd.underlying24
  have hia : (Tryd.prog.info? 24).map (·.size) = some (List.map (Value.int .u8) a).length := by rw [List.length_map, ha.1]; kernel_rfl
  have hic : (Tryd.prog.info? 24).map (·.size) = some (List.map (Value.int .u8) (Sha.mixN a b r)).length := by rw [List.length_map, hc1.1]; kernel_rfl
  have HU := Lib.hid (And.intro hu (And.intro hia hic))
  have HC1 := Lib.hid hc1.1
  unfold hashV
  rw [hc, hd]
  clear ht hc hd ha hb hx hy he eX eY hu hia hic hc1 hr33
  go_enter Tryd.func8, Tryd.ntmps8
  go_wp2_with fail
  refine (sanity_c _ (HT.out.below HW.out.2.2)).mono ?_; rintro e w1 ⟨rfl, hb⟩
  have hN := Lib.hid (HW.out.below hb); clear hb
  go_wp2_with fail
  go_loopw [8] (fun i wr => ∃ n : Nat, n ≤ r ∧ i = .int .i64 n ∧ Hid (LessW w a (Sha.mixN a b n) wr)) (fun i _ => r - (intOf i).toNat)
  case atStart => exact ⟨0, by omega, rfl, hN⟩
  clear hN HW
  case round =>
    obtain ⟨n, hn, rfl, hM⟩ := hrel
    by_cases hlt : n < r
    · have hr3 := HR.out
      have c1 := hM.out.1.cell n (by rw [HA.out.1.1]; omega)
      have c2 := hM.out.2.1.cell n (by rw [(Sha.mixN_hash a b HA.out.1 HA.out.2 n).1]; omega)
      have f2 := hM.out.2.1.free n
      obtain ⟨x, hx⟩ : ∃ x, a.getD n 0 = x := ⟨_, rfl⟩
      obtain ⟨y, hy⟩ : ∃ x, (Sha.mixN a b n).getD n 0 = x := ⟨_, rfl⟩
      rw [hx] at c1; rw [hy] at c2
      have HX := Lib.hid (And.intro hx hlt)
      have i1 : (n : Int) < (r : Int) := by omega
      have i2 : (n : Int) < 32 := by omega
      have i0 : (0 : Int) ≤ (n : Int) := by omega
      clear hx hy hq hless
      go_wp2_with fail
      refine (CM.out _).mono ?_; rintro e w2 ⟨rfl, rfl⟩
      go_wp2_with fail
      refine ⟨⟨n + 1, HX.out.2, by go_num, Lib.hid ?_⟩, by have := HX.out.2; simp only [intOf]; omega⟩
      have e := hM.out.set2 n x
      rw [Sha.mixN, HX.out.1]
      exact e
    · obtain rfl : n = r := by omega
      have i1 : ¬ (n : Int) < (n : Int) := by omega
      clear hlt hn
      go_wp2_with fail
      refine (CM.out _).mono ?_; rintro e w2 ⟨rfl, rfl⟩
      obtain ⟨c, hcc⟩ : ∃ c, Sha.mixN a b n = c := ⟨_, rfl⟩
      rw [hcc] at hM P1 P2 R1 R2 T2 HU HC1
      simp only [hcc] at hq
      have hN := hM
      clear hM hcc
      go_wp2_with (first
        | refine load_blk hN.out.1 rfl _ rfl rfl 32 5 (by kernel_rfl) (by rw [HA.out.1.1]; kernel_rfl) ?_
        | refine load_blk hN.out.2.1 rfl _ rfl rfl 32 5 (by kernel_rfl) (by rw [HC1.out]; kernel_rfl) ?_)
      refine (P1.out _).mono ?_; rintro e wa ⟨rfl, hb⟩
      have hN := Lib.hid (hN.out.below hb); clear hb
      go_wp2_with (first
        | refine load_blk hN.out.1 rfl _ rfl rfl 32 5 (by kernel_rfl) (by rw [HA.out.1.1]; kernel_rfl) ?_
        | refine load_blk hN.out.2.1 rfl _ rfl rfl 32 5 (by kernel_rfl) (by rw [HC1.out]; kernel_rfl) ?_)
      refine (P2.out _).mono ?_; rintro e wb ⟨rfl, hb⟩
      have hN := Lib.hid (hN.out.below hb); clear hb
      go_wp2_with fail
      obtain ⟨hu, hia, hic⟩ := HU.out
      refine wp_region_held_drew (S := fun w' => w'.rangeAt w.heap.size 0 (List.map (Value.int .u8) a) ∧ w'.rangeAt (w.heap.size + 1) 0 (List.map (Value.int .u8) c)) (by kernel_rfl) (by exact ⟨hN.out.1.range, hN.out.2.1.range⟩) (fun hHeld => ?_)
      refine wpAnyH_take (i := 0) (oi := _) (v := ?_) rfl (by kernel_rfl) (by kernel_rfl) (by kernel_rfl) (fun _ _ _ h => h) (Or.inl ⟨by kernel_rfl, ?_⟩) (by assumption) ?_
      rotate_left
      · (intro w hSw; (try dsimp only at hSw); go_simp; try with_reducible rfl)
      (try simp only [Act.put, List.setIfInBounds_toArray])
      refine wpAnyH_take (i := 1) (oi := _) (v := ?_) rfl (by kernel_rfl) (by kernel_rfl) (by kernel_rfl) (fun _ _ _ h => h) (Or.inl ⟨by kernel_rfl, ?_⟩) (by assumption) ?_
      rotate_left
      · (intro w hSw; (try dsimp only at hSw); go_simp; try with_reducible rfl)
      (try simp only [Act.put])
      refine wpAnyH_take (i := 2) (oi := _) (v := ?_) rfl (by kernel_rfl) (by kernel_rfl) (by kernel_rfl) (fun _ _ _ h => h) (Or.inl ⟨by kernel_rfl, ?_⟩) (by assumption) ?_
      rotate_left
      · (intro w hSw; (try dsimp only at hSw); go_simp; try with_reducible rfl)
      (try simp only [Act.put])
      refine wpAnyH_take (i := 3) (oi := _) (v := _) rfl (by kernel_rfl) (by kernel_rfl) (by kernel_rfl) (fun _ _ _ h => h) (yieldsIf_load_mid (by kernel_rfl) _ _ rfl (w.heap.size) 0 (by kernel_rfl) (List.map (Value.int .u8) a) _ (fun w h => h.1) hu rfl hia) (by assumption) ?_
      (try simp only [Act.put])
      refine wpAnyH_take (i := 4) (oi := _) (v := _) rfl (by kernel_rfl) (by kernel_rfl) (by kernel_rfl) (fun _ _ _ h => h) (yieldsIf_load_mid (by kernel_rfl) _ _ rfl (w.heap.size + 1) 0 (by kernel_rfl) (List.map (Value.int .u8) c) _ (fun w h => h.2) hu rfl hic) (by assumption) ?_
      (try simp only [Act.put])
      refine wpAnyH_ready (rs := [5]) (by kernel_rfl) (by simp) ?_
      refine AllReadyH.cons (o := _) rfl (fun K hK => ?_) AllReadyH.nil
      go_simp
      go_at_call 21
      refine (R1.out _).mono ?_; rintro e wa ⟨rfl, hb⟩
      have hN := Lib.hid (LessW.below (by first | exact hN.out | exact hN.out.drew) hb); clear hb
      refine hK.out _ _ (by exact ⟨hN.out.1.range, hN.out.2.1.range⟩) (fun hHeld => ?_)
      clear hK K
      (try simp only [Act.put, List.setIfInBounds_toArray, List.set_cons_zero, List.set_cons_succ])
      refine wpAnyH_take (i := 6) (oi := _) (v := ?_) rfl (by kernel_rfl) (by kernel_rfl) (by kernel_rfl) (fun _ _ _ h => h) (Or.inl ⟨by kernel_rfl, ?_⟩) (by assumption) ?_
      rotate_left
      · (intro w hSw; (try dsimp only at hSw); go_simp; try with_reducible rfl)
      (try simp only [Act.put, List.setIfInBounds_toArray])
      refine wpAnyH_take (i := 7) (oi := _) (v := ?_) rfl (by kernel_rfl) (by kernel_rfl) (by kernel_rfl) (fun _ _ _ h => h) (Or.inl ⟨by kernel_rfl, ?_⟩) (by assumption) ?_
      rotate_left
      · (intro w hSw; (try dsimp only at hSw); go_simp; try with_reducible rfl)
      (try simp only [Act.put])
      refine wpAnyH_take (i := 8) (oi := _) (v := ?_) rfl (by kernel_rfl) (by kernel_rfl) (by kernel_rfl) (fun _ _ _ h => h) (Or.inl ⟨by kernel_rfl, ?_⟩) (by assumption) ?_
      rotate_left
      · (intro w hSw; (try dsimp only at hSw); go_simp; try with_reducible rfl)
      (try simp only [Act.put])
      refine wpAnyH_take (i := 9) (oi := _) (v := ?_) rfl (by kernel_rfl) (by kernel_rfl) (by kernel_rfl) (fun _ _ _ h => h) (Or.inl ⟨by kernel_rfl, ?_⟩) (by assumption) ?_
      rotate_left
      · (intro w hSw; (try dsimp only at hSw); go_simp; try with_reducible rfl)
      (try simp only [Act.put])
      refine wpAnyH_take (i := 10) (oi := _) (v := _) rfl (by kernel_rfl) (by kernel_rfl) (by kernel_rfl) (fun _ _ _ h => h) (yieldsIf_load_mid (by kernel_rfl) _ _ rfl (w.heap.size + 1) 0 (by kernel_rfl) (List.map (Value.int .u8) c) _ (fun w h => h.2) hu rfl hic) (by assumption) ?_
      (try simp only [Act.put])
      refine wpAnyH_take (i := 11) (oi := _) (v := _) rfl (by kernel_rfl) (by kernel_rfl) (by kernel_rfl) (fun _ _ _ h => h) (yieldsIf_load_mid (by kernel_rfl) _ _ rfl (w.heap.size) 0 (by kernel_rfl) (List.map (Value.int .u8) a) _ (fun w h => h.1) hu rfl hia) (by assumption) ?_
      (try simp only [Act.put])
      refine wpAnyH_ready (rs := [12]) (by kernel_rfl) (by simp) ?_
      refine AllReadyH.cons (o := _) rfl (fun K hK => ?_) AllReadyH.nil
      go_simp
      go_at_call 21
      refine (R2.out _).mono ?_; rintro e wa ⟨rfl, hb⟩
      have hN := Lib.hid (LessW.below (by first | exact hN.out | exact hN.out.drew) hb); clear hb
      refine hK.out _ _ (by exact ⟨hN.out.1.range, hN.out.2.1.range⟩) (fun hHeld => ?_)
      clear hK K
      (try simp only [Act.put, List.setIfInBounds_toArray, List.set_cons_zero, List.set_cons_succ])
      refine wpAnyH_take (i := 13) (oi := _) (v := ?_) rfl (by kernel_rfl) (by kernel_rfl) (by kernel_rfl) (fun _ _ _ h => h) (Or.inl ⟨by kernel_rfl, ?_⟩) (by assumption) ?_
      rotate_left
      · (intro w hSw; (try dsimp only at hSw); go_simp; try with_reducible rfl)
      (try simp only [Act.put, List.setIfInBounds_toArray])
      refine wpAnyH_take (i := 14) (oi := _) (v := ?_) rfl (by kernel_rfl) (by kernel_rfl) (by kernel_rfl) (fun _ _ _ h => h) (Or.inl ⟨by kernel_rfl, ?_⟩) (by assumption) ?_
      rotate_left
      · (intro w hSw; (try dsimp only at hSw); go_simp; try with_reducible rfl)
      (try simp only [Act.put])
      refine wpAnyH_take (i := 15) (oi := _) (v := ?_) rfl (by kernel_rfl) (by kernel_rfl) (by kernel_rfl) (fun _ _ _ h => h) (Or.inl ⟨by kernel_rfl, ?_⟩) (by assumption) ?_
      rotate_left
      · (intro w hSw; (try dsimp only at hSw); go_simp; try with_reducible rfl)
      (try simp only [Act.put])
      refine wpAnyH_take (i := 16) (oi := _) (v := ?_) rfl (by kernel_rfl) (by kernel_rfl) (by kernel_rfl) (fun _ _ _ h => h) (Or.inl ⟨by kernel_rfl, ?_⟩) (by assumption) ?_
      rotate_left
      · (intro w hSw; (try dsimp only at hSw); go_simp; try with_reducible rfl)
      (try simp only [Act.put])
      refine wpAnyH_take (i := 17) (oi := _) (v := _) rfl (by kernel_rfl) (by kernel_rfl) (by kernel_rfl) (fun _ _ _ h => h) (yieldsIf_load_mid (by kernel_rfl) _ _ rfl (w.heap.size) 0 (by kernel_rfl) (List.map (Value.int .u8) a) _ (fun w h => h.1) hu rfl hia) (by assumption) ?_
      (try simp only [Act.put])
      refine wpAnyH_take (i := 19) (oi := _) (v := _) rfl (by kernel_rfl) (by kernel_rfl) (by kernel_rfl) (fun _ _ _ h => h) (yieldsIf_load_mid (by kernel_rfl) _ _ rfl (w.heap.size + 1) 0 (by kernel_rfl) (List.map (Value.int .u8) c) _ (fun w h => h.2) hu rfl hic) (by assumption) ?_
      (try simp only [Act.put])
      refine wpAnyH_ready (rs := [18]) (by kernel_rfl) (by simp) ?_
      refine AllReadyH.cons (o := _) rfl (fun K hK => ?_) AllReadyH.nil
      go_simp
      go_at_call 16
      refine (T1.out _).mono ?_; rintro e wa ⟨rfl, hb⟩
      have hN := Lib.hid (LessW.below (by first | exact hN.out | exact hN.out.drew) hb); clear hb
      refine hK.out _ _ (by exact ⟨hN.out.1.range, hN.out.2.1.range⟩) (fun hHeld => ?_)
      clear hK K
      (try simp only [Act.put, List.setIfInBounds_toArray, List.set_cons_zero, List.set_cons_succ])
      refine wpAnyH_ready (rs := [20]) (by kernel_rfl) (by simp) ?_
      refine AllReadyH.cons (o := _) rfl (fun K hK => ?_) AllReadyH.nil
      go_simp
      go_at_call 16
      refine (T2.out _).mono ?_; rintro e wa ⟨rfl, hb⟩
      have hN := Lib.hid (LessW.below (by first | exact hN.out | exact hN.out.drew) hb); clear hb
      refine hK.out _ _ (by exact ⟨hN.out.1.range, hN.out.2.1.range⟩) (fun hHeld => ?_)
      clear hK K
      (try simp only [Act.put, List.setIfInBounds_toArray, List.set_cons_zero, List.set_cons_succ])
      refine wpAnyH_take (i := 21) (oi := _) (v := ?_) rfl (by kernel_rfl) (by kernel_rfl) (by kernel_rfl) (fun _ _ _ h => h) (Or.inl ⟨by kernel_rfl, ?_⟩) (by assumption) ?_
      rotate_left
      · (intro w hSw; (try dsimp only at hSw); go_simp; try with_reducible rfl)
      (try simp only [Act.put, List.setIfInBounds_toArray])
      refine wpAnyH_take (i := 22) (oi := _) (v := ?_) rfl (by kernel_rfl) (by kernel_rfl) (by kernel_rfl) (fun _ _ _ h => h) (Or.inl ⟨by kernel_rfl, ?_⟩) (by assumption) ?_
      rotate_left
      · (intro w hSw; (try dsimp only at hSw); go_simp; try with_reducible rfl)
      (try simp only [Act.put])
      refine wpAnyH_take (i := 23) (oi := _) (v := ?_) rfl (by kernel_rfl) (by kernel_rfl) (by kernel_rfl) (fun _ _ _ h => h) (Or.inl ⟨by kernel_rfl, ?_⟩) (by assumption) ?_
      rotate_left
      · (intro w hSw; (try dsimp only at hSw); go_simp; try with_reducible rfl)
      (try simp only [Act.put])
      refine wpAnyH_take (i := 24) (oi := _) (v := ?_) rfl (by kernel_rfl) (by kernel_rfl) (by kernel_rfl) (fun _ _ _ h => h) (Or.inl ⟨by kernel_rfl, ?_⟩) (by assumption) ?_
      rotate_left
      · (intro w hSw; (try dsimp only at hSw); go_simp; try with_reducible rfl)
      (try simp only [Act.put])
      refine wpAnyH_take (i := 25) (oi := _) (v := ?_) rfl (by kernel_rfl) (by kernel_rfl) (by kernel_rfl) (fun _ _ _ h => h) (Or.inl ⟨by kernel_rfl, ?_⟩) (by assumption) ?_
      rotate_left
      · (intro w hSw; (try dsimp only at hSw); go_simp; try with_reducible rfl)
      (try simp only [Act.put])
      refine wpAnyH_take (i := 26) (oi := _) (v := ?_) rfl (by kernel_rfl) (by kernel_rfl) (by kernel_rfl) (fun _ _ _ h => h) (Or.inl ⟨by kernel_rfl, ?_⟩) (by assumption) ?_
      rotate_left
      · (intro w hSw; (try dsimp only at hSw); go_simp; try with_reducible rfl)
      (try simp only [Act.put])
      refine wpAnyH_take (i := 27) (oi := _) (v := ?_) rfl (by kernel_rfl) (by kernel_rfl) (by kernel_rfl) (fun _ _ _ h => h) (Or.inl ⟨by kernel_rfl, ?_⟩) (by assumption) ?_
      rotate_left
      · (intro w hSw; (try dsimp only at hSw); go_simp; try with_reducible rfl)
      (try simp only [Act.put])
      refine wpAnyH_take (i := 28) (oi := _) (v := ?_) rfl (by kernel_rfl) (by kernel_rfl) (by kernel_rfl) (fun _ _ _ h => h) (Or.inl ⟨by kernel_rfl, ?_⟩) (by assumption) ?_
      rotate_left
      · (intro w hSw; (try dsimp only at hSw); go_simp; try with_reducible rfl)
      (try simp only [Act.put])
      refine wpAnyH_take (i := 29) (oi := _) (v := ?_) rfl (by kernel_rfl) (by kernel_rfl) (by kernel_rfl) (fun _ _ _ h => h) (Or.inl ⟨by kernel_rfl, ?_⟩) (by assumption) ?_
      rotate_left
      · (intro w hSw; (try dsimp only at hSw); go_simp; try with_reducible rfl)
      (try simp only [Act.put])
      refine wpAnyH_take (i := 30) (oi := _) (v := ?_) rfl (by kernel_rfl) (by kernel_rfl) (by kernel_rfl) (fun _ _ _ h => h) (Or.inl ⟨by kernel_rfl, ?_⟩) (by assumption) ?_
      rotate_left
      · (intro w hSw; (try dsimp only at hSw); go_simp; try with_reducible rfl)
      (try simp only [Act.put])
      refine wpAnyH_take (i := 31) (oi := _) (v := ?_) rfl (by kernel_rfl) (by kernel_rfl) (by kernel_rfl) (fun _ _ _ h => h) (Or.inl ⟨by kernel_rfl, ?_⟩) (by assumption) ?_
      rotate_left
      · (intro w hSw; (try dsimp only at hSw); go_simp; try with_reducible rfl)
      (try simp only [Act.put])
      refine wpAnyH_take (i := 32) (oi := _) (v := ?_) rfl (by kernel_rfl) (by kernel_rfl) (by kernel_rfl) (fun _ _ _ h => h) (Or.inl ⟨by kernel_rfl, ?_⟩) (by assumption) ?_
      rotate_left
      · (intro w hSw; (try dsimp only at hSw); go_simp; try with_reducible rfl)
      (try simp only [Act.put])
      refine wpAnyH_take (i := 33) (oi := _) (v := ?_) rfl (by kernel_rfl) (by kernel_rfl) (by kernel_rfl) (fun _ _ _ h => h) (Or.inl ⟨by kernel_rfl, ?_⟩) (by assumption) ?_
      rotate_left
      · (intro w hSw; (try dsimp only at hSw); go_simp; try with_reducible rfl)
      (try simp only [Act.put])
      refine wpAnyH_take (i := 34) (oi := _) (v := undef) rfl (by kernel_rfl) (by kernel_rfl) (by kernel_rfl) (fun _ _ _ h => h) (Or.inr ⟨by kernel_rfl, rfl⟩) (by assumption) ?_
      (try simp only [Act.put])
      refine wpAnyH_take (i := 35) (oi := _) (v := ?_) rfl (by kernel_rfl) (by kernel_rfl) (by kernel_rfl) (fun _ _ _ h => h) (Or.inl ⟨by kernel_rfl, ?_⟩) (by assumption) ?_
      rotate_left
      · (intro w hSw; (try dsimp only at hSw); go_simp; try with_reducible rfl)
      (try simp only [Act.put])
      refine wpAnyH_take (i := 36) (oi := _) (v := ?_) rfl (by kernel_rfl) (by kernel_rfl) (by kernel_rfl) (fun _ _ _ h => h) (Or.inl ⟨by kernel_rfl, ?_⟩) (by assumption) ?_
      rotate_left
      · (intro w hSw; (try dsimp only at hSw); go_simp; try with_reducible rfl)
      (try simp only [Act.put])
      refine wpAnyH_take (i := 37) (oi := _) (v := undef) rfl (by kernel_rfl) (by kernel_rfl) (by kernel_rfl) (fun _ _ _ h => h) (Or.inr ⟨by kernel_rfl, rfl⟩) (by assumption) ?_
      (try simp only [Act.put])
      refine wpAnyH_take (i := 38) (oi := _) (v := undef) rfl (by kernel_rfl) (by kernel_rfl) (by kernel_rfl) (fun _ _ _ h => h) (Or.inr ⟨by kernel_rfl, rfl⟩) (by assumption) ?_
      (try simp only [Act.put])
      refine wpAnyH_take (i := 39) (oi := _) (v := undef) rfl (by kernel_rfl) (by kernel_rfl) (by kernel_rfl) (fun _ _ _ h => h) (Or.inr ⟨by kernel_rfl, rfl⟩) (by assumption) ?_
      (try simp only [Act.put])
      refine wpAnyH_take (i := 40) (oi := _) (v := ?_) rfl (by kernel_rfl) (by kernel_rfl) (by kernel_rfl) (fun _ _ _ h => h) (Or.inl ⟨by kernel_rfl, ?_⟩) (by assumption) ?_
      rotate_left
      · (intro w hSw; (try dsimp only at hSw); go_simp; try with_reducible rfl)
      (try simp only [Act.put])
      refine wpAnyH_take (i := 41) (oi := _) (v := ?_) rfl (by kernel_rfl) (by kernel_rfl) (by kernel_rfl) (fun _ _ _ h => h) (Or.inl ⟨by kernel_rfl, ?_⟩) (by assumption) ?_
      rotate_left
      · (intro w hSw; (try dsimp only at hSw); go_simp; try with_reducible rfl)
      (try simp only [Act.put])
      refine wpAnyH_take (i := 42) (oi := _) (v := ?_) rfl (by kernel_rfl) (by kernel_rfl) (by kernel_rfl) (fun _ _ _ h => h) (Or.inl ⟨by kernel_rfl, ?_⟩) (by assumption) ?_
      rotate_left
      · (intro w hSw; (try dsimp only at hSw); go_simp; try with_reducible rfl)
      (try simp only [Act.put])
      refine wpAnyH_done (by kernel_rfl) ?_ _
      simp
      go_wp2
      go_ret
      exact ⟨rfl, hN.out.2.2⟩

set_option maxRecDepth 100000 in
set_option maxHeartbeats 16000000 in
theorem less_two (a b : List Int) (ha : Sha.Hash a) (hb : Sha.Hash b) (same : Int) (r : Nat) (hr33 : r ≤ 32) (CM : Hid (∀ w', Calls Tryd.prog 15 #[.int .i64 same, .int .i64 33] w' fun e w'' => e = .returned (.int .i64 (r : Int)) ∧ w'' = w'))
    (hx : Sha.lexLt a (Sha.mixN a b r) = false) (hy : Sha.lexLt (Sha.mixN a b r) a = true) (he : (a == Sha.mixN a b r) = false) (w : World) (ht : Tabs w) :
    Calls Tryd.prog 8 #[hashV a, hashV b, .int .i64 same] w fun e w' => e = .returned (.bool true) ∧ Below w.heap.size w w' := by
  have HT := Lib.hid ht
  obtain ⟨cs, hc⟩ : ∃ cs, (a.map (Value.int .u8)).toArray = cs := ⟨_, rfl⟩
  obtain ⟨ds, hd⟩ : ∃ cs, (b.map (Value.int .u8)).toArray = cs := ⟨_, rfl⟩
  have z1 : cs.size = 32 := by rw [← hc]; simp [ha.1]
  have z2 : ds.size = 32 := by rw [← hd]; simp [hb.1]
  have HW := Lib.hid (lessW_start w a b cs ds hc hd)
  have HA := Lib.hid (And.intro ha hb)
  have HR := Lib.hid hr33
  have hc1 := Sha.mixN_hash a b ha hb r
  have P1 := Lib.hid (fun w' => less_c a (Sha.mixN a b r) ha.1 hc1.1 w')
  have P2 := Lib.hid (fun w' => less_c (Sha.mixN a b r) a hc1.1 ha.1 w')
  have R1 := Lib.hid (fun w' => refLess_c a (Sha.mixN a b r) ha.1 hc1.1 w')
  have R2 := Lib.hid (fun w' => refLess_c (Sha.mixN a b r) a hc1.1 ha.1 w')
  have T1 := Lib.hid (fun w' => text_c a ha w')
  have T2 := Lib.hid (fun w' => text_c (Sha.mixN a b r) hc1 w')
  have hq := fun w' => hash_eq a (Sha.mixN a b r) ha.1 hc1.1 w'
  have hless := Sha.text_less a (Sha.mixN a b r) ha hc1
  simp only [he] at hq
  rw [hx] at P1 R1 hless; rw [hy] at P2 R2
  obtain ⟨X, eX⟩ : ∃ X, Sha.text a = X := ⟨_, rfl⟩
  obtain ⟨Y, eY⟩ : ∃ X, Sha.text (Sha.mixN a b r) = X := ⟨_, rfl⟩
  rw [eX] at T1 hless; rw [eY] at T2 hless
  have hu := Tryd.underlying24
  have hia : (Tryd.prog.info? 24).map (·.size) = some (List.map (Value.int .u8) a).length := by rw [List.length_map, ha.1]; kernel_rfl
  have hic : (Tryd.prog.info? 24).map (·.size) = some (List.map (Value.int .u8) (Sha.mixN a b r)).length := by rw [List.length_map, hc1.1]; kernel_rfl
  have HU := Lib.hid (And.intro hu (And.intro hia hic))
  have HC1 := Lib.hid hc1.1
  unfold hashV
  rw [hc, hd]
  clear ht hc hd ha hb hx hy he eX eY hu hia hic hc1 hr33
  go_enter Tryd.func8, Tryd.ntmps8
  go_wp2_with fail
  refine (sanity_c _ (HT.out.below HW.out.2.2)).mono ?_; rintro e w1 ⟨rfl, hb⟩
  have hN := Lib.hid (HW.out.below hb); clear hb
  go_wp2_with fail
  go_loopw [8] (fun i wr => ∃ n : Nat, n ≤ r ∧ i = .int .i64 n ∧ Hid (LessW w a (Sha.mixN a b n) wr)) (fun i _ => r - (intOf i).toNat)
  case atStart => exact ⟨0, by omega, rfl, hN⟩
  clear hN HW
  case round =>
    obtain ⟨n, hn, rfl, hM⟩ := hrel
    by_cases hlt : n < r
    · have hr3 := HR.out
      have c1 := hM.out.1.cell n (by rw [HA.out.1.1]; omega)
      have c2 := hM.out.2.1.cell n (by rw [(Sha.mixN_hash a b HA.out.1 HA.out.2 n).1]; omega)
      have f2 := hM.out.2.1.free n
      obtain ⟨x, hx⟩ : ∃ x, a.getD n 0 = x := ⟨_, rfl⟩
      obtain ⟨y, hy⟩ : ∃ x, (Sha.mixN a b n).getD n 0 = x := ⟨_, rfl⟩
      rw [hx] at c1; rw [hy] at c2
      have HX := Lib.hid (And.intro hx hlt)
      have i1 : (n : Int) < (r : Int) := by omega
      have i2 : (n : Int) < 32 := by omega
      have i0 : (0 : Int) ≤ (n : Int) := by omega
      clear hx hy hq hless
      go_wp2_with fail
      refine (CM.out _).mono ?_; rintro e w2 ⟨rfl, rfl⟩
      go_wp2_with fail
      refine ⟨⟨n + 1, HX.out.2, by go_num, Lib.hid ?_⟩, by have := HX.out.2; simp only [intOf]; omega⟩
      have e := hM.out.set2 n x
      rw [Sha.mixN, HX.out.1]
      exact e
    · obtain rfl : n = r := by omega
      have i1 : ¬ (n : Int) < (n : Int) := by omega
      clear hlt hn
      go_wp2_with fail
      refine (CM.out _).mono ?_; rintro e w2 ⟨rfl, rfl⟩
      obtain ⟨c, hcc⟩ : ∃ c, Sha.mixN a b n = c := ⟨_, rfl⟩
      rw [hcc] at hM P1 P2 R1 R2 T2 HU HC1
      simp only [hcc] at hq
      have hN := hM
      clear hM hcc
      go_wp2_with (first
        | refine load_blk hN.out.1 rfl _ rfl rfl 32 5 (by kernel_rfl) (by rw [HA.out.1.1]; kernel_rfl) ?_
        | refine load_blk hN.out.2.1 rfl _ rfl rfl 32 5 (by kernel_rfl) (by rw [HC1.out]; kernel_rfl) ?_)
      refine (P1.out _).mono ?_; rintro e wa ⟨rfl, hb⟩
      have hN := Lib.hid (hN.out.below hb); clear hb
      go_wp2_with (first
        | refine load_blk hN.out.1 rfl _ rfl rfl 32 5 (by kernel_rfl) (by rw [HA.out.1.1]; kernel_rfl) ?_
        | refine load_blk hN.out.2.1 rfl _ rfl rfl 32 5 (by kernel_rfl) (by rw [HC1.out]; kernel_rfl) ?_)
      refine (P2.out _).mono ?_; rintro e wb ⟨rfl, hb⟩
      have hN := Lib.hid (hN.out.below hb); clear hb
      go_wp2_with fail
      obtain ⟨hu, hia, hic⟩ := HU.out
      refine wp_region_held_drew (S := fun w' => w'.rangeAt w.heap.size 0 (List.map (Value.int .u8) a) ∧ w'.rangeAt (w.heap.size + 1) 0 (List.map (Value.int .u8) c)) (by kernel_rfl) (by exact ⟨hN.out.1.range, hN.out.2.1.range⟩) (fun hHeld => ?_)
      refine wpAnyH_take (i := 0) (oi := _) (v := ?_) rfl (by kernel_rfl) (by kernel_rfl) (by kernel_rfl) (fun _ _ _ h => h) (Or.inl ⟨by kernel_rfl, ?_⟩) (by assumption) ?_
      rotate_left
      · (intro w hSw; (try dsimp only at hSw); go_simp; try with_reducible rfl)
      (try simp only [Act.put, List.setIfInBounds_toArray])
      refine wpAnyH_take (i := 1) (oi := _) (v := ?_) rfl (by kernel_rfl) (by kernel_rfl) (by kernel_rfl) (fun _ _ _ h => h) (Or.inl ⟨by kernel_rfl, ?_⟩) (by assumption) ?_
      rotate_left
      · (intro w hSw; (try dsimp only at hSw); go_simp; try with_reducible rfl)
      (try simp only [Act.put])
      refine wpAnyH_take (i := 2) (oi := _) (v := ?_) rfl (by kernel_rfl) (by kernel_rfl) (by kernel_rfl) (fun _ _ _ h => h) (Or.inl ⟨by kernel_rfl, ?_⟩) (by assumption) ?_
      rotate_left
      · (intro w hSw; (try dsimp only at hSw); go_simp; try with_reducible rfl)
      (try simp only [Act.put])
      refine wpAnyH_take (i := 3) (oi := _) (v := _) rfl (by kernel_rfl) (by kernel_rfl) (by kernel_rfl) (fun _ _ _ h => h) (yieldsIf_load_mid (by kernel_rfl) _ _ rfl (w.heap.size) 0 (by kernel_rfl) (List.map (Value.int .u8) a) _ (fun w h => h.1) hu rfl hia) (by assumption) ?_
      (try simp only [Act.put])
      refine wpAnyH_take (i := 4) (oi := _) (v := _) rfl (by kernel_rfl) (by kernel_rfl) (by kernel_rfl) (fun _ _ _ h => h) (yieldsIf_load_mid (by kernel_rfl) _ _ rfl (w.heap.size + 1) 0 (by kernel_rfl) (List.map (Value.int .u8) c) _ (fun w h => h.2) hu rfl hic) (by assumption) ?_
      (try simp only [Act.put])
      refine wpAnyH_ready (rs := [5]) (by kernel_rfl) (by simp) ?_
      refine AllReadyH.cons (o := _) rfl (fun K hK => ?_) AllReadyH.nil
      go_simp
      go_at_call 21
      refine (R1.out _).mono ?_; rintro e wa ⟨rfl, hb⟩
      have hN := Lib.hid (LessW.below (by first | exact hN.out | exact hN.out.drew) hb); clear hb
      refine hK.out _ _ (by exact ⟨hN.out.1.range, hN.out.2.1.range⟩) (fun hHeld => ?_)
      clear hK K
      (try simp only [Act.put, List.setIfInBounds_toArray, List.set_cons_zero, List.set_cons_succ])
      refine wpAnyH_take (i := 6) (oi := _) (v := ?_) rfl (by kernel_rfl) (by kernel_rfl) (by kernel_rfl) (fun _ _ _ h => h) (Or.inl ⟨by kernel_rfl, ?_⟩) (by assumption) ?_
      rotate_left
      · (intro w hSw; (try dsimp only at hSw); go_simp; try with_reducible rfl)
      (try simp only [Act.put, List.setIfInBounds_toArray])
      refine wpAnyH_take (i := 7) (oi := _) (v := ?_) rfl (by kernel_rfl) (by kernel_rfl) (by kernel_rfl) (fun _ _ _ h => h) (Or.inl ⟨by kernel_rfl, ?_⟩) (by assumption) ?_
      rotate_left
      · (intro w hSw; (try dsimp only at hSw); go_simp; try with_reducible rfl)
      (try simp only [Act.put])
      refine wpAnyH_take (i := 8) (oi := _) (v := ?_) rfl (by kernel_rfl) (by kernel_rfl) (by kernel_rfl) (fun _ _ _ h => h) (Or.inl ⟨by kernel_rfl, ?_⟩) (by assumption) ?_
      rotate_left
      · (intro w hSw; (try dsimp only at hSw); go_simp; try with_reducible rfl)
      (try simp only [Act.put])
      refine wpAnyH_take (i := 9) (oi := _) (v := ?_) rfl (by kernel_rfl) (by kernel_rfl) (by kernel_rfl) (fun _ _ _ h => h) (Or.inl ⟨by kernel_rfl, ?_⟩) (by assumption) ?_
      rotate_left
      · (intro w hSw; (try dsimp only at hSw); go_simp; try with_reducible rfl)
      (try simp only [Act.put])
      refine wpAnyH_take (i := 10) (oi := _) (v := _) rfl (by kernel_rfl) (by kernel_rfl) (by kernel_rfl) (fun _ _ _ h => h) (yieldsIf_load_mid (by kernel_rfl) _ _ rfl (w.heap.size + 1) 0 (by kernel_rfl) (List.map (Value.int .u8) c) _ (fun w h => h.2) hu rfl hic) (by assumption) ?_
      (try simp only [Act.put])
      refine wpAnyH_take (i := 11) (oi := _) (v := _) rfl (by kernel_rfl) (by kernel_rfl) (by kernel_rfl) (fun _ _ _ h => h) (yieldsIf_load_mid (by kernel_rfl) _ _ rfl (w.heap.size) 0 (by kernel_rfl) (List.map (Value.int .u8) a) _ (fun w h => h.1) hu rfl hia) (by assumption) ?_
      (try simp only [Act.put])
      refine wpAnyH_ready (rs := [12]) (by kernel_rfl) (by simp) ?_
      refine AllReadyH.cons (o := _) rfl (fun K hK => ?_) AllReadyH.nil
      go_simp
      go_at_call 21
      refine (R2.out _).mono ?_; rintro e wa ⟨rfl, hb⟩
      have hN := Lib.hid (LessW.below (by first | exact hN.out | exact hN.out.drew) hb); clear hb
      refine hK.out _ _ (by exact ⟨hN.out.1.range, hN.out.2.1.range⟩) (fun hHeld => ?_)
      clear hK K
      (try simp only [Act.put, List.setIfInBounds_toArray, List.set_cons_zero, List.set_cons_succ])
      refine wpAnyH_take (i := 13) (oi := _) (v := ?_) rfl (by kernel_rfl) (by kernel_rfl) (by kernel_rfl) (fun _ _ _ h => h) (Or.inl ⟨by kernel_rfl, ?_⟩) (by assumption) ?_
      rotate_left
      · (intro w hSw; (try dsimp only at hSw); go_simp; try with_reducible rfl)
      (try simp only [Act.put, List.setIfInBounds_toArray])
      refine wpAnyH_take (i := 14) (oi := _) (v := ?_) rfl (by kernel_rfl) (by kernel_rfl) (by kernel_rfl) (fun _ _ _ h => h) (Or.inl ⟨by kernel_rfl, ?_⟩) (by assumption) ?_
      rotate_left
      · (intro w hSw; (try dsimp only at hSw); go_simp; try with_reducible rfl)
      (try simp only [Act.put])
      refine wpAnyH_take (i := 15) (oi := _) (v := ?_) rfl (by kernel_rfl) (by kernel_rfl) (by kernel_rfl) (fun _ _ _ h => h) (Or.inl ⟨by kernel_rfl, ?_⟩) (by assumption) ?_
      rotate_left
      · (intro w hSw; (try dsimp only at hSw); go_simp; try with_reducible rfl)
      (try simp only [Act.put])
      refine wpAnyH_take (i := 16) (oi := _) (v := ?_) rfl (by kernel_rfl) (by kernel_rfl) (by kernel_rfl) (fun _ _ _ h => h) (Or.inl ⟨by kernel_rfl, ?_⟩) (by assumption) ?_
      rotate_left
      · (intro w hSw; (try dsimp only at hSw); go_simp; try with_reducible rfl)
      (try simp only [Act.put])
      refine wpAnyH_take (i := 17) (oi := _) (v := _) rfl (by kernel_rfl) (by kernel_rfl) (by kernel_rfl) (fun _ _ _ h => h) (yieldsIf_load_mid (by kernel_rfl) _ _ rfl (w.heap.size) 0 (by kernel_rfl) (List.map (Value.int .u8) a) _ (fun w h => h.1) hu rfl hia) (by assumption) ?_
      (try simp only [Act.put])
      refine wpAnyH_take (i := 19) (oi := _) (v := _) rfl (by kernel_rfl) (by kernel_rfl) (by kernel_rfl) (fun _ _ _ h => h) (yieldsIf_load_mid (by kernel_rfl) _ _ rfl (w.heap.size + 1) 0 (by kernel_rfl) (List.map (Value.int .u8) c) _ (fun w h => h.2) hu rfl hic) (by assumption) ?_
      (try simp only [Act.put])
      refine wpAnyH_ready (rs := [18]) (by kernel_rfl) (by simp) ?_
      refine AllReadyH.cons (o := _) rfl (fun K hK => ?_) AllReadyH.nil
      go_simp
      go_at_call 16
      refine (T1.out _).mono ?_; rintro e wa ⟨rfl, hb⟩
      have hN := Lib.hid (LessW.below (by first | exact hN.out | exact hN.out.drew) hb); clear hb
      refine hK.out _ _ (by exact ⟨hN.out.1.range, hN.out.2.1.range⟩) (fun hHeld => ?_)
      clear hK K
      (try simp only [Act.put, List.setIfInBounds_toArray, List.set_cons_zero, List.set_cons_succ])
      refine wpAnyH_ready (rs := [20]) (by kernel_rfl) (by simp) ?_
      refine AllReadyH.cons (o := _) rfl (fun K hK => ?_) AllReadyH.nil
      go_simp
      go_at_call 16
      refine (T2.out _).mono ?_; rintro e wa ⟨rfl, hb⟩
      have hN := Lib.hid (LessW.below (by first | exact hN.out | exact hN.out.drew) hb); clear hb
      refine hK.out _ _ (by exact ⟨hN.out.1.range, hN.out.2.1.range⟩) (fun hHeld => ?_)
      clear hK K
      (try simp only [Act.put, List.setIfInBounds_toArray, List.set_cons_zero, List.set_cons_succ])
      refine wpAnyH_take (i := 21) (oi := _) (v := ?_) rfl (by kernel_rfl) (by kernel_rfl) (by kernel_rfl) (fun _ _ _ h => h) (Or.inl ⟨by kernel_rfl, ?_⟩) (by assumption) ?_
      rotate_left
      · (intro w hSw; (try dsimp only at hSw); go_simp; try with_reducible rfl)
      (try simp only [Act.put, List.setIfInBounds_toArray])
      refine wpAnyH_take (i := 22) (oi := _) (v := ?_) rfl (by kernel_rfl) (by kernel_rfl) (by kernel_rfl) (fun _ _ _ h => h) (Or.inl ⟨by kernel_rfl, ?_⟩) (by assumption) ?_
      rotate_left
      · (intro w hSw; (try dsimp only at hSw); go_simp; try with_reducible rfl)
      (try simp only [Act.put])
      refine wpAnyH_take (i := 23) (oi := _) (v := ?_) rfl (by kernel_rfl) (by kernel_rfl) (by kernel_rfl) (fun _ _ _ h => h) (Or.inl ⟨by kernel_rfl, ?_⟩) (by assumption) ?_
      rotate_left
      · (intro w hSw; (try dsimp only at hSw); go_simp; try with_reducible rfl)
      (try simp only [Act.put])
      refine wpAnyH_take (i := 24) (oi := _) (v := ?_) rfl (by kernel_rfl) (by kernel_rfl) (by kernel_rfl) (fun _ _ _ h => h) (Or.inl ⟨by kernel_rfl, ?_⟩) (by assumption) ?_
      rotate_left
      · (intro w hSw; (try dsimp only at hSw); go_simp; try with_reducible rfl)
      (try simp only [Act.put])
      refine wpAnyH_take (i := 25) (oi := _) (v := ?_) rfl (by kernel_rfl) (by kernel_rfl) (by kernel_rfl) (fun _ _ _ h => h) (Or.inl ⟨by kernel_rfl, ?_⟩) (by assumption) ?_
      rotate_left
      · (intro w hSw; (try dsimp only at hSw); go_simp; try with_reducible rfl)
      (try simp only [Act.put])
      refine wpAnyH_take (i := 26) (oi := _) (v := ?_) rfl (by kernel_rfl) (by kernel_rfl) (by kernel_rfl) (fun _ _ _ h => h) (Or.inl ⟨by kernel_rfl, ?_⟩) (by assumption) ?_
      rotate_left
      · (intro w hSw; (try dsimp only at hSw); go_simp; try with_reducible rfl)
      (try simp only [Act.put])
      refine wpAnyH_take (i := 27) (oi := _) (v := undef) rfl (by kernel_rfl) (by kernel_rfl) (by kernel_rfl) (fun _ _ _ h => h) (Or.inr ⟨by kernel_rfl, rfl⟩) (by assumption) ?_
      (try simp only [Act.put])
      refine wpAnyH_take (i := 28) (oi := _) (v := ?_) rfl (by kernel_rfl) (by kernel_rfl) (by kernel_rfl) (fun _ _ _ h => h) (Or.inl ⟨by kernel_rfl, ?_⟩) (by assumption) ?_
      rotate_left
      · (intro w hSw; (try dsimp only at hSw); go_simp; try with_reducible rfl)
      (try simp only [Act.put])
      refine wpAnyH_take (i := 29) (oi := _) (v := ?_) rfl (by kernel_rfl) (by kernel_rfl) (by kernel_rfl) (fun _ _ _ h => h) (Or.inl ⟨by kernel_rfl, ?_⟩) (by assumption) ?_
      rotate_left
      · (intro w hSw; (try dsimp only at hSw); go_simp; try with_reducible rfl)
      (try simp only [Act.put])
      refine wpAnyH_take (i := 30) (oi := _) (v := ?_) rfl (by kernel_rfl) (by kernel_rfl) (by kernel_rfl) (fun _ _ _ h => h) (Or.inl ⟨by kernel_rfl, ?_⟩) (by assumption) ?_
      rotate_left
      · (intro w hSw; (try dsimp only at hSw); go_simp; try with_reducible rfl)
      (try simp only [Act.put])
      refine wpAnyH_take (i := 31) (oi := _) (v := ?_) rfl (by kernel_rfl) (by kernel_rfl) (by kernel_rfl) (fun _ _ _ h => h) (Or.inl ⟨by kernel_rfl, ?_⟩) (by assumption) ?_
      rotate_left
      · (intro w hSw; (try dsimp only at hSw); go_simp; try with_reducible rfl)
      (try simp only [Act.put])
      refine wpAnyH_take (i := 32) (oi := _) (v := ?_) rfl (by kernel_rfl) (by kernel_rfl) (by kernel_rfl) (fun _ _ _ h => h) (Or.inl ⟨by kernel_rfl, ?_⟩) (by assumption) ?_
      rotate_left
      · (intro w hSw; (try dsimp only at hSw); go_simp; try with_reducible rfl)
      (try simp only [Act.put])
      refine wpAnyH_take (i := 33) (oi := _) (v := ?_) rfl (by kernel_rfl) (by kernel_rfl) (by kernel_rfl) (fun _ _ _ h => h) (Or.inl ⟨by kernel_rfl, ?_⟩) (by assumption) ?_
      rotate_left
      · (intro w hSw; (try dsimp only at hSw); go_simp; try with_reducible rfl)
      (try simp only [Act.put])
      refine wpAnyH_take (i := 34) (oi := _) (v := ?_) rfl (by kernel_rfl) (by kernel_rfl) (by kernel_rfl) (fun _ _ _ h => h) (Or.inl ⟨by kernel_rfl, ?_⟩) (by assumption) ?_
      rotate_left
      · (intro w hSw; (try dsimp only at hSw); go_simp; try with_reducible rfl)
      (try simp only [Act.put])
      refine wpAnyH_take (i := 35) (oi := _) (v := ?_) rfl (by kernel_rfl) (by kernel_rfl) (by kernel_rfl) (fun _ _ _ h => h) (Or.inl ⟨by kernel_rfl, ?_⟩) (by assumption) ?_
      rotate_left
      · (intro w hSw; (try dsimp only at hSw); go_simp; try with_reducible rfl)
      (try simp only [Act.put])
      refine wpAnyH_take (i := 36) (oi := _) (v := ?_) rfl (by kernel_rfl) (by kernel_rfl) (by kernel_rfl) (fun _ _ _ h => h) (Or.inl ⟨by kernel_rfl, ?_⟩) (by assumption) ?_
      rotate_left
      · (intro w hSw; (try dsimp only at hSw); go_simp; try with_reducible rfl)
      (try simp only [Act.put])
      refine wpAnyH_take (i := 37) (oi := _) (v := undef) rfl (by kernel_rfl) (by kernel_rfl) (by kernel_rfl) (fun _ _ _ h => h) (Or.inr ⟨by kernel_rfl, rfl⟩) (by assumption) ?_
      (try simp only [Act.put])
      refine wpAnyH_take (i := 38) (oi := _) (v := undef) rfl (by kernel_rfl) (by kernel_rfl) (by kernel_rfl) (fun _ _ _ h => h) (Or.inr ⟨by kernel_rfl, rfl⟩) (by assumption) ?_
      (try simp only [Act.put])
      refine wpAnyH_take (i := 39) (oi := _) (v := undef) rfl (by kernel_rfl) (by kernel_rfl) (by kernel_rfl) (fun _ _ _ h => h) (Or.inr ⟨by kernel_rfl, rfl⟩) (by assumption) ?_
      (try simp only [Act.put])
      refine wpAnyH_take (i := 40) (oi := _) (v := ?_) rfl (by kernel_rfl) (by kernel_rfl) (by kernel_rfl) (fun _ _ _ h => h) (Or.inl ⟨by kernel_rfl, ?_⟩) (by assumption) ?_
      rotate_left
      · (intro w hSw; (try dsimp only at hSw); go_simp; try with_reducible rfl)
      (try simp only [Act.put])
      refine wpAnyH_take (i := 41) (oi := _) (v := ?_) rfl (by kernel_rfl) (by kernel_rfl) (by kernel_rfl) (fun _ _ _ h => h) (Or.inl ⟨by kernel_rfl, ?_⟩) (by assumption) ?_
      rotate_left
      · (intro w hSw; (try dsimp only at hSw); go_simp; try with_reducible rfl)
      (try simp only [Act.put])
      refine wpAnyH_take (i := 42) (oi := _) (v := ?_) rfl (by kernel_rfl) (by kernel_rfl) (by kernel_rfl) (fun _ _ _ h => h) (Or.inl ⟨by kernel_rfl, ?_⟩) (by assumption) ?_
      rotate_left
      · (intro w hSw; (try dsimp only at hSw); go_simp; try with_reducible rfl)
      (try simp only [Act.put])
      refine wpAnyH_done (by kernel_rfl) ?_ _
      simp
      go_wp2
      go_ret
      exact ⟨rfl, hN.out.2.2⟩

set_option maxRecDepth 100000 in
set_option maxHeartbeats 16000000 in
theorem less_three (a b : List Int) (ha : Sha.Hash a) (hb : Sha.Hash b) (same : Int) (r : Nat) (hr33 : r ≤ 32) (CM : Hid (∀ w', Calls Tryd.prog 15 #[.int .i64 same, .int .i64 33] w' fun e w'' => e = .returned (.int .i64 (r : Int)) ∧ w'' = w'))
    (hx : Sha.lexLt a (Sha.mixN a b r) = false) (hy : Sha.lexLt (Sha.mixN a b r) a = false) (he : (a == Sha.mixN a b r) = true) (w : World) (ht : Tabs w) :
    Calls Tryd.prog 8 #[hashV a, hashV b, .int .i64 same] w fun e w' => e = .returned (.bool true) ∧ Below w.heap.size w w' := by
  have HT := Lib.hid ht
  obtain ⟨cs, hc⟩ : ∃ cs, (a.map (Value.int .u8)).toArray = cs := ⟨_, rfl⟩
  obtain ⟨ds, hd⟩ : ∃ cs, (b.map (Value.int .u8)).toArray = cs := ⟨_, rfl⟩
  have z1 : cs.size = 32 := by rw [← hc]; simp [ha.1]
  have z2 : ds.size = 32 := by rw [← hd]; simp [hb.1]
  have HW := Lib.hid (lessW_start w a b cs ds hc hd)
  have HA := Lib.hid (And.intro ha hb)
  have HR := Lib.hid hr33
  have hc1 := Sha.mixN_hash a b ha hb r
  have P1 := Lib.hid (fun w' => less_c a (Sha.mixN a b r) ha.1 hc1.1 w')
  have P2 := Lib.hid (fun w' => less_c (Sha.mixN a b r) a hc1.1 ha.1 w')
  have R1 := Lib.hid (fun w' => refLess_c a (Sha.mixN a b r) ha.1 hc1.1 w')
  have R2 := Lib.hid (fun w' => refLess_c (Sha.mixN a b r) a hc1.1 ha.1 w')
  have T1 := Lib.hid (fun w' => text_c a ha w')
  have T2 := Lib.hid (fun w' => text_c (Sha.mixN a b r) hc1 w')
  have hq := fun w' => hash_eq a (Sha.mixN a b r) ha.1 hc1.1 w'
  have hless := Sha.text_less a (Sha.mixN a b r) ha hc1
  simp only [he] at hq
  rw [hx] at P1 R1 hless; rw [hy] at P2 R2
  obtain ⟨X, eX⟩ : ∃ X, Sha.text a = X := ⟨_, rfl⟩
  obtain ⟨Y, eY⟩ : ∃ X, Sha.text (Sha.mixN a b r) = X := ⟨_, rfl⟩
  rw [eX] at T1 hless; rw [eY] at T2 hless
  have hu := Tryd.underlying24
  have hia : (Tryd.prog.info? 24).map (·.size) = some (List.map (Value.int .u8) a).length := by rw [List.length_map, ha.1]; kernel_rfl
  have hic : (Tryd.prog.info? 24).map (·.size) = some (List.map (Value.int .u8) (Sha.mixN a b r)).length := by rw [List.length_map, hc1.1]; kernel_rfl
  have HU := Lib.hid (And.intro hu (And.intro hia hic))
  have HC1 := Lib.hid hc1.1
  unfold hashV
  rw [hc, hd]
  clear ht hc hd ha hb hx hy he eX eY hu hia hic hc1 hr33
  go_enter Tryd.func8, Tryd.ntmps8
  go_wp2_with fail
  refine (sanity_c _ (HT.out.below HW.out.2.2)).mono ?_; rintro e w1 ⟨rfl, hb⟩
  have hN := Lib.hid (HW.out.below hb); clear hb
  go_wp2_with fail
  go_loopw [8] (fun i wr => ∃ n : Nat, n ≤ r ∧ i = .int .i64 n ∧ Hid (LessW w a (Sha.mixN a b n) wr)) (fun i _ => r - (intOf i).toNat)
  case atStart => exact ⟨0, by omega, rfl, hN⟩
  clear hN HW
  case round =>
    obtain ⟨n, hn, rfl, hM⟩ := hrel
    by_cases hlt : n < r
    · have hr3 := HR.out
      have c1 := hM.out.1.cell n (by rw [HA.out.1.1]; omega)
      have c2 := hM.out.2.1.cell n (by rw [(Sha.mixN_hash a b HA.out.1 HA.out.2 n).1]; omega)
      have f2 := hM.out.2.1.free n
      obtain ⟨x, hx⟩ : ∃ x, a.getD n 0 = x := ⟨_, rfl⟩
      obtain ⟨y, hy⟩ : ∃ x, (Sha.mixN a b n).getD n 0 = x := ⟨_, rfl⟩
      rw [hx] at c1; rw [hy] at c2
      have HX := Lib.hid (And.intro hx hlt)
      have i1 : (n : Int) < (r : Int) := by omega
      have i2 : (n : Int) < 32 := by omega
      have i0 : (0 : Int) ≤ (n : Int) := by omega
      clear hx hy hq hless
      go_wp2_with fail
      refine (CM.out _).mono ?_; rintro e w2 ⟨rfl, rfl⟩
      go_wp2_with fail
      refine ⟨⟨n + 1, HX.out.2, by go_num, Lib.hid ?_⟩, by have := HX.out.2; simp only [intOf]; omega⟩
      have e := hM.out.set2 n x
      rw [Sha.mixN, HX.out.1]
      exact e
    · obtain rfl : n = r := by omega
      have i1 : ¬ (n : Int) < (n : Int) := by omega
      clear hlt hn
      go_wp2_with fail
      refine (CM.out _).mono ?_; rintro e w2 ⟨rfl, rfl⟩
      obtain ⟨c, hcc⟩ : ∃ c, Sha.mixN a b n = c := ⟨_, rfl⟩
      rw [hcc] at hM P1 P2 R1 R2 T2 HU HC1
      simp only [hcc] at hq
      have hN := hM
      clear hM hcc
      go_wp2_with (first
        | refine load_blk hN.out.1 rfl _ rfl rfl 32 5 (by kernel_rfl) (by rw [HA.out.1.1]; kernel_rfl) ?_
        | refine load_blk hN.out.2.1 rfl _ rfl rfl 32 5 (by kernel_rfl) (by rw [HC1.out]; kernel_rfl) ?_)
      refine (P1.out _).mono ?_; rintro e wa ⟨rfl, hb⟩
      have hN := Lib.hid (hN.out.below hb); clear hb
      go_wp2_with (first
        | refine load_blk hN.out.1 rfl _ rfl rfl 32 5 (by kernel_rfl) (by rw [HA.out.1.1]; kernel_rfl) ?_
        | refine load_blk hN.out.2.1 rfl _ rfl rfl 32 5 (by kernel_rfl) (by rw [HC1.out]; kernel_rfl) ?_)
      refine (P2.out _).mono ?_; rintro e wb ⟨rfl, hb⟩
      have hN := Lib.hid (hN.out.below hb); clear hb
      go_wp2_with fail
      obtain ⟨hu, hia, hic⟩ := HU.out
      refine wp_region_held_drew (S := fun w' => w'.rangeAt w.heap.size 0 (List.map (Value.int .u8) a) ∧ w'.rangeAt (w.heap.size + 1) 0 (List.map (Value.int .u8) c)) (by kernel_rfl) (by exact ⟨hN.out.1.range, hN.out.2.1.range⟩) (fun hHeld => ?_)
      refine wpAnyH_take (i := 0) (oi := _) (v := ?_) rfl (by kernel_rfl) (by kernel_rfl) (by kernel_rfl) (fun _ _ _ h => h) (Or.inl ⟨by kernel_rfl, ?_⟩) (by assumption) ?_
      rotate_left
      · (intro w hSw; (try dsimp only at hSw); go_simp; try with_reducible rfl)
      (try simp only [Act.put, List.setIfInBounds_toArray])
      refine wpAnyH_take (i := 1) (oi := _) (v := ?_) rfl (by kernel_rfl) (by kernel_rfl) (by kernel_rfl) (fun _ _ _ h => h) (Or.inl ⟨by kernel_rfl, ?_⟩) (by assumption) ?_
      rotate_left
      · (intro w hSw; (try dsimp only at hSw); go_simp; try with_reducible rfl)
      (try simp only [Act.put])
      refine wpAnyH_take (i := 2) (oi := _) (v := ?_) rfl (by kernel_rfl) (by kernel_rfl) (by kernel_rfl) (fun _ _ _ h => h) (Or.inl ⟨by kernel_rfl, ?_⟩) (by assumption) ?_
      rotate_left
      · (intro w hSw; (try dsimp only at hSw); go_simp; try with_reducible rfl)
      (try simp only [Act.put])
      refine wpAnyH_take (i := 3) (oi := _) (v := _) rfl (by kernel_rfl) (by kernel_rfl) (by kernel_rfl) (fun _ _ _ h => h) (yieldsIf_load_mid (by kernel_rfl) _ _ rfl (w.heap.size) 0 (by kernel_rfl) (List.map (Value.int .u8) a) _ (fun w h => h.1) hu rfl hia) (by assumption) ?_
      (try simp only [Act.put])
      refine wpAnyH_take (i := 4) (oi := _) (v := _) rfl (by kernel_rfl) (by kernel_rfl) (by kernel_rfl) (fun _ _ _ h => h) (yieldsIf_load_mid (by kernel_rfl) _ _ rfl (w.heap.size + 1) 0 (by kernel_rfl) (List.map (Value.int .u8) c) _ (fun w h => h.2) hu rfl hic) (by assumption) ?_
      (try simp only [Act.put])
      refine wpAnyH_ready (rs := [5]) (by kernel_rfl) (by simp) ?_
      refine AllReadyH.cons (o := _) rfl (fun K hK => ?_) AllReadyH.nil
      go_simp
      go_at_call 21
      refine (R1.out _).mono ?_; rintro e wa ⟨rfl, hb⟩
      have hN := Lib.hid (LessW.below (by first | exact hN.out | exact hN.out.drew) hb); clear hb
      refine hK.out _ _ (by exact ⟨hN.out.1.range, hN.out.2.1.range⟩) (fun hHeld => ?_)
      clear hK K
      (try simp only [Act.put, List.setIfInBounds_toArray, List.set_cons_zero, List.set_cons_succ])
      refine wpAnyH_take (i := 6) (oi := _) (v := ?_) rfl (by kernel_rfl) (by kernel_rfl) (by kernel_rfl) (fun _ _ _ h => h) (Or.inl ⟨by kernel_rfl, ?_⟩) (by assumption) ?_
      rotate_left
      · (intro w hSw; (try dsimp only at hSw); go_simp; try with_reducible rfl)
      (try simp only [Act.put, List.setIfInBounds_toArray])
      refine wpAnyH_take (i := 7) (oi := _) (v := ?_) rfl (by kernel_rfl) (by kernel_rfl) (by kernel_rfl) (fun _ _ _ h => h) (Or.inl ⟨by kernel_rfl, ?_⟩) (by assumption) ?_
      rotate_left
      · (intro w hSw; (try dsimp only at hSw); go_simp; try with_reducible rfl)
      (try simp only [Act.put])
      refine wpAnyH_take (i := 8) (oi := _) (v := ?_) rfl (by kernel_rfl) (by kernel_rfl) (by kernel_rfl) (fun _ _ _ h => h) (Or.inl ⟨by kernel_rfl, ?_⟩) (by assumption) ?_
      rotate_left
      · (intro w hSw; (try dsimp only at hSw); go_simp; try with_reducible rfl)
      (try simp only [Act.put])
      refine wpAnyH_take (i := 9) (oi := _) (v := ?_) rfl (by kernel_rfl) (by kernel_rfl) (by kernel_rfl) (fun _ _ _ h => h) (Or.inl ⟨by kernel_rfl, ?_⟩) (by assumption) ?_
      rotate_left
      · (intro w hSw; (try dsimp only at hSw); go_simp; try with_reducible rfl)
      (try simp only [Act.put])
      refine wpAnyH_take (i := 10) (oi := _) (v := _) rfl (by kernel_rfl) (by kernel_rfl) (by kernel_rfl) (fun _ _ _ h => h) (yieldsIf_load_mid (by kernel_rfl) _ _ rfl (w.heap.size + 1) 0 (by kernel_rfl) (List.map (Value.int .u8) c) _ (fun w h => h.2) hu rfl hic) (by assumption) ?_
      (try simp only [Act.put])
      refine wpAnyH_take (i := 11) (oi := _) (v := _) rfl (by kernel_rfl) (by kernel_rfl) (by kernel_rfl) (fun _ _ _ h => h) (yieldsIf_load_mid (by kernel_rfl) _ _ rfl (w.heap.size) 0 (by kernel_rfl) (List.map (Value.int .u8) a) _ (fun w h => h.1) hu rfl hia) (by assumption) ?_
      (try simp only [Act.put])
      refine wpAnyH_ready (rs := [12]) (by kernel_rfl) (by simp) ?_
      refine AllReadyH.cons (o := _) rfl (fun K hK => ?_) AllReadyH.nil
      go_simp
      go_at_call 21
      refine (R2.out _).mono ?_; rintro e wa ⟨rfl, hb⟩
      have hN := Lib.hid (LessW.below (by first | exact hN.out | exact hN.out.drew) hb); clear hb
      refine hK.out _ _ (by exact ⟨hN.out.1.range, hN.out.2.1.range⟩) (fun hHeld => ?_)
      clear hK K
      (try simp only [Act.put, List.setIfInBounds_toArray, List.set_cons_zero, List.set_cons_succ])
      refine wpAnyH_take (i := 13) (oi := _) (v := ?_) rfl (by kernel_rfl) (by kernel_rfl) (by kernel_rfl) (fun _ _ _ h => h) (Or.inl ⟨by kernel_rfl, ?_⟩) (by assumption) ?_
      rotate_left
      · (intro w hSw; (try dsimp only at hSw); go_simp; try with_reducible rfl)
      (try simp only [Act.put, List.setIfInBounds_toArray])
      refine wpAnyH_take (i := 14) (oi := _) (v := ?_) rfl (by kernel_rfl) (by kernel_rfl) (by kernel_rfl) (fun _ _ _ h => h) (Or.inl ⟨by kernel_rfl, ?_⟩) (by assumption) ?_
      rotate_left
      · (intro w hSw; (try dsimp only at hSw); go_simp; try with_reducible rfl)
      (try simp only [Act.put])
      refine wpAnyH_take (i := 15) (oi := _) (v := ?_) rfl (by kernel_rfl) (by kernel_rfl) (by kernel_rfl) (fun _ _ _ h => h) (Or.inl ⟨by kernel_rfl, ?_⟩) (by assumption) ?_
      rotate_left
      · (intro w hSw; (try dsimp only at hSw); go_simp; try with_reducible rfl)
      (try simp only [Act.put])
      refine wpAnyH_take (i := 16) (oi := _) (v := ?_) rfl (by kernel_rfl) (by kernel_rfl) (by kernel_rfl) (fun _ _ _ h => h) (Or.inl ⟨by kernel_rfl, ?_⟩) (by assumption) ?_
      rotate_left
      · (intro w hSw; (try dsimp only at hSw); go_simp; try with_reducible rfl)
      (try simp only [Act.put])
      refine wpAnyH_take (i := 17) (oi := _) (v := _) rfl (by kernel_rfl) (by kernel_rfl) (by kernel_rfl) (fun _ _ _ h => h) (yieldsIf_load_mid (by kernel_rfl) _ _ rfl (w.heap.size) 0 (by kernel_rfl) (List.map (Value.int .u8) a) _ (fun w h => h.1) hu rfl hia) (by assumption) ?_
      (try simp only [Act.put])
      refine wpAnyH_take (i := 19) (oi := _) (v := _) rfl (by kernel_rfl) (by kernel_rfl) (by kernel_rfl) (fun _ _ _ h => h) (yieldsIf_load_mid (by kernel_rfl) _ _ rfl (w.heap.size + 1) 0 (by kernel_rfl) (List.map (Value.int .u8) c) _ (fun w h => h.2) hu rfl hic) (by assumption) ?_
      (try simp only [Act.put])
      refine wpAnyH_ready (rs := [18]) (by kernel_rfl) (by simp) ?_
      refine AllReadyH.cons (o := _) rfl (fun K hK => ?_) AllReadyH.nil
      go_simp
      go_at_call 16
      refine (T1.out _).mono ?_; rintro e wa ⟨rfl, hb⟩
      have hN := Lib.hid (LessW.below (by first | exact hN.out | exact hN.out.drew) hb); clear hb
      refine hK.out _ _ (by exact ⟨hN.out.1.range, hN.out.2.1.range⟩) (fun hHeld => ?_)
      clear hK K
      (try simp only [Act.put, List.setIfInBounds_toArray, List.set_cons_zero, List.set_cons_succ])
      refine wpAnyH_ready (rs := [20]) (by kernel_rfl) (by simp) ?_
      refine AllReadyH.cons (o := _) rfl (fun K hK => ?_) AllReadyH.nil
      go_simp
      go_at_call 16
      refine (T2.out _).mono ?_; rintro e wa ⟨rfl, hb⟩
      have hN := Lib.hid (LessW.below (by first | exact hN.out | exact hN.out.drew) hb); clear hb
      refine hK.out _ _ (by exact ⟨hN.out.1.range, hN.out.2.1.range⟩) (fun hHeld => ?_)
      clear hK K
      (try simp only [Act.put, List.setIfInBounds_toArray, List.set_cons_zero, List.set_cons_succ])
      refine wpAnyH_take (i := 21) (oi := _) (v := ?_) rfl (by kernel_rfl) (by kernel_rfl) (by kernel_rfl) (fun _ _ _ h => h) (Or.inl ⟨by kernel_rfl, ?_⟩) (by assumption) ?_
      rotate_left
      · (intro w hSw; (try dsimp only at hSw); go_simp; try with_reducible rfl)
      (try simp only [Act.put, List.setIfInBounds_toArray])
      refine wpAnyH_take (i := 22) (oi := _) (v := ?_) rfl (by kernel_rfl) (by kernel_rfl) (by kernel_rfl) (fun _ _ _ h => h) (Or.inl ⟨by kernel_rfl, ?_⟩) (by assumption) ?_
      rotate_left
      · (intro w hSw; (try dsimp only at hSw); go_simp; try with_reducible rfl)
      (try simp only [Act.put])
      refine wpAnyH_take (i := 23) (oi := _) (v := ?_) rfl (by kernel_rfl) (by kernel_rfl) (by kernel_rfl) (fun _ _ _ h => h) (Or.inl ⟨by kernel_rfl, ?_⟩) (by assumption) ?_
      rotate_left
      · (intro w hSw; (try dsimp only at hSw); go_simp; try with_reducible rfl)
      (try simp only [Act.put])
      refine wpAnyH_take (i := 24) (oi := _) (v := ?_) rfl (by kernel_rfl) (by kernel_rfl) (by kernel_rfl) (fun _ _ _ h => h) (Or.inl ⟨by kernel_rfl, ?_⟩) (by assumption) ?_
      rotate_left
      · (intro w hSw; (try dsimp only at hSw); go_simp; try with_reducible rfl)
      (try simp only [Act.put])
      refine wpAnyH_take (i := 25) (oi := _) (v := ?_) rfl (by kernel_rfl) (by kernel_rfl) (by kernel_rfl) (fun _ _ _ h => h) (Or.inl ⟨by kernel_rfl, ?_⟩) (by assumption) ?_
      rotate_left
      · (intro w hSw; (try dsimp only at hSw); go_simp; try with_reducible rfl)
      (try simp only [Act.put])
      refine wpAnyH_take (i := 26) (oi := _) (v := ?_) rfl (by kernel_rfl) (by kernel_rfl) (by kernel_rfl) (fun _ _ _ h => h) (Or.inl ⟨by kernel_rfl, ?_⟩) (by assumption) ?_
      rotate_left
      · (intro w hSw; (try dsimp only at hSw); go_simp; try with_reducible rfl)
      (try simp only [Act.put])
      refine wpAnyH_take (i := 27) (oi := _) (v := undef) rfl (by kernel_rfl) (by kernel_rfl) (by kernel_rfl) (fun _ _ _ h => h) (Or.inr ⟨by kernel_rfl, rfl⟩) (by assumption) ?_
      (try simp only [Act.put])
      refine wpAnyH_take (i := 28) (oi := _) (v := ?_) rfl (by kernel_rfl) (by kernel_rfl) (by kernel_rfl) (fun _ _ _ h => h) (Or.inl ⟨by kernel_rfl, ?_⟩) (by assumption) ?_
      rotate_left
      · (intro w hSw; (try dsimp only at hSw); go_simp; try with_reducible rfl)
      (try simp only [Act.put])
      refine wpAnyH_take (i := 29) (oi := _) (v := ?_) rfl (by kernel_rfl) (by kernel_rfl) (by kernel_rfl) (fun _ _ _ h => h) (Or.inl ⟨by kernel_rfl, ?_⟩) (by assumption) ?_
      rotate_left
      · (intro w hSw; (try dsimp only at hSw); go_simp; try with_reducible rfl)
      (try simp only [Act.put])
      refine wpAnyH_take (i := 30) (oi := _) (v := ?_) rfl (by kernel_rfl) (by kernel_rfl) (by kernel_rfl) (fun _ _ _ h => h) (Or.inl ⟨by kernel_rfl, ?_⟩) (by assumption) ?_
      rotate_left
      · (intro w hSw; (try dsimp only at hSw); go_simp; try with_reducible rfl)
      (try simp only [Act.put])
      refine wpAnyH_take (i := 31) (oi := _) (v := ?_) rfl (by kernel_rfl) (by kernel_rfl) (by kernel_rfl) (fun _ _ _ h => h) (Or.inl ⟨by kernel_rfl, ?_⟩) (by assumption) ?_
      rotate_left
      · (intro w hSw; (try dsimp only at hSw); go_simp; try with_reducible rfl)
      (try simp only [Act.put])
      refine wpAnyH_take (i := 32) (oi := _) (v := ?_) rfl (by kernel_rfl) (by kernel_rfl) (by kernel_rfl) (fun _ _ _ h => h) (Or.inl ⟨by kernel_rfl, ?_⟩) (by assumption) ?_
      rotate_left
      · (intro w hSw; (try dsimp only at hSw); go_simp; try with_reducible rfl)
      (try simp only [Act.put])
      refine wpAnyH_take (i := 33) (oi := _) (v := ?_) rfl (by kernel_rfl) (by kernel_rfl) (by kernel_rfl) (fun _ _ _ h => h) (Or.inl ⟨by kernel_rfl, ?_⟩) (by assumption) ?_
      rotate_left
      · (intro w hSw; (try dsimp only at hSw); go_simp; try with_reducible rfl)
      (try simp only [Act.put])
      refine wpAnyH_take (i := 34) (oi := _) (v := ?_) rfl (by kernel_rfl) (by kernel_rfl) (by kernel_rfl) (fun _ _ _ h => h) (Or.inl ⟨by kernel_rfl, ?_⟩) (by assumption) ?_
      rotate_left
      · (intro w hSw; (try dsimp only at hSw); go_simp; try with_reducible rfl)
      (try simp only [Act.put])
      refine wpAnyH_take (i := 35) (oi := _) (v := ?_) rfl (by kernel_rfl) (by kernel_rfl) (by kernel_rfl) (fun _ _ _ h => h) (Or.inl ⟨by kernel_rfl, ?_⟩) (by assumption) ?_
      rotate_left
      · (intro w hSw; (try dsimp only at hSw); go_simp; try with_reducible rfl)
      (try simp only [Act.put])
      refine wpAnyH_take (i := 36) (oi := _) (v := ?_) rfl (by kernel_rfl) (by kernel_rfl) (by kernel_rfl) (fun _ _ _ h => h) (Or.inl ⟨by kernel_rfl, ?_⟩) (by assumption) ?_
      rotate_left
      · (intro w hSw; (try dsimp only at hSw); go_simp; try with_reducible rfl)
      (try simp only [Act.put])
      refine wpAnyH_take (i := 37) (oi := _) (v := _) rfl (by kernel_rfl) (by kernel_rfl) (by kernel_rfl) (fun _ _ _ h => h) (yieldsIf_load_mid (by kernel_rfl) _ _ rfl (w.heap.size) 0 (by kernel_rfl) (List.map (Value.int .u8) a) _ (fun w h => h.1) hu rfl hia) (by assumption) ?_
      (try simp only [Act.put])
      refine wpAnyH_take (i := 38) (oi := _) (v := _) rfl (by kernel_rfl) (by kernel_rfl) (by kernel_rfl) (fun _ _ _ h => h) (yieldsIf_load_mid (by kernel_rfl) _ _ rfl (w.heap.size + 1) 0 (by kernel_rfl) (List.map (Value.int .u8) c) _ (fun w h => h.2) hu rfl hic) (by assumption) ?_
      (try simp only [Act.put])
      refine wpAnyH_take (i := 39) (oi := _) (v := ?_) rfl (by kernel_rfl) (by kernel_rfl) (by kernel_rfl) (fun _ _ _ h => h) (Or.inl ⟨by kernel_rfl, ?_⟩) (by assumption) ?_
      rotate_left
      · (intro w hSw; (try dsimp only at hSw); go_simp; try with_reducible rfl)
      (try simp only [Act.put])
      refine wpAnyH_take (i := 40) (oi := _) (v := ?_) rfl (by kernel_rfl) (by kernel_rfl) (by kernel_rfl) (fun _ _ _ h => h) (Or.inl ⟨by kernel_rfl, ?_⟩) (by assumption) ?_
      rotate_left
      · (intro w hSw; (try dsimp only at hSw); go_simp; try with_reducible rfl)
      (try simp only [Act.put])
      refine wpAnyH_take (i := 41) (oi := _) (v := ?_) rfl (by kernel_rfl) (by kernel_rfl) (by kernel_rfl) (fun _ _ _ h => h) (Or.inl ⟨by kernel_rfl, ?_⟩) (by assumption) ?_
      rotate_left
      · (intro w hSw; (try dsimp only at hSw); go_simp; try with_reducible rfl)
      (try simp only [Act.put])
      refine wpAnyH_take (i := 42) (oi := _) (v := ?_) rfl (by kernel_rfl) (by kernel_rfl) (by kernel_rfl) (fun _ _ _ h => h) (Or.inl ⟨by kernel_rfl, ?_⟩) (by assumption) ?_
      rotate_left
      · (intro w hSw; (try dsimp only at hSw); go_simp; try with_reducible rfl)
      (try simp only [Act.put])
      refine wpAnyH_done (by kernel_rfl) ?_ _
      simp
      go_wp2
      go_ret
      exact ⟨rfl, hN.out.2.2⟩

theorem digestLess_c (a b : List Int) (same : Int) (ha : Sha.Hash a) (hb : Sha.Hash b) (_ : -9223372036854775808 ≤ same ∧ same ≤ 9223372036854775807) (w : World) (ht : Tabs w) :
    Calls Tryd.prog 8 #[hashV a, hashV b, .int .i64 same] w fun e w' => e = .returned (.bool true) ∧ Below w.heap.size w w' := by
  have q0 := Int.emod_nonneg same (b := 33) (by decide)
  have q1 := Int.emod_lt_of_pos same (b := 33) (by decide)
  have CM := Lib.hid (fun w' => mod_any same 33 (by decide) (by decide) w')
  obtain ⟨r, hr⟩ : ∃ r : Nat, same % 33 = (r : Int) := ⟨(same % 33).toNat, by omega⟩
  rw [hr] at q0 q1 CM
  have hc := Sha.mixN_hash a b ha hb r
  rcases Sha.lex_three a (Sha.mixN a b r) (by rw [ha.1, hc.1]) with ⟨hx, hy, he⟩ | ⟨hx, hy, he⟩ | ⟨hx, hy, he⟩
  · exact less_one a b ha hb same r (by omega) CM hx hy he w ht
  · exact less_two a b ha hb same r (by omega) CM hx hy he w ht
  · exact less_three a b ha hb same r (by omega) CM hx hy he w ht
end Go.Proofs.YtjhljkcbbipeeaaDoor
