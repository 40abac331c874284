/- Lists of hashes compared: Same of the reference. -/
import Derived.Test.YtkjdfjpfghpofaaDoorUm
namespace Go.Proofs.YtkjdfjpfghpofaaDoor
open Go.RowKit

/-- A list of hashes in memory. -/
def HashesV (w : World) (v : Value) (hs : List (List Int)) : Prop :=
  (∀ h ∈ hs, h.length = 32) ∧ ((hs = [] ∧ ∃ a c, v = .slice a 0 c) ∨ (0 < hs.length ∧ ∃ b off cap, v = .slice (some ⟨b, off, none⟩) hs.length cap ∧ (hs.length : Int) ≤ (cap : Int) ∧ (cap : Int) ≤ 9223372036854775807 ∧ b < w.heap.size ∧ ∀ i (hi : i < hs.length), w.rangeAt b (off + i * 32) (hashC hs[i])))
theorem rangeAt_below {B : Nat} {w w' : World} {b o : Nat} {cs : List Value} (h : w.rangeAt b o cs) (hb : Below B w w') (hB : b < B) : w'.rangeAt b o cs := fun j v hv => (hb.cell (p := ⟨b, o + j, none⟩) hB).trans (h j v hv)
theorem HashesV.below {w w' : World} {v : Value} {hs : List (List Int)} (h : HashesV w v hs) (hb : Below w.heap.size w w') : HashesV w' v hs :=
  ⟨h.1, h.2.imp id fun ⟨h0, b, off, cap, h1, h2, h5, h3, h4⟩ => ⟨h0, b, off, cap, h1, h2, h5, Nat.lt_of_lt_of_le h3 hb.size, fun i hi => rangeAt_below (h4 i hi) hb h3⟩⟩
theorem HashesV.shape {w : World} {v : Value} {hs : List (List Int)} (h : HashesV w v hs) : ∃ a c, v = .slice a hs.length c := by
  rcases h.2 with ⟨rfl, a, c, rfl⟩ | ⟨h0, b, off, cap, rfl, _⟩
  · exact ⟨a, c, rfl⟩
  · exact ⟨_, _, rfl⟩

set_option maxRecDepth 100000 in
set_option maxHeartbeats 1000000 in
theorem same_c (v1 v2 : Value) (h1 h2 : List (List Int)) (w : World) (hv1 : HashesV w v1 h1) (hv2 : HashesV w v2 h2) (hm : h1.length ≤ 1000) (hm2 : h2.length ≤ 1000) :
    Calls Tryd.prog 23 #[v1, v2] w fun e w' => e = .returned (.bool (h1 == h2)) ∧ Below w.heap.size w w' := by
  obtain ⟨a1, c1, rfl⟩ := hv1.shape
  obtain ⟨a2, c2, rfl⟩ := hv2.shape
  obtain ⟨r, hr⟩ : ∃ r, (h1 == h2) = r := ⟨_, rfl⟩
  rw [hr]
  by_cases hl : h1.length = h2.length
  · have e0 : ((h1.length : Int) != (h2.length : Int)) = false := by simp; omega
    have HV := Lib.hid (And.intro hv1 (And.intro hv2 (And.intro hm (And.intro hl hr))))
    clear hv1 hv2 hm hm2 hl hr
    go_enter Tryd.func23, Tryd.ntmps23
    go_wp2_with fail
    go_loopw [5] (fun i wr => ∃ j : Nat, j ≤ h1.length ∧ i = .int .i64 j ∧ Hid (h1.take j = h2.take j ∧ Below w.heap.size w wr)) (fun i _ => h1.length - (intOf i).toNat)
    case atStart => exact ⟨0, by omega, rfl, Lib.hid ⟨by simp, Below.refl _ _⟩⟩
    case round =>
      obtain ⟨j, hj, rfl, hM⟩ := hrel
      by_cases hlt : j < h1.length
      · have i3 : (j : Int) < (h1.length : Int) := by omega
        have i4 : (j : Int) < (h2.length : Int) := by have := HV.out.2.2.2.1; omega
        have i5 : (h1.length : Int) ≤ 1000 := by have := HV.out.2.2.1; omega
        obtain ⟨b1, o1, k1, hs1⟩ : ∃ b off cap, Value.slice a1 h1.length c1 = .slice (some ⟨b, off, none⟩) h1.length cap ∧ (h1.length : Int) ≤ (cap : Int) ∧ (cap : Int) ≤ 9223372036854775807 ∧ b < w.heap.size ∧ ∀ i (hi : i < h1.length), w.rangeAt b (off + i * 32) (hashC h1[i]) := by
          rcases HV.out.1.2 with ⟨he, _⟩ | ⟨_, h⟩
          · rw [he] at hlt; simp at hlt
          · exact h
        obtain ⟨b2, o2, k2, hs2⟩ : ∃ b off cap, Value.slice a2 h2.length c2 = .slice (some ⟨b, off, none⟩) h2.length cap ∧ (h2.length : Int) ≤ (cap : Int) ∧ (cap : Int) ≤ 9223372036854775807 ∧ b < w.heap.size ∧ ∀ i (hi : i < h2.length), w.rangeAt b (off + i * 32) (hashC h2[i]) := by
          rcases HV.out.2.1.2 with ⟨he, _⟩ | ⟨_, h⟩
          · have h0 : h2.length = 0 := by rw [he]; rfl
            have := HV.out.2.2.2.1; omega
          · exact h
        obtain ⟨e1, hc1, hm1, hb1, hr1⟩ := hs1
        obtain ⟨e2, hc2, hm2, hb2, hr2⟩ := hs2
        injection e1 with e1 _ e1c
        injection e2 with e2 _ e2c
        subst e1 e1c e2 e2c
        have g1 := rangeAt_below (hr1 j hlt) hM.out.2 hb1
        have g2 := rangeAt_below (hr2 j (by omega)) hM.out.2 hb2
        have y1 := HV.out.1.1 _ (List.getElem_mem hlt)
        have y2 := HV.out.2.1.1 _ (List.getElem_mem (show j < h2.length by omega))
        have ht1 : h1.take (j + 1) = h1.take j ++ [h1[j]] := List.take_succ_eq_append_getElem hlt
        have ht2 : h2.take (j + 1) = h2.take j ++ [h2[j]'(by omega)] := List.take_succ_eq_append_getElem (show j < h2.length by omega)
        have hne : h1[j] ≠ h2[j]'(by omega) → r = false := fun h => by rw [← HV.out.2.2.2.2]; exact beq_eq_false_iff_ne.2 (fun e => h (by simp only [e]))
        obtain ⟨x1, ex1⟩ : ∃ x, h1[j] = x := ⟨_, rfl⟩
        obtain ⟨x2, ex2⟩ : ∃ x, h2[j]'(by omega) = x := ⟨_, rfl⟩
        rw [ex1] at g1 y1 ht1 hne; rw [ex2] at g2 y2 ht2 hne
        have hu := Tryd.underlying24
        have hi1 : (Tryd.prog.info? 24).map (·.size) = some (List.map (Value.int .u8) x1).length := by rw [List.length_map, y1]; kernel_rfl
        have hi2 : (Tryd.prog.info? 24).map (·.size) = some (List.map (Value.int .u8) x2).length := by rw [List.length_map, y2]; kernel_rfl
        have hq := fun w' => hash_eq x1 x2 y1 y2 w'
        obtain ⟨q, eq⟩ : ∃ q, (x1 == x2) = q := ⟨_, rfl⟩
        simp only [eq] at hq
        have HQ := Lib.hid (And.intro eq (And.intro hne (And.intro ht1 (And.intro ht2 hlt))))
        clear eq hne ht1 ht2 ex1 ex2 hr1 hr2 hlt
        go_wp2_with fail
        have hD : Below w.heap.size w wr.drew := hM.out.2.drew
        refine wp_region_held_drew (S := fun w' => w'.rangeAt b1 (o1 + j * 32) (List.map (Value.int .u8) x1) ∧ w'.rangeAt b2 (o2 + j * 32) (List.map (Value.int .u8) x2)) (by kernel_rfl) (by exact ⟨g1, g2⟩) (fun hHeld => ?_)
        -- REGION
        refine wpAnyH_take (i := 0) (oi := _) (v := ?_) rfl (by kernel_rfl) (by kernel_rfl) (by kernel_rfl) (fun _ _ _ h => h) (Or.inl ⟨by kernel_rfl, ?_⟩) (by assumption) ?_
        rotate_left
        · (intro w hSw; (try dsimp only at hSw); go_simp; try with_reducible rfl)
        (try simp only [Act.put, List.setIfInBounds_toArray, List.set_cons_zero, List.set_cons_succ])
        refine wpAnyH_take (i := 1) (oi := _) (v := ?_) rfl (by kernel_rfl) (by kernel_rfl) (by kernel_rfl) (fun _ _ _ h => h) (Or.inl ⟨by kernel_rfl, ?_⟩) (by assumption) ?_
        rotate_left
        · (intro w hSw; (try dsimp only at hSw); go_simp; try with_reducible rfl)
        (try simp only [Act.put, List.setIfInBounds_toArray, List.set_cons_zero, List.set_cons_succ])
        refine wpAnyH_take (i := 2) (oi := _) (v := ?_) rfl (by kernel_rfl) (by kernel_rfl) (by kernel_rfl) (fun _ _ _ h => h) (Or.inl ⟨by kernel_rfl, ?_⟩) (by assumption) ?_
        rotate_left
        · (intro w hSw; (try dsimp only at hSw); go_simp; try with_reducible rfl)
        (try simp only [Act.put, List.setIfInBounds_toArray, List.set_cons_zero, List.set_cons_succ])
        refine wpAnyH_take (i := 3) (oi := _) (v := _) rfl (by kernel_rfl) (by kernel_rfl) (by kernel_rfl) (fun _ _ _ h => h) (yieldsIf_load_mid (by kernel_rfl) _ _ rfl (b1) (o1 + j * 32) (by kernel_rfl) (List.map (Value.int .u8) x1) _ (fun w h => h.1) hu rfl hi1) (by assumption) ?_
        (try simp only [Act.put, List.setIfInBounds_toArray, List.set_cons_zero, List.set_cons_succ])
        refine wpAnyH_take (i := 4) (oi := _) (v := ?_) rfl (by kernel_rfl) (by kernel_rfl) (by kernel_rfl) (fun _ _ _ h => h) (Or.inl ⟨by kernel_rfl, ?_⟩) (by assumption) ?_
        rotate_left
        · (intro w hSw; (try dsimp only at hSw); go_simp; try with_reducible rfl)
        (try simp only [Act.put, List.setIfInBounds_toArray, List.set_cons_zero, List.set_cons_succ])
        refine wpAnyH_take (i := 5) (oi := _) (v := ?_) rfl (by kernel_rfl) (by kernel_rfl) (by kernel_rfl) (fun _ _ _ h => h) (Or.inl ⟨by kernel_rfl, ?_⟩) (by assumption) ?_
        rotate_left
        · (intro w hSw; (try dsimp only at hSw); go_simp; try with_reducible rfl)
        (try simp only [Act.put, List.setIfInBounds_toArray, List.set_cons_zero, List.set_cons_succ])
        refine wpAnyH_take (i := 6) (oi := _) (v := ?_) rfl (by kernel_rfl) (by kernel_rfl) (by kernel_rfl) (fun _ _ _ h => h) (Or.inl ⟨by kernel_rfl, ?_⟩) (by assumption) ?_
        rotate_left
        · (intro w hSw; (try dsimp only at hSw); go_simp; try with_reducible rfl)
        (try simp only [Act.put, List.setIfInBounds_toArray, List.set_cons_zero, List.set_cons_succ])
        refine wpAnyH_take (i := 7) (oi := _) (v := _) rfl (by kernel_rfl) (by kernel_rfl) (by kernel_rfl) (fun _ _ _ h => h) (yieldsIf_load_mid (by kernel_rfl) _ _ rfl (b2) (o2 + j * 32) (by kernel_rfl) (List.map (Value.int .u8) x2) _ (fun w h => h.2) hu rfl hi2) (by assumption) ?_
        (try simp only [Act.put, List.setIfInBounds_toArray, List.set_cons_zero, List.set_cons_succ])
        refine wpAnyH_take (i := 8) (oi := _) (v := ?_) rfl (by kernel_rfl) (by kernel_rfl) (by kernel_rfl) (fun _ _ _ h => h) (Or.inl ⟨by kernel_rfl, ?_⟩) (by assumption) ?_
        rotate_left
        · (intro w hSw; (try dsimp only at hSw); go_simp; try with_reducible rfl)
        (try simp only [Act.put, List.setIfInBounds_toArray, List.set_cons_zero, List.set_cons_succ])
        refine wpAnyH_done (by kernel_rfl) ?_ _
        simp [Act.put]
        -- END REGION
        have HD := Lib.hid hD
        clear hD hq g1 g2 hi1 hi2
        cases q with
        | false =>
          have hr := HQ.out.2.1 (fun e => by have := HQ.out.1; rw [e] at this; simp at this)
          subst hr
          go_wp2
          go_ret
          exact ⟨rfl, HD.out⟩
        | true =>
          go_wp2
          refine ⟨⟨j + 1, HQ.out.2.2.2.2, by go_num, Lib.hid ⟨?_, HD.out⟩⟩, by have := HQ.out.2.2.2.2; simp only [intOf]; omega⟩
          rw [HQ.out.2.2.1, HQ.out.2.2.2.1, hM.out.1, eq_of_beq HQ.out.1]
      · obtain rfl : j = h1.length := by omega
        have hrt : r = true := by
          rw [← HV.out.2.2.2.2]
          have e1 := hM.out.1
          rw [List.take_length, HV.out.2.2.2.1, List.take_length] at e1
          rw [e1]; simp
        subst hrt
        have i3 : ¬ (h1.length : Int) < (h1.length : Int) := by omega
        go_wp2_with fail
        go_ret
        exact ⟨rfl, hM.out.2⟩
  · have e0 : ((h1.length : Int) != (h2.length : Int)) = true := by simp; omega
    have hf : r = false := by rw [← hr]; exact beq_eq_false_iff_ne.2 (fun h => hl (by rw [h]))
    subst hf
    clear hv1 hv2 hm hm2 hr
    go_enter Tryd.func23, Tryd.ntmps23
    go_wp2
    go_ret
    exact ⟨rfl, Below.refl _ _⟩
end Go.Proofs.YtkjdfjpfghpofaaDoor
