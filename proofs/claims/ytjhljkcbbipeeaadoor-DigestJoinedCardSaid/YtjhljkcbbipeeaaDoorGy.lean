/- The laws: DigestJoined. -/
import Derived.Test.YtjhljkcbbipeeaaDoorGw
namespace Go.Proofs.YtjhljkcbbipeeaaDoor
open Go.RowKit

theorem joined (x : ByteArray) (k : Nat) (h : k ≤ x.size) : x.extract 0 k ++ x.extract k x.size = x := by
  rw [ByteArray.extract_append_extract, Nat.min_eq_left (by omega), Nat.max_eq_right h, ByteArray.extract_zero_size]

/-- The two parts lie in block b. -/
def JoinW (w : World) (b : Nat) (p q : ByteArray) (wr : World) : Prop := wr.cell? ⟨b, 0, none⟩ = some (.string p) ∧ wr.cell? ⟨b, 1, none⟩ = some (.string q) ∧ b < wr.heap.size ∧ Below w.heap.size w wr
theorem JoinW.below {w wr w' : World} {b : Nat} {p q : ByteArray} (h : JoinW w b p q wr) (hb : Below wr.heap.size wr w') : JoinW w b p q w' :=
  ⟨(hb.cell (p := ⟨b, 0, none⟩) h.2.2.1).trans h.1, (hb.cell (p := ⟨b, 1, none⟩) h.2.2.1).trans h.2.1, Nat.lt_of_lt_of_le h.2.2.1 hb.size, h.2.2.2.trans (hb.mono h.2.2.2.size)⟩
theorem JoinW.drew {w wr : World} {b : Nat} {p q : ByteArray} (h : JoinW w b p q wr) : JoinW w b p q wr.drew := ⟨h.1, h.2.1, h.2.2.1, h.2.2.2.drew⟩
theorem joinW_start (w wr : World) (T : TypeId) (p q : ByteArray) (hb : Below w.heap.size w wr) : JoinW w wr.heap.size p q (wr.alloc (.cells #[.string p, .string q] T)).drew :=
  ⟨by simp [go_sem], by simp [go_sem], by simp, (hb.alloc hb.size _).drew⟩

theorem joined_law (x : ByteArray) (hx : x.size ≤ 300) (at0 : Int) : ∃ k : Nat, at0 % ((x.size : Int) + 1) = (k : Int) ∧ (k : Int) ≤ (x.size : Int) :=
  ⟨(at0 % ((x.size : Int) + 1)).toNat, by have := Int.emod_nonneg at0 (b := (x.size : Int) + 1) (by omega); omega, by have := Int.emod_nonneg at0 (b := (x.size : Int) + 1) (by omega); have := Int.emod_lt_of_pos at0 (b := (x.size : Int) + 1) (by omega); omega⟩

set_option maxRecDepth 100000 in
set_option maxHeartbeats 2000000 in
theorem digestJoined_c (s : ByteArray) (at0 : Int) (_ : -9223372036854775808 ≤ at0 ∧ at0 ≤ 9223372036854775807) (w : World) (ht : Tabs w) :
    Calls Tryd.prog 10 #[.string s, .int .i64 at0] w fun e w' => e = .returned (.bool true) ∧ Below w.heap.size w w' := by
  have HT := Lib.hid ht
  clear ht
  obtain ⟨x, hx, hxs⟩ : ∃ x : ByteArray, x.size ≤ 300 ∧ ((s.size : Int) ≤ 300 ∧ s = x ∨ ¬ (s.size : Int) ≤ 300 ∧ s.extract 0 300 = x ∧ x.size = 300) := by
    by_cases h : (s.size : Int) ≤ 300
    · exact ⟨s, by omega, .inl ⟨h, rfl⟩⟩
    · exact ⟨s.extract 0 300, by simp; omega, .inr ⟨h, rfl, by simp; omega⟩⟩
  obtain ⟨k, hk, j1⟩ := joined_law x hx at0
  have CM := Lib.hid (fun w' => mod_any at0 ((x.size : Int) + 1) (by omega) (by omega) w')
  rw [hk] at CM
  clear hk
  have j2 : (k : Int) < (x.size : Int) + 1 := by omega
  have j0 : (0 : Int) ≤ (k : Int) := by omega
  have hj := joined x k (by omega)
  have hp : (x.extract 0 k).size ≤ 300 := by simp; omega
  have hq : (x.extract k x.size).size ≤ 300 := by simp; omega
  obtain ⟨p, ep⟩ : ∃ p, x.extract 0 k = p := ⟨_, rfl⟩
  obtain ⟨q, eq⟩ : ∃ p, x.extract k x.size = p := ⟨_, rfl⟩
  rw [ep] at hp; rw [eq] at hq; rw [ep, eq] at hj
  have k1 : ∀ w, (Op.stringOp .add p q).run Tryd.prog w = .ok (.string x) w := fun w => by rw [run_string_add_sum w _ _ (by omega), hj]
  obtain ⟨cs, C1, C2, hqc⟩ := sum_pack x (by omega)
  obtain ⟨ds, D1, D2, hqd⟩ := sum_pack q (by omega)
  clear hj hp hq
  rcases hxs with ⟨hs, rfl⟩ | ⟨hs, hx0, hx3⟩
  · go_enter Tryd.func10, Tryd.ntmps10
    go_wp2_with fail
    refine (sanity_c _ HT.out).mono ?_; rintro e w1 ⟨rfl, hb⟩
    have B1 := Lib.hid hb; clear hb
    go_wp2_with fail
    refine (CM.out _).mono ?_; rintro e w2 ⟨rfl, rfl⟩
    go_wp2_with fail
    go_region
    go_wp2_with fail
    have hN := Lib.hid (joinW_start w w2 40 p q B1.out)
    have s0 := hN.out.1
    have s1 := hN.out.2.1
    go_region_held3 (fun w' => w'.cell? ⟨w2.heap.size, 0, none⟩ = some (.string p) ∧ w'.cell? ⟨w2.heap.size, 1, none⟩ = some (.string q)) (first | exact ⟨hN.out.1, hN.out.2.1⟩ | simp [*, go_sem])
      (first
        | (go_at_call_of 12 (Value.string s); refine (C1.out _ (HT.out.below (by first | exact hN.out.2.2.2 | exact hN.out.2.2.2.drew))).mono ?_; rintro e wa ⟨rfl, hb⟩; have hN := Lib.hid (JoinW.below (by first | exact hN.out | exact hN.out.drew) hb); clear hb)
        | (go_at_call_of 13 (Value.string s); refine (C2.out _).mono ?_; rintro e wb ⟨rfl, hb⟩; have hN := Lib.hid (JoinW.below (by first | exact hN.out | exact hN.out.drew) hb); clear hb)
        | (go_at_call_of 12 (Value.string q); refine (D1.out _ (HT.out.below (by first | exact hN.out.2.2.2 | exact hN.out.2.2.2.drew))).mono ?_; rintro e wd ⟨rfl, hb⟩; have hN := Lib.hid (JoinW.below (by first | exact hN.out | exact hN.out.drew) hb); clear hb)
        | (go_at_call_of 13 (Value.string q); refine (D2.out _).mono ?_; rintro e we ⟨rfl, hb⟩; have hN := Lib.hid (JoinW.below (by first | exact hN.out | exact hN.out.drew) hb); clear hb))
    all_goals
      go_wp2
      go_ret
      exact ⟨rfl, hN.out.2.2.2⟩
  · clear hx3
    go_enter Tryd.func10, Tryd.ntmps10
    go_wp2_with fail
    refine (sanity_c _ HT.out).mono ?_; rintro e w1 ⟨rfl, hb⟩
    have B1 := Lib.hid hb; clear hb
    go_wp2_with fail
    refine (CM.out _).mono ?_; rintro e w2 ⟨rfl, rfl⟩
    go_wp2_with fail
    go_region
    go_wp2_with fail
    have hN := Lib.hid (joinW_start w w2 40 p q B1.out)
    have s0 := hN.out.1
    have s1 := hN.out.2.1
    go_region_held3 (fun w' => w'.cell? ⟨w2.heap.size, 0, none⟩ = some (.string p) ∧ w'.cell? ⟨w2.heap.size, 1, none⟩ = some (.string q)) (first | exact ⟨hN.out.1, hN.out.2.1⟩ | simp [*, go_sem])
      (first
        | (go_at_call_of 12 (Value.string x); refine (C1.out _ (HT.out.below (by first | exact hN.out.2.2.2 | exact hN.out.2.2.2.drew))).mono ?_; rintro e wa ⟨rfl, hb⟩; have hN := Lib.hid (JoinW.below (by first | exact hN.out | exact hN.out.drew) hb); clear hb)
        | (go_at_call_of 13 (Value.string x); refine (C2.out _).mono ?_; rintro e wb ⟨rfl, hb⟩; have hN := Lib.hid (JoinW.below (by first | exact hN.out | exact hN.out.drew) hb); clear hb)
        | (go_at_call_of 12 (Value.string q); refine (D1.out _ (HT.out.below (by first | exact hN.out.2.2.2 | exact hN.out.2.2.2.drew))).mono ?_; rintro e wd ⟨rfl, hb⟩; have hN := Lib.hid (JoinW.below (by first | exact hN.out | exact hN.out.drew) hb); clear hb)
        | (go_at_call_of 13 (Value.string q); refine (D2.out _).mono ?_; rintro e we ⟨rfl, hb⟩; have hN := Lib.hid (JoinW.below (by first | exact hN.out | exact hN.out.drew) hb); clear hb))
    all_goals
      go_wp2
      go_ret
      exact ⟨rfl, hN.out.2.2.2⟩
end Go.Proofs.YtjhljkcbbipeeaaDoor
