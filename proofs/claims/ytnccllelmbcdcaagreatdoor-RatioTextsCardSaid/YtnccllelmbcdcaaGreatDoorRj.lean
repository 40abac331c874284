/- The reference of layer 1: fit. Condition: the row holds digits. -/
import Derived.Test.YtnccllelmbcdcaaGreatDoorRi
namespace Go.Proofs.YtnccllelmbcdcaaGreatDoor
open Go.RowKit

theorem long_big {t : List Int} (ht : Dig.Trim t) (h : 4 < t.length) : 18446744073709551616 ≤ Dig.val t := by
  rcases ht with rfl | ht
  · simp at h
  · have := Dig.pw_mono (j := 4) (k := t.length - 1) (by omega)
    have h4 : Dig.pw 4 = 18446744073709551616 := by decide
    omega
theorem short_small {t : List Int} (ho : Dig.okL t) (h : t.length ≤ 4) : Dig.val t < 18446744073709551616 := by
  have := Dig.val_lt ho
  have := Dig.pw_mono (j := t.length) (k := 4) h
  have h4 : Dig.pw 4 = 18446744073709551616 := by decide
  omega
theorem drop_small {t : List Int} (ho : Dig.okL t) (h : t.length ≤ 4) (k : Nat) (hk : 0 < k) : 0 ≤ Dig.val (t.drop k) ∧ Dig.val (t.drop k) < 281474976710656 := by
  have hd : Dig.okL (t.drop k) := fun d hd => ho d (List.mem_of_mem_drop hd)
  have := Dig.val_lt hd
  have := Dig.pw_mono (j := (t.drop k).length) (k := 3) (by rw [List.length_drop]; omega)
  have h3 : Dig.pw 3 = 281474976710656 := by decide
  have := Dig.val_nonneg hd
  omega

theorem Num.fit_f1 {m : Int} (h : 9223372036854775808 ≤ m) : Num.fitV false m = 0 ∧ Num.fitO false m = false := by
  have : Num.fitO false m = false := by unfold Num.fitO; simp; omega
  exact ⟨by unfold Num.fitV; rw [this]; rfl, this⟩
theorem Num.fit_f2 {m : Int} (h : ¬ 9223372036854775808 ≤ m) : Num.fitV false m = m ∧ Num.fitO false m = true := by
  have : Num.fitO false m = true := by unfold Num.fitO; simp; omega
  exact ⟨by unfold Num.fitV; rw [this]; rfl, this⟩
theorem Num.fit_t1 {m : Int} (h : ¬ m ≤ 9223372036854775808) : Num.fitV true m = 0 ∧ Num.fitO true m = false := by
  have : Num.fitO true m = false := by unfold Num.fitO; simp; omega
  exact ⟨by unfold Num.fitV; rw [this]; rfl, this⟩
theorem Num.fit_t2 {m : Int} (h : m ≤ 9223372036854775808) : Num.fitV true m = -m ∧ Num.fitO true m = true := by
  have : Num.fitO true m = true := by unfold Num.fitO; simp; omega
  exact ⟨by unfold Num.fitV; rw [this]; rfl, this⟩

set_option maxHeartbeats 1600000 in
theorem fit_long (neg : Bool) (v : Value) (x : List Int) (w : World) (hv : RowV w v x) (ho : Dig.okL x) (hl : 4 < (Dig.trimL x).length) :
    Calls Tryz.prog 75 #[.agg #[.bool neg, v]] w fun e w' => e = .returned (.tuple #[.int .i64 0, .bool false]) ∧ Below w.heap.size w w' := by
  have HV := Lib.hid hv; have HO := Lib.hid ho; have HL := Lib.hid hl; clear hv ho hl
  go_enter Tryz.func75, Tryz.ntmps75
  go_wp2_with fail
  refine (trim_row _ x _ (HV.out.alloc _)).mono ?_; rintro e w2 ⟨v2, rfl, hv2, ⟨nq, rfl⟩, -⟩
  obtain ⟨q, n, c, rfl, hn⟩ : ∃ (q : Option Addr) (n c : Nat), v2 = .slice q n c ∧ (4 : Int) < (n : Int) := by
    rcases hv2 with ⟨rfl, h0⟩ | ⟨b, cap, rfl, _⟩
    · have := HL.out; rw [h0] at this; simp at this
    · exact ⟨_, _, _, rfl, by have := HL.out; omega⟩
  clear hv2
  go_wp2
  go_ret2
  exact ⟨rfl, by (repeat' (first | (with_reducible exact Below.refl _ _) | (with_reducible assumption) | (with_reducible refine bdn ?_ _) | (with_reducible refine Below.drew ?_) | (with_reducible refine Below.alloc ?_ ?_ _) | (with_reducible refine Below.setCell ?_ ?_ _) | go_size))⟩

set_option maxHeartbeats 4000000 in
set_option maxRecDepth 1000000 in
theorem fit_short (neg : Bool) (v : Value) (x : List Int) (w : World) (hv : RowV w v x) (ho : Dig.okL x) (hl : (Dig.trimL x).length ≤ 4) :
    Calls Tryz.prog 75 #[.agg #[.bool neg, v]] w fun e w' => e = .returned (.tuple #[.int .i64 (Num.fitV neg (Dig.val x)), .bool (Num.fitO neg (Dig.val x))]) ∧ Below w.heap.size w w' := by
  have HV := Lib.hid hv; have HO := Lib.hid (Dig.okL_trimL ho); have HL := Lib.hid hl; have HX := Lib.hid (Dig.val_trimL x); clear hv ho hl
  go_enter Tryz.func75, Tryz.ntmps75
  go_wp2_with fail
  refine (trim_row _ x _ (HV.out.alloc _)).mono ?_; rintro e w2 ⟨v2, rfl, hv2, ⟨nq, rfl⟩, -⟩
  generalize Dig.trimL x = t at *
  obtain ⟨q, n, c, rfl, hn, hn4, hq⟩ : ∃ (q : Option Addr) (n c : Nat), v2 = .slice q n c ∧ n = t.length ∧ n ≤ 4 ∧ (∀ j, j < n → ∃ b, q = some ⟨b, 0, none⟩ ∧ (w.alloc (.cells #[.bool neg, v] 74)).cell? ⟨b, j, none⟩ = some (.int .i64 (t.getD j 0))) := by
    rcases hv2 with ⟨rfl, h0⟩ | ⟨b, cap, rfl, hc, _, _⟩
    · exact ⟨_, _, _, rfl, by rw [h0]; rfl, by omega, fun j hj => by omega⟩
    · exact ⟨_, _, _, rfl, rfl, HL.out, fun j hj => ⟨b, rfl, hc j hj⟩⟩
  have HQ := Lib.hid hq; have HN := Lib.hid hn
  clear hv2 hq hn
  have n0 : ¬ (4 : Int) < (n : Int) := by omega
  have n1 : IntKind.i64.wrap ((n : Int) - 1) = (n : Int) - 1 := by rw [IntKind.wrap_i64]; omega
  go_wp2
  clear n1
  go_loopw [5, 6] (fun mv ix wr => ∃ (k : Nat) (m : Int), k ≤ n ∧ ix = .int .i64 ((k : Int) - 1) ∧ mv = .int .u64 m ∧ Hid (m = Dig.val (t.drop k)) ∧ ∃ nq', wr = (w.alloc (.cells #[.bool neg, v] 74)).drewN nq') (fun _ ix _ => (intOf ix + 1).toNat)
  case atStart => exact ⟨n, 0, Nat.le_refl _, rfl, rfl, Lib.hid (by rw [List.drop_eq_nil_of_le (by rw [HN.out]; exact Nat.le_refl _)]; rfl), _, rfl⟩
  case round =>
    obtain ⟨k, m, hk, rfl, rfl, hm, nq', rfl⟩ := hrel
    by_cases h0 : k = 0
    · subst h0
      have i0' : ¬ (0 : Int) ≤ ((0 : Nat) : Int) - 1 := by omega
      have hmN : Hid (m = Dig.val x) := Lib.hid (by have := hm.out; rw [List.drop_zero] at this; rw [this]; exact HX.out)
      have m0 : Hid (0 ≤ m ∧ m < 18446744073709551616) := Lib.hid (by have h1 := hm.out; rw [List.drop_zero] at h1; rw [h1]; exact ⟨Dig.val_nonneg HO.out, short_small HO.out HL.out⟩)
      clear hm
      cases neg
      · by_cases hb : 9223372036854775808 ≤ m
        · go_wp2
          refine bodyPost_ret (v := .tuple #[.int .i64 0, .bool false]) (by simp [results, Tryz.results75, go_sem]) rfl ⟨by rw [← hmN.out, (Num.fit_f1 (by omega)).1, (Num.fit_f1 (by omega)).2], below_drewN ((Below.refl _ _).alloc (Nat.le_refl _) _) _⟩
        · have hm63 : Hid (wrap64 m = m) := Lib.hid (by have := m0.out; unfold wrap64; omega)
          go_wp2
          refine bodyPost_ret (v := .tuple #[.int .i64 (wrap64 m), .bool true]) (by simp [results, Tryz.results75, go_sem]) rfl ⟨by rw [← hmN.out, (Num.fit_f2 (by omega)).1, (Num.fit_f2 (by omega)).2, hm63.out], below_drewN ((Below.refl _ _).alloc (Nat.le_refl _) _) _⟩
      · by_cases ha : m ≤ 9223372036854775808
        · have hm63 : Hid (wrap64 (IntKind.u64.wrap (-m)) = -m) := Lib.hid (by have := m0.out; unfold wrap64; rw [IntKind.wrap_u64]; omega)
          go_wp2
          refine bodyPost_ret (v := .tuple #[.int .i64 (wrap64 (IntKind.u64.wrap (-m))), .bool true]) (by simp [results, Tryz.results75, go_sem]) rfl ⟨by rw [← hmN.out, (Num.fit_t2 (by omega)).1, (Num.fit_t2 (by omega)).2, hm63.out], below_drewN ((Below.refl _ _).alloc (Nat.le_refl _) _) _⟩
        · have hb : 9223372036854775808 ≤ m := by omega
          go_wp2
          refine bodyPost_ret (v := .tuple #[.int .i64 0, .bool false]) (by simp [results, Tryz.results75, go_sem]) rfl ⟨by rw [← hmN.out, (Num.fit_t1 (by omega)).1, (Num.fit_t1 (by omega)).2], below_drewN ((Below.refl _ _).alloc (Nat.le_refl _) _) _⟩
    · obtain ⟨j, rfl⟩ : ∃ j, k = j + 1 := ⟨k - 1, by omega⟩
      have ej : ((j + 1 : Nat) : Int) - 1 = (j : Int) := by omega
      rw [ej]
      have j0 : (0 : Int) ≤ (j : Int) := by omega
      have j1 : (j : Int) < (n : Int) := by omega
      have j2 : IntKind.i64.wrap ((j : Int) - 1) = (j : Int) - 1 := by rw [IntKind.wrap_i64]; omega
      obtain ⟨p, hp⟩ : ∃ p, t.getD j 0 = p := ⟨_, rfl⟩
      obtain ⟨b, hqb, hcb⟩ := HQ.out j (by omega)
      have p0 : 0 ≤ p ∧ p < 65536 := by rw [← hp]; exact Dig.okL_getD HO.out j
      have m0 : 0 ≤ m ∧ m < 281474976710656 := by rw [hm.out]; exact drop_small HO.out HL.out (j + 1) (by omega)
      rw [hp] at hcb
      have z1 : IntKind.u64.wrap (m * 65536) = m * 65536 := by rw [IntKind.wrap_u64]; omega
      have z2 : IntKind.u64.wrap p = p := by rw [IntKind.wrap_u64]; omega
      have z3 : IntKind.u64.wrap (m * 65536 + p) = m * 65536 + p := by rw [IntKind.wrap_u64]; omega
      have hm2 := Lib.hid (show m * 65536 + p = Dig.val (t.drop j) by rw [Dig.val_drop (by rw [← HN.out]; omega), ← hm.out, hp]; omega)
      have hp := Lib.hid hp
      clear h0 ej
      subst hqb
      go_wp2
      case roundEnd => exact ⟨⟨j, _, by omega, rfl, rfl, hm2, _, rfl⟩, by simp [intOf]⟩

theorem fit_row (neg : Bool) (v : Value) (x : List Int) (w : World) (hv : RowV w v x) (ho : Dig.okL x) :
    Calls Tryz.prog 75 #[.agg #[.bool neg, v]] w fun e w' => e = .returned (.tuple #[.int .i64 (Num.fitV neg (Dig.val x)), .bool (Num.fitO neg (Dig.val x))]) ∧ Below w.heap.size w w' := by
  by_cases hl : (Dig.trimL x).length ≤ 4
  · exact fit_short neg v x w hv ho hl
  · have hb := long_big (Dig.trim_trimL ho) (by omega)
    rw [Dig.val_trimL] at hb
    have e : Num.fitV neg (Dig.val x) = 0 ∧ Num.fitO neg (Dig.val x) = false := by
      cases neg
      · exact Num.fit_f1 (by omega)
      · exact Num.fit_t1 (by omega)
    rw [e.1, e.2]
    exact fit_long neg v x w hv ho (by omega)
end Go.Proofs.YtnccllelmbcdcaaGreatDoor
