/- The blocks of a string, one behind the other: absorbed. -/
import Derived.Test.YtkjdfjpfghpofaaDoorGd
namespace Go.Proofs.YtkjdfjpfghpofaaDoor
open Go.RowKit

theorem stV_list (s : Sha.S8) : stV s = .agg (s.list.map (Value.int .u32)).toArray := rfl

/-- What stands in memory while blocks are absorbed. -/
def AbsW (w : World) (l : List Int) (wr : World) : Prop :=
  Blk .u32 wr w.heap.size 84 l ∧ Blk .u32 wr (w.heap.size + 1) 84 (List.replicate 8 0) ∧ TabB w 1 Sha.kL ∧ Below w.heap.size w wr

theorem AbsW.drewN {w wr : World} {l : List Int} (h : AbsW w l wr) (n : Nat) : AbsW w l (wr.drewN n) := ⟨h.1, h.2.1, h.2.2.1, bdn h.2.2.2 n⟩
theorem AbsW.drew {w wr : World} {l : List Int} (h : AbsW w l wr) : AbsW w l wr.drew := ⟨h.1, h.2.1, h.2.2.1, Below.drew h.2.2.2⟩
theorem absW_start (w : World) (xs zs : Array Value) (l : List Int) (hx : xs = (l.map (Value.int .u32)).toArray) (hz : zs = ((List.replicate 8 0).map (Value.int .u32)).toArray) (ht : TabB w 1 Sha.kL) :
    AbsW w l ((w.alloc (.cells xs 84)).alloc (.cells zs 84)) := by
  have hB : Below w.heap.size w ((w.alloc (.cells xs 84)).alloc (.cells zs 84)) := by (repeat' (first | (with_reducible exact Below.refl _ _) | (with_reducible assumption) | (with_reducible refine bdn ?_ _) | (with_reducible refine Below.drew ?_) | (with_reducible refine Below.alloc ?_ ?_ _) | (with_reducible refine Below.setCell ?_ ?_ _) | go_size))
  exact ⟨(Blk.new w l xs hx).alloc _, zeros_new _ _ _ .u32 8 _ (by simp) hz, ht, hB⟩
theorem AbsW.below {w wr w' : World} {l : List Int} (h : AbsW w l wr) (hb : Below wr.heap.size wr w') : AbsW w l w' :=
  ⟨h.1.below hb h.1.lt, h.2.1.below hb h.2.1.lt, h.2.2.1, h.2.2.2.trans (hb.mono h.2.2.2.size)⟩

theorem AbsW.tab {w wr : World} {l : List Int} (h : AbsW w l wr) : TabB wr 1 Sha.kL := h.2.2.1.below h.2.2.2
theorem AbsW.set {w wr : World} {l : List Int} (h : AbsW w l wr) (j : Nat) (v : Int) : AbsW w (l.set j v) (wr.setCell ⟨w.heap.size, j, none⟩ (.int .u32 v)) :=
  ⟨h.1.set j v, h.2.1.other _ _ (Nat.succ_ne_self _), h.2.2.1, h.2.2.2.setCell (Nat.le_refl _) _⟩
theorem AbsW.cells {w wr : World} {S : Sha.S8} (h : AbsW w S.list wr) : wr.cell? ⟨w.heap.size, 0, none⟩ = some (.int .u32 S.a) ∧ wr.cell? ⟨w.heap.size, 1, none⟩ = some (.int .u32 S.b) ∧ wr.cell? ⟨w.heap.size, 2, none⟩ = some (.int .u32 S.c) ∧ wr.cell? ⟨w.heap.size, 3, none⟩ = some (.int .u32 S.d) ∧ wr.cell? ⟨w.heap.size, 4, none⟩ = some (.int .u32 S.e) ∧ wr.cell? ⟨w.heap.size, 5, none⟩ = some (.int .u32 S.f) ∧ wr.cell? ⟨w.heap.size, 6, none⟩ = some (.int .u32 S.g) ∧ wr.cell? ⟨w.heap.size, 7, none⟩ = some (.int .u32 S.h) :=
  ⟨h.1.cell 0 (by simp [Sha.S8.list]), h.1.cell 1 (by simp [Sha.S8.list]), h.1.cell 2 (by simp [Sha.S8.list]), h.1.cell 3 (by simp [Sha.S8.list]), h.1.cell 4 (by simp [Sha.S8.list]), h.1.cell 5 (by simp [Sha.S8.list]), h.1.cell 6 (by simp [Sha.S8.list]), h.1.cell 7 (by simp [Sha.S8.list])⟩

set_option maxRecDepth 100000 in
set_option maxHeartbeats 1000000 in
theorem absorbed_c (s : Sha.S8) (bs : ByteArray) (m : Nat) (hm : bs.size = 64 * m) (hlo : m ≤ 70368744177664) (w : World) (ht : TabB w 1 Sha.kL) :
    Calls Tryd.prog 56 #[stV s, .string bs] w fun e w' => e = .returned (stV (Sha.absorb s bs m)) ∧ Below w.heap.size w w' := by
  have HT := Lib.hid ht; have HM := Lib.hid hm; have HLO := Lib.hid hlo
  clear ht hm hlo
  unfold stV
  go_enter Tryd.func56, Tryd.ntmps56
  go_wp2
  go_loopw [5] (fun i wr => ∃ n : Nat, n ≤ m ∧ i = .int .i64 (64 * (n : Int)) ∧ Hid (AbsW w (Sha.absorb s bs n).list wr)) (fun i _ => 64 * m - (intOf i).toNat)
  case atStart =>
    refine ⟨0, by omega, rfl, ?_⟩
    apply Lib.hid
    exact absW_start w _ _ s.list (by rfl) (by rfl) HT.out
  clear HT
  case round =>
    obtain ⟨n, hn, rfl, hM⟩ := hrel
    have HN := Lib.hid hn
    by_cases hlt : n < m
    · have hH : Sha.absorb s bs (n + 1) = Sha.plus8 (Sha.absorb s bs n) (Sha.rnds (Sha.grow (bs.extract (64 * n) (64 * n + 64)) 64) (Sha.absorb s bs n) 64) := rfl
      have HH := Lib.hid hH
      clear hH
      obtain ⟨S, hS⟩ : ∃ S, Sha.absorb s bs n = S := ⟨_, rfl⟩
      rw [hS] at HH hM
      clear hS
      have z1 : (64 * (n : Int)) < (bs.size : Int) := by rw [HM.out]; omega
      have z2 : (64 * (n : Int)) + 64 ≤ (bs.size : Int) := by rw [HM.out]; omega
      have z3 : IntKind.i64.wrap (64 * (n : Int) + 64) = 64 * (n : Int) + 64 := by have := HLO.out; rw [IntKind.wrap_i64]; omega
      have z4 : (0 : Int) ≤ 64 * (n : Int) := by omega
      have z5 : (64 * (n : Int)).toNat = 64 * n := by omega
      have z6 : (64 * (n : Int) + 64).toNat = 64 * n + 64 := by omega
      obtain ⟨c0, c1, c2, c3, c4, c5, c6, c7⟩ := hM.out.cells
      have z7 : 64 * (n : Int) ≤ 64 * (n : Int) + 64 := by omega
      have z8 : (0 : Int) ≤ 64 * (n : Int) + 64 := by omega
      have hsz : (bs.extract (64 * n) (64 * n + 64)).size = 64 := by have := HM.out; simp; omega
      obtain ⟨B, hB⟩ : ∃ B, bs.extract (64 * n) (64 * n + 64) = B := ⟨_, rfl⟩
      rw [hB] at hsz HH
      have HS := Lib.hid hsz
      have HLT := Lib.hid hlt
      clear hlt hn hsz
      go_wp2_with fail
      go_region_held3 (fun w' => w'.cell? ⟨w.heap.size, 0, none⟩ = some (.int .u32 S.a) ∧ w'.cell? ⟨w.heap.size, 1, none⟩ = some (.int .u32 S.b) ∧ w'.cell? ⟨w.heap.size, 2, none⟩ = some (.int .u32 S.c) ∧ w'.cell? ⟨w.heap.size, 3, none⟩ = some (.int .u32 S.d) ∧ w'.cell? ⟨w.heap.size, 4, none⟩ = some (.int .u32 S.e) ∧ w'.cell? ⟨w.heap.size, 5, none⟩ = some (.int .u32 S.f) ∧ w'.cell? ⟨w.heap.size, 6, none⟩ = some (.int .u32 S.g) ∧ w'.cell? ⟨w.heap.size, 7, none⟩ = some (.int .u32 S.h)) (simp [*, go_sem])
        (first
          | (go_at_call 64; refine (sched_c B HS.out _).mono ?_; rintro e w1 ⟨rfl, hb⟩; have hM1 : Hid (AbsW w S.list w1) := Lib.hid (AbsW.below (AbsW.drew hM.out) hb); obtain ⟨d0, d1, d2, d3, d4, d5, d6, d7⟩ := hM1.out.cells; clear hb)
          | (go_at_call 63; refine (mixed_c S (Sha.grow B 64) (Sha.grow_length B 64) _ hM1.out.tab).mono ?_; rintro e w2 ⟨rfl, hb⟩; have hM2 : Hid (AbsW w S.list w2) := Lib.hid (AbsW.below hM1.out hb); obtain ⟨e0, e1, e2, e3, e4, e5, e6, e7⟩ := hM2.out.cells; clear hb))
      clear c0 c1 c2 c3 c4 c5 c6 c7 d0 d1 d2 d3 d4 d5 d6 d7 e0 e1 e2 e3 e4 e5 e6 e7 z1 z2 z3 z4 z5 z6 z7 z8 hB hM hM1
      obtain ⟨R, hR⟩ : ∃ R, Sha.rnds (Sha.grow B 64) S 64 = R := ⟨_, rfl⟩
      rw [hR] at HH ⊢
      clear hR
      go_wp2_with fail
      go_loopw [6, 7, 22] (fun _ _ k wr => ∃ j : Nat, j ≤ 8 ∧ k = .int .i64 j ∧ Hid (AbsW w (Sha.addN S.list R.list j) wr)) (fun _ _ k _ => 8 - (intOf k).toNat)
      case atStart => exact ⟨0, by omega, rfl, by first | exact Lib.hid hM2.out | exact Lib.hid (AbsW.drew hM2.out)⟩
      clear hM2
      case round =>
        obtain ⟨j, hj, rfl, hM⟩ := hrel
        by_cases hlt : j < 8
        · have hc := hM.out.1.cell j (by rw [Sha.addN_length]; exact hlt)
          have hf := hM.out.1.free j
          have i0 : (0 : Int) ≤ (j : Int) := by omega
          have i1 : (j : Int) < 8 := by omega
          obtain ⟨x, hx⟩ : ∃ x, (Sha.addN S.list R.list j).getD j 0 = x := ⟨_, rfl⟩
          rw [hx] at hc
          have HX := Lib.hid hx
          clear hx
          have hx : ∀ w', (Instr.index 84 (stV R) (.int .i64 (j : Int))).run Tryd.prog w' = .ok (.int .u32 (R.list.getD j 0)) w' := fun w' => index_row (l := R.list) (n := 8) (e := 82) (by kernel_rfl) (by kernel_rfl) (by kernel_rfl) rfl hlt w'
          have HJ := Lib.hid hlt
          go_wp2
          go_roundw
          case rel =>
            refine ⟨j + 1, HJ.out, by go_num, Lib.hid ?_⟩
            have e := hM.out.set j (((Sha.addN S.list R.list j).getD j 0 + R.list.getD j 0) % 4294967296)
            rw [HX.out] at e
            rw [Sha.addN, HX.out]
            exact e
          case measure => simp only [intOf]; omega
        · obtain rfl : j = 8 := by omega
          have hb1 := HLT.out
          have hb2 := HLO.out
          go_wp2_with fail
          go_roundw
          case rel =>
            refine ⟨n + 1, by omega, by go_num, Lib.hid ?_⟩
            rw [HH.out]
            exact hM.out
          case measure => simp only [intOf]; omega
    · obtain rfl : n = m := by omega
      have z1 : ¬ (64 * (n : Int)) < (bs.size : Int) := by rw [HM.out]; omega
      clear HM HLO HN hn hlt
      obtain ⟨S, hS⟩ : ∃ S, Sha.absorb s bs n = S := ⟨_, rfl⟩
      have HS := Lib.hid hS
      rw [hS] at hM
      clear hS
      go_wp2_with (first
        | refine load_blk hM.out.1 rfl _ rfl rfl 8 82 (by kernel_rfl) (by kernel_rfl) ?_
        | refine store_blk hM.out.2.1 rfl _ _ rfl rfl S.list rfl rfl (by kernel_rfl) ?_)
      refine bodyPost_ret (Blk.result (hM.out.2.1.row S.list) Tryd.results56 _ rfl 8 82 (by kernel_rfl) (by kernel_rfl)) rfl ⟨by rw [HS.out]; rfl, Below.setRow hM.out.2.2.2 (by omega) _⟩
end Go.Proofs.YtkjdfjpfghpofaaDoor
