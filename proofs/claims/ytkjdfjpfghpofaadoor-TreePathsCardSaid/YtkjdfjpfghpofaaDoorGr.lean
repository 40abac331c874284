/- The hash of a string: Sum of the reference. -/
import Derived.Test.YtkjdfjpfghpofaaDoorGo
import Derived.Test.YtkjdfjpfghpofaaDoorGh
import Derived.Deep.RegionLaw
namespace Go.Proofs.YtkjdfjpfghpofaaDoor
open Go.RowKit

theorem Blk.storeCells {P : Program} {k : IntKind} {w : World} {b : Nat} {T : TypeId} {l : List Int} (h : Blk k w b T l) (l' : List Int) (hl : l'.length = l.length) :
    (storeCells ⟨b, 0, none⟩ (l'.map (Value.int k))).run P w = .ok () (w.setRow b (l'.map (Value.int k)).toArray) := by
  have := run_storeCells_from (P := P) b T (l'.map (Value.int k)) 0 _ w h (by simp [hl]) (fun v hv => by obtain ⟨x, _, rfl⟩ := List.mem_map.1 hv; rfl)
  simpa using this

/-- What stands in memory while the reference makes a hash. -/
def RsW (w : World) (S : List Int) (wr : World) : Prop := Blk .u8 wr w.heap.size 24 (List.replicate 32 0) ∧ Blk .u32 wr (w.heap.size + 1) 83 S ∧ Below w.heap.size w wr
theorem RsW.below {w wr w' : World} {S : List Int} (h : RsW w S wr) (hb : Below wr.heap.size wr w') : RsW w S w' := ⟨h.1.below hb h.1.lt, h.2.1.below hb h.2.1.lt, h.2.2.trans (hb.mono h.2.2.size)⟩
theorem RsW.drew {w wr : World} {S : List Int} (h : RsW w S wr) : RsW w S wr.drew := ⟨h.1, h.2.1, h.2.2.drew⟩
theorem RsW.drewN {w wr : World} {S : List Int} (h : RsW w S wr) (n : Nat) : RsW w S (wr.drewN n) := ⟨h.1, h.2.1, bdn h.2.2 n⟩
theorem RsW.cells {w wr : World} {S : Sha.S8} (h : RsW w S.list wr) : wr.there (w.heap.size + 1) 0 8 ∧ wr.cell? ⟨w.heap.size + 1, 0, none⟩ = some (.int .u32 S.a) ∧ wr.cell? ⟨w.heap.size + 1, 1, none⟩ = some (.int .u32 S.b) ∧ wr.cell? ⟨w.heap.size + 1, 2, none⟩ = some (.int .u32 S.c) ∧ wr.cell? ⟨w.heap.size + 1, 3, none⟩ = some (.int .u32 S.d) ∧ wr.cell? ⟨w.heap.size + 1, 4, none⟩ = some (.int .u32 S.e) ∧ wr.cell? ⟨w.heap.size + 1, 5, none⟩ = some (.int .u32 S.f) ∧ wr.cell? ⟨w.heap.size + 1, 6, none⟩ = some (.int .u32 S.g) ∧ wr.cell? ⟨w.heap.size + 1, 7, none⟩ = some (.int .u32 S.h) :=
  ⟨h.2.1.there 8 rfl, h.2.1.cell 0 (by simp [Sha.S8.list]), h.2.1.cell 1 (by simp [Sha.S8.list]), h.2.1.cell 2 (by simp [Sha.S8.list]), h.2.1.cell 3 (by simp [Sha.S8.list]), h.2.1.cell 4 (by simp [Sha.S8.list]), h.2.1.cell 5 (by simp [Sha.S8.list]), h.2.1.cell 6 (by simp [Sha.S8.list]), h.2.1.cell 7 (by simp [Sha.S8.list])⟩
theorem RsW.store {w wr : World} {S : List Int} (h : RsW w S wr) (S' : List Int) : RsW w S' (wr.setRow (w.heap.size + 1) (S'.map (Value.int .u32)).toArray) :=
  ⟨h.1.otherRow _ _ (by omega), h.2.1.row S', Below.setRow h.2.2 (by omega) _⟩
theorem rsW_start (w : World) (zs ys : Array Value) (hz : zs = ((List.replicate 32 0).map (Value.int .u8)).toArray) (hy : ys = (Sha.hS.list.map (Value.int .u32)).toArray) :
    RsW w Sha.hS.list ((w.alloc (.cells zs 24)).alloc (.cells ys 83)) := by
  have hB : Below w.heap.size w ((w.alloc (.cells zs 24)).alloc (.cells ys 83)) := by (repeat' (first | (with_reducible exact Below.refl _ _) | (with_reducible assumption) | (with_reducible refine bdn ?_ _) | (with_reducible refine Below.drew ?_) | (with_reducible refine Below.alloc ?_ ?_ _) | (with_reducible refine Below.setCell ?_ ?_ _) | go_size))
  have b := Blk.new (k := .u32) (T := 83) (w.alloc (.cells zs 24)) Sha.hS.list ys hy
  exact ⟨(zeros_new _ _ _ .u8 32 _ rfl hz).alloc _, by simpa using b, hB⟩

/-- .. while the bytes are laid. -/
def RhW (w : World) (d : Nat) (S l : List Int) (wr : World) : Prop := Blk .u8 wr w.heap.size 24 (List.replicate 32 0) ∧ Blk .u32 wr (w.heap.size + 1) 83 S ∧ Blk .u8 wr d 24 l ∧ Below w.heap.size w wr ∧ w.heap.size + 1 < d
theorem RhW.set {w wr : World} {d : Nat} {S l : List Int} (h : RhW w d S l wr) (j : Nat) (v : Int) : RhW w d S (l.set j v) (wr.setCell ⟨d, j, none⟩ (.int .u8 v)) := by
  have hd := h.2.2.2.2
  exact ⟨h.1.other _ _ (by omega : w.heap.size ≠ d), h.2.1.other _ _ (by omega : w.heap.size + 1 ≠ d), h.2.2.1.set j v, h.2.2.2.1.setCell (by omega : w.heap.size ≤ d) _, hd⟩
theorem rhW_start (w wr : World) (S : List Int) (zs : Array Value) (hz : zs = ((List.replicate 32 0).map (Value.int .u8)).toArray) (h : RsW w S wr) : RhW w wr.heap.size S (List.replicate 32 0) (wr.alloc (.cells zs 24)) :=
  ⟨h.1.alloc _, h.2.1.alloc _, zeros_new _ _ _ .u8 32 _ rfl hz, h.2.2.alloc h.2.2.size _, h.2.1.lt⟩

set_option maxRecDepth 100000 in
set_option maxHeartbeats 1000000 in
theorem refSum_c (s : ByteArray) (hs : s.size ≤ 140737488351240) (w : World) :
    Calls Tryd.prog 37 #[.string s] w fun e w' => e = .returned (hashV (Sha.sum s)) ∧ Below w.heap.size w w' := by
  have HS := Lib.hid hs
  clear hs
  obtain ⟨r, hr⟩ : ∃ r, Sha.sum s = r := ⟨_, rfl⟩
  have HR := Lib.hid hr
  rw [hr]
  clear hr
  go_enter Tryd.func37, Tryd.ntmps37
  go_wp2_with (first
    | (go_at_call 57; refine (padded_c s HS.out _).mono ?_; rintro e w1 ⟨rfl, hb⟩; have HB : Hid (RsW w Sha.hS.list w1) := Lib.hid (RsW.below (rsW_start w _ _ (by rfl) (by rfl)) hb); clear hb))
  have hm := Sha.msg_size s
  have hsum : r = Sha.hashN (Sha.absorb Sha.hS (Sha.msg s) ((Sha.msg s).size / 64)).list 32 := HR.out.symm
  have hbig : (Sha.msg s).size ≤ 140737488351240 + 128 := by
    have h2 : (Sha.padI s.size).length ≤ 72 := by simp [Sha.padI, Sha.zerosOf]; omega
    have h3 : (Sha.msg s).size = s.size + (Sha.padI s.size).length := by simp [Sha.msg, strOfNums_size]
    have := HS.out
    omega
  obtain ⟨M, hM⟩ : ∃ M, Sha.msg s = M := ⟨_, rfl⟩
  rw [hM] at hm hsum hbig ⊢
  obtain ⟨m, hmm⟩ : ∃ m, M.size / 64 = m := ⟨_, rfl⟩
  rw [hmm] at hm hsum
  have HM := Lib.hid (And.intro hm (And.intro hsum hbig))
  clear hM hmm hm hsum hbig HR
  go_loopw [5] (fun i wr => ∃ n : Nat, n ≤ m ∧ i = .int .i64 (64 * (n : Int)) ∧ Hid (RsW w (Sha.absorb Sha.hS M n).list wr)) (fun i _ => 64 * m - (intOf i).toNat)
  case atStart => exact ⟨0, by omega, rfl, HB⟩
  clear HB
  case round =>
    obtain ⟨n, hn, rfl, hM⟩ := hrel
    by_cases hlt : n < m
    · have hH : Sha.absorb Sha.hS M (n + 1) = Sha.compress (Sha.absorb Sha.hS M n) (M.extract (64 * n) (64 * n + 64)) := rfl
      have HLT := Lib.hid hlt
      obtain ⟨S, hS⟩ : ∃ S, Sha.absorb Sha.hS M n = S := ⟨_, rfl⟩
      rw [hS] at hH hM
      clear hS
      have z1 : (64 * (n : Int)) < (M.size : Int) := by rw [HM.out.1]; omega
      have z2 : (64 * (n : Int)) + 64 ≤ (M.size : Int) := by rw [HM.out.1]; omega
      have z3 : IntKind.i64.wrap (64 * (n : Int) + 64) = 64 * (n : Int) + 64 := by have := HM.out; rw [IntKind.wrap_i64]; omega
      have z4 : (0 : Int) ≤ 64 * (n : Int) := by omega
      have z5 : (64 * (n : Int)).toNat = 64 * n := by omega
      have z6 : (64 * (n : Int) + 64).toNat = 64 * n + 64 := by omega
      have z7 : 64 * (n : Int) ≤ 64 * (n : Int) + 64 := by omega
      have z8 : (0 : Int) ≤ 64 * (n : Int) + 64 := by omega
      have hsz : (M.extract (64 * n) (64 * n + 64)).size = 64 := by have := HM.out; simp; omega
      obtain ⟨B, hB⟩ : ∃ B, M.extract (64 * n) (64 * n + 64) = B := ⟨_, rfl⟩
      rw [hB] at hsz hH
      obtain ⟨R, hR⟩ : ∃ R, Sha.compress S B = R := ⟨_, rfl⟩
      have C1 : Hid (∀ w', Calls Tryd.prog 58 #[.agg #[.int .u32 S.a, .int .u32 S.b, .int .u32 S.c, .int .u32 S.d, .int .u32 S.e, .int .u32 S.f, .int .u32 S.g, .int .u32 S.h], .string B] w' fun e w'' => e = .returned (.agg (R.list.map (Value.int .u32)).toArray) ∧ Below w'.heap.size w' w'') := Lib.hid (fun w' => hR ▸ block_c S B hsz w')
      rw [hR] at hH
      obtain ⟨l, hl⟩ : ∃ l, R.list = l := ⟨_, rfl⟩
      have hll : l.length = 8 := by rw [← hl]; rfl
      rw [hl] at C1
      have HH := Lib.hid (And.intro hH (And.intro hl hll))
      have ho : ∀ v, v ∈ List.map (Value.int .u32) l → v.oneCell' = true := fun v hv => by obtain ⟨x, _, rfl⟩ := List.mem_map.1 hv; rfl
      have hi44 : (Tryd.prog.info? 83).map (·.size) = some 8 := by kernel_rfl
      have hnn : (List.map (Value.int .u32) l).length = 8 := by rw [List.length_map, hll]
      clear hR hl hH hll hsz
      obtain ⟨t0, c0, c1, c2, c3, c4, c5, c6, c7⟩ := hM.out.cells
      clear hlt hn
      go_wp2_with fail
      go_region_law (first
        | (go_simp; go_at_call 58; refine (C1.out _).mono ?_; rintro e w2 ⟨rfl, hb⟩; have hM2 : Hid (RsW w S.list w2) := Lib.hid (RsW.below (by first | exact hM.out | exact hM.out.drew | exact hM.out.drewN _) hb); have hst := hM2.out.2.1.storeCells (P := Tryd.prog) l HH.out.2.2; clear hb))
      all_goals
        go_wp2
        refine ⟨⟨n + 1, HLT.out, by rw [show 64 * (n : Int) + 64 = 64 * ((n + 1 : Nat) : Int) by omega], Lib.hid ?_⟩, by have := HLT.out; simp only [intOf]; omega⟩
        rw [HH.out.1, HH.out.2.1]
        exact hM2.out.store l
    · obtain rfl : n = m := by omega
      have z1 : ¬ (64 * (n : Int)) < (M.size : Int) := by rw [HM.out.1]; omega
      have hF := HM.out.2.1
      obtain ⟨S, hS⟩ : ∃ S, Sha.absorb Sha.hS M n = S := ⟨_, rfl⟩
      rw [hS] at hF hM
      have HF := Lib.hid hF
      obtain ⟨wa, hwa⟩ : ∃ v, v = wr := ⟨_, rfl⟩
      subst hwa
      clear HM hlt hn hS hF
      go_wp2_with fail
      go_loopw [7] (fun i wr => ∃ j : Nat, j ≤ 32 ∧ i = .int .i64 j ∧ Hid (RhW w wa.heap.size S.list (Sha.hashN S.list j) wr)) (fun i _ => 32 - (intOf i).toNat)
      case atStart =>
        refine ⟨0, by omega, rfl, ?_⟩
        apply Lib.hid
        exact rhW_start w wa S.list _ (by rfl) hM.out
      clear hM
      case round =>
        obtain ⟨j, hj, rfl, hM⟩ := hrel
        by_cases hlj : j < 32
        · have hc := hM.out.2.1.cell (j / 4) (by show _ < 8; omega)
          have hd := hM.out.2.2.1.cell j (by rw [Sha.hashN_length]; exact hlj)
          have hf := hM.out.2.2.1.free j
          obtain ⟨x, hx⟩ : ∃ x, S.list.getD (j / 4) 0 = x := ⟨_, rfl⟩
          obtain ⟨y, hy⟩ : ∃ x, (Sha.hashN S.list j).getD j 0 = x := ⟨_, rfl⟩
          rw [hx] at hc; rw [hy] at hd
          have HX := Lib.hid (And.intro hx hlj)
          clear hx hy z1
          have i0 : (j : Int) / 4 < 8 := by omega
          have i1 : (0 : Int) ≤ 3 - (j : Int) % 4 := by omega
          have i2 : (0 : Int) ≤ 8 * (3 - (j : Int) % 4) := by omega
          have i3 : (8 * (3 - (j : Int) % 4)).toNat = 24 - 8 * (j % 4) := by omega
          go_wp2_with fail
          refine ⟨⟨j + 1, HX.out.2, by go_num, Lib.hid ?_⟩, by have := HX.out.2; simp only [intOf]; omega⟩
          have e := hM.out.set j (x / 2 ^ (24 - 8 * (j % 4)) % 256)
          rw [Sha.hashN, HX.out.1]
          exact e
        · obtain rfl : j = 32 := by omega
          have hlen := Sha.hashN_length S.list 32
          obtain ⟨l, hl⟩ : ∃ l, Sha.hashN S.list 32 = l := ⟨_, rfl⟩
          have HL := Lib.hid hl
          rw [hl] at hM hlen
          have HN := Lib.hid hlen
          clear hl hlen hlj hj
          go_wp2_with (first
            | refine load_blk hM.out.2.2.1 rfl _ rfl rfl 32 5 (by kernel_rfl) (by rw [HN.out]; kernel_rfl) ?_
            | refine store_blk hM.out.1 rfl _ _ rfl rfl l rfl HN.out (by kernel_rfl) ?_)
          exact bodyPost_ret (Blk.result (hM.out.1.row l) Tryd.results37 _ rfl 32 5 (by kernel_rfl) (by rw [HN.out]; kernel_rfl)) rfl ⟨by rw [HF.out, HL.out]; rfl, Below.setRow hM.out.2.2.2.1 (Nat.le_refl _) _⟩
end Go.Proofs.YtkjdfjpfghpofaaDoor
